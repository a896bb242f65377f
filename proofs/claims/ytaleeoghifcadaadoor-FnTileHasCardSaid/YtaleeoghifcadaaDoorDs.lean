/- The library's binary numerals, as far as the program takes them. No law is stated here. -/
import Derived.Test.YtaleeoghifcadaaDoorDr
import Derived.Test.YtaleeoghifcadaaDoorDp0
import Derived.Test.YtaleeoghifcadaaDoorDh
import Derived.Laws.BitsAllLaws
namespace Go.Proofs.YtaleeoghifcadaaDoor
set_option linter.unusedSimpArgs false
set_option linter.unusedVariables false
open Go.RowKit

theorem bs_sz (l : List UInt8) : (bs l).size = l.length := by rw [← toL_len, toL_bs]
theorem bs_cat (l m : List UInt8) : bs l ++ bs m = bs (l ++ m) := toL_ext (by rw [toL_bs]; simp [toL, bs, ByteArray.data_append])
/-- the one cell of the library's table that is read -/
def Two (w : World) : Prop := w.cell? ⟨5, 1, none⟩ = some (.int .u8 1)
theorem Two.keep {w w' : World} (h : Two w) {B : Nat} (hB : 5 < B) (hb : Below B w w') : Two w' := (hb.cell (p := ⟨5, 1, none⟩) hB).trans h
theorem isPow_c (w : World) : Calls Tryd.prog 114 #[.int .i64 2] w fun e w' => e = .returned (.bool true) ∧ w = w' := by
  have h : bits .and .i64 2 1 = 0 := by decide
  go_enter Tryd.func114, Tryd.ntmps114
  go_wp2
  go_ret
  exact ⟨rfl, rfl⟩
theorem tz64_c (w : World) (h : Two w) : Calls Tryd.prog 123 #[.int .u64 2] w fun e w' => e = .returned (.int .i64 1) ∧ w = w' := by
  unfold Two at h
  have h1 : IntKind.u64.wrap (bits BinOp.and IntKind.u64 2 (IntKind.u64.wrap (-2)) * 285870213051353865) / 288230376151711744 = 1 := by decide
  go_enter Tryd.func123, Tryd.ntmps123
  go_wp2_with (simp only [h1, show (1 : Int).toNat = 1 from rfl])
  go_ret
  exact ⟨rfl, rfl⟩
theorem tz_c (w : World) (h : Two w) : Calls Tryd.prog 115 #[.int .u64 2] w fun e w' => e = .returned (.int .i64 1) ∧ w = w' := by
  have H := Lib.hid h
  clear h
  go_enter Tryd.func115, Tryd.ntmps115
  go_wp2_with (go_at_call 123; refine (tz64_c _ H.out).mono ?_; rintro e w' ⟨rfl, rfl⟩)
  go_ret
  exact ⟨rfl, rfl⟩
theorem open_alloc (w : World) (C : Array Value) (t : TypeId) (n : Nat) (h : C.size = n) : Open w.heap.size n (w.alloc (.cells C t)) := by
  intro j hj
  refine ⟨⟨C[j]'(by omega), ?_⟩, ?_⟩
  · rw [World.cell?_alloc_new]; simp [h, hj]
  · rw [frozen?_alloc_cells]; simp [World.frozen?]
theorem zero65 (w : World) : Sem.run Tryd.prog (zeroValue 144) w = .ok (.agg (Array.replicate 65 (.int .u8 0))) w := by kernel_rfl
def FbRel (n : Nat) (w : World) (m : Nat) (u i : Value) (wr : World) : Prop :=
  ∃ k : Nat, k + m = 60 ∧ k ≤ 51 ∧ u = .int .u64 (n / 2 ^ k : Nat) ∧ i = .int .i64 (65 - k : Nat) ∧ 1 ≤ n / 2 ^ k ∧ (∀ j, j < k → wr.cell? ⟨w.heap.size, 64 - j, none⟩ = some (encB (bitc ((n / 2 ^ j % 2 : Nat) : Int)))) ∧ Open w.heap.size 65 wr ∧ Below w.heap.size w wr
def FbPost (n : Nat) (w : World) (e : Ending) (w' : World) : Prop := ∃ l, e = .returned (.tuple #[.slice none 0 0, .string (bs l)]) ∧ Good l n ∧ Below w.heap.size w w'
theorem and_one (q : Nat) (hq : q < 18446744073709551616) : bits .and .u64 (q : Int) 1 = ((q % 2 : Nat) : Int) := by
  have := u64_and_nat q 1 hq (by omega)
  rw [Nat.and_one_is_mod] at this
  exact this
theorem FbRel.cells {n k : Nat} {w wr : World} {d : Nat} (h : ∀ j, j < k → wr.cell? ⟨w.heap.size, 64 - j, none⟩ = some (encB (bitc ((n / 2 ^ j % 2 : Nat) : Int)))) (ho : Open w.heap.size 65 wr) (hk : k ≤ 64) (hd : n / 2 ^ k % 2 = d) {x : Int} (hx : .int .u8 x = encB (bitc (d : Int))) :
    ∀ j, j < k + 1 → (wr.setCell ⟨w.heap.size, 64 - k, none⟩ (.int .u8 x)).cell? ⟨w.heap.size, 64 - j, none⟩ = some (encB (bitc ((n / 2 ^ j % 2 : Nat) : Int))) := by
  intro j hj
  by_cases e : j = k
  · subst e
    obtain ⟨u, hu⟩ := (ho (64 - j) (by omega)).1
    rw [set_same hu, hx, hd]
  · rw [set_other (by omega)]; exact h j (by omega)
theorem slice_c (b k : Nat) (W : World) (hk : k ≤ 64) : (Instr.sliceAt 144 (.pointer (some ⟨b, 0, none⟩)) (some (.int .i64 ((64 - k : Nat) : Int))) none none).run Tryd.prog W = .ok (.slice (some ⟨b, 64 - k, none⟩) (k + 1) (k + 1)) W := by
  have hA : Tryd.prog.arrayLen 144 = 65 := by kernel_rfl
  rw [run_sliceAt_array_l W _ _ (by kernel_rfl) .i64 _ (by omega) (by rw [hA]; omega), hA, Int.toNat_natCast]
  have hE : Tryd.prog.elem 144 = 5 := by kernel_rfl
  rw [hE]
  have hS : (sizeOf 5).run Tryd.prog W = .ok 1 W := by kernel_rfl
  rw [hS]
  show Result.ok (slicedAt _ _ _ _ _) W = _
  unfold slicedAt
  rw [if_neg (by omega)]
  simp [Addr.add]
  omega
theorem conv_c (b k n : Nat) (W : World) (hk : k ≤ 64) (hW : ∀ j, j < k + 1 → W.cell? ⟨b, 64 - j, none⟩ = some (encB (bitc ((n / 2 ^ j % 2 : Nat) : Int)))) : (convert 22 9 (.slice (some ⟨b, 64 - k, none⟩) (k + 1) (k + 1))).run Tryd.prog W = .ok (.string (bs (bl k n))) W := by
  have e := run_convert_bytes_back (P := Tryd.prog) W 22 9 5 ⟨b, 64 - k, none⟩ (k + 1) (bl k n) Tryd.underlying22 Tryd.underlying5 Tryd.underlying9 (fun j hj => by
    have hj2 : j < k + 1 := by have := bl_len k n; omega
    rw [show (⟨b, 64 - k, none⟩ : Addr).add j = ⟨b, 64 - (k - j), none⟩ by rw [Addr.add_lit, show 64 - k + j = 64 - (k - j) by omega]]
    rw [hW (k - j) (by omega)]
    have h2 := bl_at k n j (by omega)
    rw [List.getElem?_eq_getElem (by rw [bl_len]; omega)] at h2
    rw [Option.some.inj h2]; rfl)
  rw [bl_len] at e
  exact e

set_option maxRecDepth 100000 in
set_option maxHeartbeats 8000000 in
theorem formatBits_c (n : Nat) (w : World) (hn : 1 ≤ n) (hn2 : n ≤ 2251799813685247) (hT : Two w) (h6 : 5 < w.heap.size) : Calls Tryd.prog 103 #[.slice none 0 0, .int .u64 n, .int .i64 2, .bool false, .bool false] w (FbPost n w) := by
  have HT := Lib.hid hT
  clear hT
  go_enter Tryd.func103, Tryd.ntmps103
  go_wp2_with (rw [zero65])
  generalize hW : World.alloc _ _ = W0
  have hO := Lib.hid (show Open w.heap.size 65 W0 by rw [← hW]; exact open_alloc w _ _ 65 rfl)
  have hB0 := Lib.hid (show Below w.heap.size w W0 by rw [← hW]; (repeat' (first | assumption | exact Below.refl _ _ | apply Blw.alloc | apply Blw.drew | apply Blw.drewN | (refine Blw.after ?_ (by assumption)) | (refine Blw.set ?_ (by first | (dsimp only; omega) | (simp; done) | (simp; omega)) _))))
  have HT0 := Lib.hid (HT.out.keep h6 hB0.out)
  clear hW
  go_wp2_with (first | (go_at_call 114; refine (isPow_c _).mono ?_; rintro e w' ⟨rfl, rfl⟩) | (go_at_call 115; refine (tz_c _ HT0.out).mono ?_; rintro e w' ⟨rfl, rfl⟩))
  have S0 := Lib.hid (show FbRel n w 60 (.int .u64 n) (.int .i64 65) W0 from ⟨0, by omega, by omega, by rw [Nat.pow_zero, Nat.div_one], rfl, by rw [Nat.pow_zero, Nat.div_one]; exact hn, fun j hj => by omega, hO.out, hB0.out⟩)
  go_loopg [1, 13] 60 (fun m u i wr => FbRel n w m u i wr)
  case atStart => exact S0.out
  case round =>
    clear S0
    obtain ⟨k, hk, hk51, rfl, rfl, hq1, hc, ho, hB⟩ := hrel
    have HC := Lib.hid hc
    have HO := Lib.hid ho
    have hqn : n / 2 ^ k ≤ n := Nat.div_le_self _ _
    obtain ⟨⟨u0, c0⟩, f0⟩ := ho (64 - k) (by omega)
    have e1 : (((65 - k : Nat) : Int) - 1) = ((64 - k : Nat) : Int) := by omega
    clear hc ho
    by_cases h2 : 2 ≤ n / 2 ^ k
    · have hk50 : k + 1 ≤ 51 := by
        apply Nat.le_of_not_lt
        intro hlt
        have h51 : k = 51 := by omega
        rw [h51] at h2
        have := (Nat.le_div_iff_mul_le (by decide)).1 h2
        have e : (2 : Nat) ^ 51 = 2251799813685248 := by decide
        rw [e] at this
        omega
      have HD := Lib.hid (show n / 2 ^ (k + 1) = n / 2 ^ k / 2 by rw [Nat.pow_succ, ← Nat.div_div_eq_div_mul])
      have ha := and_one (n / 2 ^ k) (by omega)
      rcases Nat.mod_two_eq_zero_or_one (n / 2 ^ k) with hm | hm
      all_goals
        rw [hm] at ha
        have HCE := Lib.hid (fun x hx => FbRel.cells (d := _) (x := x) HC.out HO.out (by omega) hm hx)
        clear hm
        generalize hq : n / 2 ^ k = q at *
        have HQ := Lib.hid hq
        clear hq
        go_wp2
        go_roundg (gk - 1)
        case measure => omega
        case rel => exact ⟨k + 1, by omega, hk50, by rw [HD.out]; rfl, by congr 1; omega, by rw [HD.out]; omega, HCE.out _ rfl, HO.out.set, by (repeat' (first | assumption | exact Below.refl _ _ | apply Blw.alloc | apply Blw.drew | apply Blw.drewN | (refine Blw.after ?_ (by assumption)) | (refine Blw.set ?_ (by first | (dsimp only; omega) | (simp; done) | (simp; omega)) _)))⟩
    · have hq : n / 2 ^ k = 1 := by omega
      have HQ := Lib.hid hq
      have HCE := Lib.hid (fun x hx => FbRel.cells (d := 1) (x := x) HC.out HO.out (by omega) (by rw [hq]) hx)
      rw [hq]
      clear hq
      have hsl := fun W => slice_c w.heap.size k W (by omega)
      have hcv := fun W hW => conv_c w.heap.size k n W (by omega) hW
      go_wp2_with (rw [hcv]; rotate_left; exact HCE.out _ rfl)
      go_ret2
      exact ⟨bl k n, rfl, bl_good HQ.out, by (repeat' (first | assumption | exact Below.refl _ _ | apply Blw.alloc | apply Blw.drew | apply Blw.drewN | (refine Blw.after ?_ (by assumption)) | (refine Blw.set ?_ (by first | (dsimp only; omega) | (simp; done) | (simp; omega)) _)))⟩
end Go.Proofs.YtaleeoghifcadaaDoor

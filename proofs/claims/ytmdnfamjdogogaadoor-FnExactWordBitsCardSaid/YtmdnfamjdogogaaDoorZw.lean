/- Chapter 7: words of bits, of both sides. No law is stated here. -/
import Derived.Test.YtmdnfamjdogogaaDoorTz
import Derived.Test.YtmdnfamjdogogaaDoorZh
import Derived.Test.YtmdnfamjdogogaaDoorZb
namespace Go.Proofs.YtmdnfamjdogogaaDoor
set_option linter.unusedSimpArgs false
set_option linter.unusedVariables false
open Go.RowKit


theorem hbs_cat (l m : List UInt8) : bs l ++ bs m = bs (l ++ m) := toL_ext (by rw [toL_bs]; simp [toL, bs, ByteArray.data_append])
theorem hbs_sz (l : List UInt8) : (bs l).size = l.length := by rw [← toL_len, toL_bs]
theorem isPow16_c (w : World) : Calls Tryd.prog 75 #[.int .i64 16] w fun e w' => e = .returned (.bool true) ∧ w = w' := by
  have h : bits .and .i64 16 15 = 0 := by decide
  go_enter Tryd.func75, Tryd.ntmps75
  go_wp2
  go_ret
  exact ⟨rfl, rfl⟩
theorem hset_same {w : World} {g o : Nat} {u v : Value} (h : w.cell? ⟨g, o, none⟩ = some u) : (w.setCell ⟨g, o, none⟩ v).cell? ⟨g, o, none⟩ = some v := by
  go_simp
theorem hset_other {w : World} {g o o' : Nat} {v : Value} (hne : o' ≠ o) : (w.setCell ⟨g, o, none⟩ v).cell? ⟨g, o', none⟩ = w.cell? ⟨g, o', none⟩ := by
  simp only [World.setCell, World.cell?, Array.getElem?_modify, if_true]
  cases w.heap[g]? with
  | none => rfl
  | some x => cases x <;> simp [Array.getElem?_setIfInBounds, Ne.symm hne]
theorem hset_froz {w : World} {g o o' : Nat} {v : Value} : (w.setCell ⟨g, o, none⟩ v).frozen? ⟨g, o', none⟩ = w.frozen? ⟨g, o', none⟩ := by
  simp only [World.setCell, World.frozen?, Array.getElem?_modify, if_true]
  cases w.heap[g]? with
  | none => rfl
  | some x => cases x <;> rfl
def OpenH (g n : Nat) (w : World) : Prop := ∀ j, j < n → (∃ u, w.cell? ⟨g, j, none⟩ = some u) ∧ w.frozen? ⟨g, j, none⟩ = false
theorem OpenH.set {g n o : Nat} {w : World} {v : Value} (h : OpenH g n w) : OpenH g n (w.setCell ⟨g, o, none⟩ v) := fun j hj => by
  refine ⟨?_, hset_froz.trans (h j hj).2⟩
  by_cases e : j = o
  · subst e; obtain ⟨u, hu⟩ := (h j hj).1; exact ⟨v, hset_same hu⟩
  · rw [hset_other e]; exact (h j hj).1
theorem openH_alloc (w : World) (C : Array Value) (t : TypeId) (n : Nat) (h : C.size = n) : OpenH w.heap.size n (w.alloc (.cells C t)) := by
  intro j hj
  refine ⟨⟨C[j]'(by omega), ?_⟩, ?_⟩
  · rw [World.cell?_alloc_new]; simp [h, hj]
  · rw [frozen?_alloc_cells]; simp [World.frozen?]
theorem zero65H (w : World) : Sem.run Tryd.prog (zeroValue 110) w = .ok (.agg (Array.replicate 65 (.int .u8 0))) w := by kernel_rfl
def FhRel (n : Nat) (w : World) (m : Nat) (u i : Value) (wr : World) : Prop :=
  ∃ k q K : Nat, k + m = 7 ∧ q = n / 16 ^ k ∧ K = 65 - k ∧ u = .int .u64 (q : Nat) ∧ i = .int .i64 (K : Nat) ∧ (∀ j, j < k → wr.cell? ⟨w.heap.size, 64 - j, none⟩ = some (encB (hexc (n / 16 ^ j % 16)))) ∧ OpenH w.heap.size 65 wr ∧ Below w.heap.size w wr
theorem fh_cells {n k : Nat} {w wr : World} (h : ∀ j, j < k → wr.cell? ⟨w.heap.size, 64 - j, none⟩ = some (encB (hexc (n / 16 ^ j % 16)))) (ho : OpenH w.heap.size 65 wr) (hk : k ≤ 64) {x : Int} (hx : .int .u8 x = encB (hexc (n / 16 ^ k % 16))) :
    ∀ j, j < k + 1 → (wr.setCell ⟨w.heap.size, 64 - k, none⟩ (.int .u8 x)).cell? ⟨w.heap.size, 64 - j, none⟩ = some (encB (hexc (n / 16 ^ j % 16))) := by
  intro j hj
  by_cases e : j = k
  · subst e
    obtain ⟨u, hu⟩ := (ho (64 - j) (by omega)).1
    rw [hset_same hu, hx]
  · rw [hset_other (by omega)]; exact h j (by omega)
theorem sliceH_c (b k : Nat) (W : World) (hk : k ≤ 64) : (Instr.sliceAt 110 (.pointer (some ⟨b, 0, none⟩)) (some (.int .i64 ((64 - k : Nat) : Int))) none none).run Tryd.prog W = .ok (.slice (some ⟨b, 64 - k, none⟩) (k + 1) (k + 1)) W := by
  have hA : Tryd.prog.arrayLen 110 = 65 := by kernel_rfl
  rw [run_sliceAt_array_l W _ _ (by kernel_rfl) .i64 _ (by omega) (by rw [hA]; omega), hA, Int.toNat_natCast]
  have hE : Tryd.prog.elem 110 = 5 := by kernel_rfl
  rw [hE]
  have hS : (sizeOf 5).run Tryd.prog W = .ok 1 W := by kernel_rfl
  rw [hS]
  show Result.ok (slicedAt _ _ _ _ _) W = _
  unfold slicedAt
  rw [if_neg (by omega)]
  simp [Addr.add]
  omega
theorem convH_c (b k n : Nat) (W : World) (hk : k ≤ 64) (hW : ∀ j, j < k + 1 → W.cell? ⟨b, 64 - j, none⟩ = some (encB (hexc (n / 16 ^ j % 16)))) : (convert 25 9 (.slice (some ⟨b, 64 - k, none⟩) (k + 1) (k + 1))).run Tryd.prog W = .ok (.string (bs (hl k n))) W := by
  have e := run_convert_bytes_back (P := Tryd.prog) W 25 9 5 ⟨b, 64 - k, none⟩ (k + 1) (hl k n) Tryd.underlying25 Tryd.underlying5 Tryd.underlying9 (fun j hj => by
    have hj2 : j < k + 1 := by have := hl_len k n; omega
    rw [show (⟨b, 64 - k, none⟩ : Addr).add j = ⟨b, 64 - (k - j), none⟩ by rw [Addr.add_lit, show 64 - k + j = 64 - (k - j) by omega]]
    rw [hW (k - j) (by omega)]
    have h2 := hl_at (K := k) (n := n) (t := j) (by omega)
    rw [List.getElem?_eq_getElem (by rw [hl_len]; omega)] at h2
    rw [Option.some.inj h2]; rfl)
  rw [hl_len] at e
  exact e
theorem and15 (q : Nat) (hq : q < 18446744073709551616) : bits .and .u64 (q : Int) 15 = ((q % 16 : Nat) : Int) := by
  have := u64_and_nat q 15 hq (by omega)
  rw [show (15 : Nat) = 2 ^ 4 - 1 from rfl, Nat.and_two_pow_sub_one_eq_mod] at this
  exact this
def DGS : ByteArray := ⟨#[48, 49, 50, 51, 52, 53, 54, 55, 56, 57, 97, 98, 99, 100, 101, 102, 103, 104, 105, 106, 107, 108, 109, 110, 111, 112, 113, 114, 115, 116, 117, 118, 119, 120, 121, 122]⟩
theorem dgs_at {d : Nat} (h : d < 16) (h' : d < DGS.size) : DGS[d] = hexc d := by
  have key : ∀ i : Fin 16, DGS[i.1]'(Nat.lt_of_lt_of_le i.2 (by decide)) = hexc i.1 := by decide +kernel
  exact key ⟨d, h⟩
def FhPost (n : Nat) (w : World) (e : Ending) (w' : World) : Prop := ∃ k, e = .returned (.tuple #[.slice none 0 0, .string (bs (hl k n))]) ∧ k ≤ 7 ∧ n / 16 ^ k < 16 ∧ Below w.heap.size w w'
set_option maxRecDepth 100000 in
set_option maxHeartbeats 8000000 in
theorem formatHex_c (n : Nat) (w : World) (hn : n < 4294967296) (hT : Tz w) : Calls Tryd.prog 61 #[.slice none 0 0, .int .u64 n, .int .i64 16, .bool false, .bool false] w (FhPost n w) := by
  have h6 := hT.pos
  have HT := Lib.hid hT
  clear hT
  go_enter Tryd.func61, Tryd.ntmps61
  go_wp2_with (rw [zero65H])
  generalize hW : World.alloc _ _ = W0
  have hO := Lib.hid (show OpenH w.heap.size 65 W0 by rw [← hW]; exact openH_alloc w _ _ 65 rfl)
  have hB0 := Lib.hid (show Below w.heap.size w W0 by rw [← hW]; (first | ((repeat' with_reducible first | assumption | exact Below.refl _ _ | apply Blw.alloc | apply Blw.drew | apply Blw.drewN | (refine Blw.after ?_ (by assumption)) | (refine Blw.set ?_ (by first | (dsimp only; omega) | (simp; omega)) _)); done) | (repeat' (first | assumption | exact Below.refl _ _ | apply Blw.alloc | apply Blw.drew | apply Blw.drewN | (refine Blw.after ?_ (by assumption)) | (refine Blw.set ?_ (by first | (dsimp only; omega) | (simp; done) | (simp; omega)) _)))))
  have HT0 := Lib.hid (HT.out.keep h6 hB0.out)
  clear hW
  go_wp2_with (first | (go_at_call 75; refine (isPow16_c _).mono ?_; rintro e w' ⟨rfl, rfl⟩) | (go_at_call 76; refine (tz_c 16 4 1 _ HT0.out (by decide) (by decide) (by decide)).mono ?_; rintro e w' ⟨rfl, rfl⟩))
  have S0 := Lib.hid (show FhRel n w 7 (.int .u64 n) (.int .i64 65) W0 from ⟨0, n, 65, by omega, by rw [Nat.pow_zero, Nat.div_one], by omega, rfl, rfl, fun j hj => by omega, hO.out, hB0.out⟩)
  go_loopg [1, 13] 7 (fun m u i wr => FhRel n w m u i wr)
  case atStart => exact S0.out
  case round =>
    clear S0
    obtain ⟨k, q, K, hk, hqe, hKe, rfl, rfl, hc, ho, hB⟩ := hrel
    have HC := Lib.hid hc
    have HO := Lib.hid ho
    have hqn : q ≤ n := by rw [hqe]; exact Nat.div_le_self _ _
    obtain ⟨⟨u0, c0⟩, f0⟩ := ho (64 - k) (by omega)
    have e1 : ((K : Int) - 1) = ((64 - k : Nat) : Int) := by omega
    have hk7 : k ≤ 7 := by omega
    have HKE := Lib.hid hKe
    have HQE := Lib.hid hqe
    clear hc ho hKe
    have HDG := Lib.hid (fun (d : Nat) (hd : d < 16) (h' : d < DGS.size) => dgs_at hd h')
    by_cases h2 : 16 ≤ q
    · have hlt : k < 7 := by
        apply Nat.lt_of_not_le
        intro hle
        have h7 : k = 7 := by omega
        have : q ≤ 15 := by
          rw [hqe, h7]
          have e : (16 : Nat) ^ 7 = 268435456 := by decide
          rw [e]; omega
        omega
      have HD := Lib.hid (show q / 16 = n / 16 ^ (k + 1) by rw [hqe, Nat.pow_succ, ← Nat.div_div_eq_div_mul])
      have ha := and15 q (by omega)
      have HCE := Lib.hid (fun x hx => fh_cells (n := n) (x := x) HC.out HO.out (by omega) hx)
      rw [← hqe] at HCE
      have hd : q % 16 < 16 := Nat.mod_lt _ (by omega)
      generalize hdd : q % 16 = d at *
      clear hqe
      have hds : (d : Int) < 36 := by omega
      go_wp2
      go_roundg (gk - 1)
      case measure => omega
      case rel => exact ⟨k + 1, q / 16, 64 - k, by omega, HD.out, by have := HKE.out; omega, by first | rfl | (congr 1; omega), by first | rfl | (congr 1; omega), HCE.out _ (congrArg encB (HDG.out d hd (Nat.lt_trans hd (by decide)))), HO.out.set, by (first | ((repeat' with_reducible first | assumption | exact Below.refl _ _ | apply Blw.alloc | apply Blw.drew | apply Blw.drewN | (refine Blw.after ?_ (by assumption)) | (refine Blw.set ?_ (by first | (dsimp only; omega) | (simp; omega)) _)); done) | (repeat' (first | assumption | exact Below.refl _ _ | apply Blw.alloc | apply Blw.drew | apply Blw.drewN | (refine Blw.after ?_ (by assumption)) | (refine Blw.set ?_ (by first | (dsimp only; omega) | (simp; done) | (simp; omega)) _))))⟩
    · have hq16 : q < 16 := by omega
      have HCE := Lib.hid (fun x hx => fh_cells (n := n) (x := x) HC.out HO.out (by omega) hx)
      rw [← hqe, Nat.mod_eq_of_lt hq16] at HCE
      have hds : (q : Int) < 36 := by omega
      have HQ := Lib.hid (show n / 16 ^ k < 16 by rw [← hqe]; exact hq16)
      clear hqe
      have hsl := fun W => sliceH_c w.heap.size k W (by omega)
      have hcv := fun W hW => convH_c w.heap.size k n W (by omega) hW
      go_wp2_with (rw [hcv]; rotate_left; exact HCE.out _ (congrArg encB (HDG.out q hq16 (Nat.lt_trans hq16 (by decide)))))
      go_ret2
      exact ⟨k, rfl, hk7, HQ.out, by (first | ((repeat' with_reducible first | assumption | exact Below.refl _ _ | apply Blw.alloc | apply Blw.drew | apply Blw.drewN | (refine Blw.after ?_ (by assumption)) | (refine Blw.set ?_ (by first | (dsimp only; omega) | (simp; omega)) _)); done) | (repeat' (first | assumption | exact Below.refl _ _ | apply Blw.alloc | apply Blw.drew | apply Blw.drewN | (refine Blw.after ?_ (by assumption)) | (refine Blw.set ?_ (by first | (dsimp only; omega) | (simp; done) | (simp; omega)) _))))⟩
def FxPost (n : Nat) (w : World) (e : Ending) (w' : World) : Prop := ∃ k, e = .returned (.string (bs (hl k n))) ∧ k ≤ 7 ∧ n / 16 ^ k < 16 ∧ Below w.heap.size w w'
theorem fmtHexI_c (n : Nat) (w : World) (hn : n < 4294967296) (hT : Tz w) : Calls Tryd.prog 44 #[.int .u64 n, .int .i64 16] w (FxPost n w) := by
  have HT := Lib.hid hT
  clear hT
  go_enter Tryd.func44, Tryd.ntmps44
  go_wp2_with fail
  refine (formatHex_c n w hn HT.out).mono ?_
  rintro e w1 ⟨k, rfl, h1, h2, hb⟩
  have FIN := Lib.hid (show FxPost n w (.returned (.string (bs (hl k n)))) w1 from ⟨k, rfl, h1, h2, hb⟩)
  clear h1 h2 hb
  go_wp2_with fail
  go_ret
  exact FIN.out
theorem fmtHex_c (n : Nat) (w : World) (hn : n < 4294967296) (hT : Tz w) : Calls Tryd.prog 33 #[.int .u64 n, .int .i64 16] w (FxPost n w) := by
  have HT := Lib.hid hT
  clear hT
  go_enter Tryd.func33, Tryd.ntmps33
  go_wp2_with fail
  refine (fmtHexI_c n w hn HT.out).mono ?_
  rintro e w1 ⟨k, rfl, h1, h2, hb⟩
  have FIN := Lib.hid (show FxPost n w (.returned (.string (bs (hl k n)))) w1 from ⟨k, rfl, h1, h2, hb⟩)
  clear h1 h2 hb
  go_wp2_with fail
  go_ret
  exact FIN.out
def HxRel (n : Nat) (w : World) (m : Nat) (o i : Value) (wr : World) : Prop := ∃ t : Nat, t + m = 8 ∧ i = .int .i64 (7 - (t : Int)) ∧ o = .string (bs ((hl 7 n).take t)) ∧ wr = w
set_option maxRecDepth 100000 in
set_option maxHeartbeats 4000000 in
theorem l7Hex_c (n : Nat) (w : World) (hn : n < 4294967296) : Calls Tryd.prog 18 #[.int .u32 n] w fun e w' => e = .returned (.string (bs (hl 7 n))) ∧ w = w' := by
  have HT := Lib.hid (show (hl 7 n).take 8 = hl 7 n from List.take_of_length_le (by rw [hl_len]; exact Nat.le_refl _))
  have HS := Lib.hid (fun t (h : t ≤ 7) => hl_take (K := 7) (n := n) h)
  have HP := Lib.hid (fun d (h : d < 16) => hex_pick h)
  have hlen : ∀ t, (bs ((hl 7 n).take t)).size ≤ 8 := fun t => by rw [hbs_sz, List.length_take, hl_len]; omega
  have HL := Lib.hid hlen
  clear hlen
  go_enter Tryd.func18, Tryd.ntmps18
  go_wp2_with fail
  go_loopg [3, 4, 5] 8 (fun m o i k wr => HxRel n w m o i wr)
  case atStart => exact ⟨0, by omega, rfl, rfl, rfl⟩
  case round =>
    obtain ⟨t, ht, rfl, rfl, rfl⟩ := hrel
    by_cases h0 : gk = 0
    · subst h0
      obtain rfl : t = 8 := by omega
      go_wp2_with fail
      go_ret
      exact ⟨by rw [HT.out]; rfl, rfl⟩
    · have ht7 : t ≤ 7 := by omega
      have hST := Lib.hid (HS.out t ht7)
      have hsz := HL.out t
      have hsh : IntKind.i64.wrap (4 * (7 - (t : Int))) = ((4 * (7 - t) : Nat) : Int) := by rw [IntWalk.i64_in _ (by omega)]; omega
      have hdv : ((n : Int) / 2 ^ (4 * (7 - t))) = ((n / 16 ^ (7 - t) : Nat) : Int) := by
        have e : (16 : Nat) ^ (7 - t) = 2 ^ (4 * (7 - t)) := by rw [Nat.pow_mul]
        rw [e]; push_cast; rfl
      obtain ⟨q, hq⟩ : ∃ q, q = n / 16 ^ (7 - t) := ⟨_, rfl⟩
      have hqn : q ≤ n := by rw [hq]; exact Nat.div_le_self _ _
      have h15 : bits .and .u32 (q : Int) 15 = ((q % 16 : Nat) : Int) := by
        have := u32_and_nat q 15 (by omega) (by omega)
        rw [show (15 : Nat) = 2 ^ 4 - 1 from rfl, Nat.and_two_pow_sub_one_eq_mod] at this
        exact this
      have hd : q % 16 < 16 := Nat.mod_lt _ (by omega)
      rw [← hq] at hdv hST
      have hpk := HP.out (q % 16) hd
      have HQ := Lib.hid hq
      clear hq
      generalize hdd : q % 16 = d at *
      clear hdd
      have HR := Lib.hid (show bs ((hl 7 n).take (t + 1)) = bs ((hl 7 n).take t) ++ bs [hexc d] by rw [hST.out, hbs_cat])
      have hz1 : (bs [hexc d]).size ≤ 8 := by rw [hbs_sz, List.length_singleton]; omega
      generalize bs [hexc d] = U at *
      generalize bs ((hl 7 n).take t) = T at *
      clear hST
      go_wp2
      go_roundg (gk - 1)
      case measure => omega
      case rel => exact ⟨t + 1, by omega, by go_num, by rw [HR.out], rfl⟩
end Go.Proofs.YtmdnfamjdogogaaDoor

/- Chapter 4, the model's side: TurnUnfold, TurnWord. No law is stated here. -/
import Derived.Test.YtmdnfamjdogogaaDoorWb
import Derived.Sort.AtCall
namespace Go.Proofs.YtmdnfamjdogogaaDoor
set_option linter.unusedSimpArgs false
set_option linter.unusedVariables false
open Go.RowKit

theorem wdB_one {c : ByteArray} (h : wdB 1 c = true) (hne : ¬ c.toList = []) : (toL c == [108]) = true ∨ (toL c == [114]) = true := by
  have h1 := wdB_len h
  have h2 := wdB_all h
  rw [toList_toL] at hne
  rw [← toL_len] at h1
  generalize toL c = l at *
  cases l with
  | nil => exact absurd rfl hne
  | cons a r =>
    cases r with
    | nil => rcases wdC_or (h2 a (by simp)) with rfl | rfl <;> simp
    | cons b r => simp at h1
theorem wdB_oneR {c : ByteArray} (h : (toL c == [108]) = true ∨ (toL c == [114]) = true) : wdB 1 c = true := by
  rw [wdB_of (by rcases h with h | h <;> rw [← toL_len, eq_of_beq h] <;> simp)]
  refine onlyW_good fun a ha => ?_
  rcases h with h | h <;> rw [eq_of_beq h] at ha <;> simp at ha <;> rw [ha] <;> rfl
theorem unfB_bad {s c : ByteArray} (h : wdB 1 c = false) : unfB s c = false := by
  unfold unfB
  rw [Bool.and_eq_false_iff]
  right
  rw [← Bool.not_eq_true, Bool.or_eq_true]
  intro e
  rw [wdB_oneR e] at h
  cases h
theorem unfB_empty {s c : ByteArray} (h : c.toList = []) : unfB s c = false := by
  rw [toList_toL] at h
  unfold unfB
  rw [h]; simp
/-! ### words of turns -/
def STwRel (s : ByteArray) (w : World) (m : Nat) (v i : Value) (wr : World) : Prop :=
  ∃ (k : Nat) (t : ByteArray), k + m = s.size ∧ v = .string t ∧ toL t = turnsL ((toL s).take k) ∧ i = .int .i64 k ∧ Below w.heap.size w wr
abbrev twV (s : ByteArray) : Value := strV (wdB 10 s) (turnsL (toL s))
theorem twV_t {s : ByteArray} (h : wdB 10 s = true) : twV s = .tuple #[.string (bs (turnsL (toL s))), .bool true] := strV_t h _
theorem twV_f {s : ByteArray} (h : wdB 10 s = false) : twV s = .tuple #[.string ⟨#[]⟩, .bool false] := strV_f h _
set_option maxRecDepth 100000 in
set_option maxHeartbeats 4000000 in
theorem sTurnWord_c (s : ByteArray) (w : World) : Calls Tryd.prog 41 #[.string s] w fun e w' => e = .returned (twV s) ∧ Below w.heap.size w w' := by
  rcases Bool.eq_false_or_eq_true (wdB 10 s) with h | h
  · have H := Lib.hid (twV_t h)
    have HW := Lib.hid h
    have hsz := wdB_len h
    go_enter Tryd.func41, Tryd.ntmps41
    go_wp2_with (first | (go_at_call 27; refine (l4Word_c _ 10 _ (by decide)).mono ?_; rintro e w1 ⟨rfl, rfl⟩))
    clear h
    go_loopg [4, 5] s.size (fun m v i wr => STwRel s w m v i wr)
    case atStart => exact ⟨0, ⟨#[]⟩, by omega, rfl, rfl, rfl, Below.refl _ _⟩
    case round =>
      obtain ⟨k, t, hk, rfl, ht, rfl, hB⟩ := hrel
      by_cases hlt : k < s.size
      · have hl := turnsL_len ((toL s).take k)
        rw [List.length_take, toL_len, Nat.min_eq_left (by omega)] at hl
        have hp : 2 ^ k ≤ 2 ^ 10 := Nat.pow_le_pow_right (by omega) (by omega)
        have hp2 : (2 : Nat) ^ 10 = 1024 := by decide
        have hts : t.size ≤ 1023 := by rw [← toL_len, ht]; omega
        have HE := extract_one s k hlt
        have z2 : (s.extract k (k + 1)).size = 1 := by rw [← toL_len, HE]; rfl
        have z3 : (bs (backL (toL t))).size = t.size := by rw [bsz, backL_len, toL_len]
        have z1 : (t ++ s.extract k (k + 1)).size = t.size + 1 := by rw [ByteArray.size_append, z2]
        have HS := Lib.hid (show toL (t ++ s.extract k (k + 1) ++ bs (backL (toL t))) = turnsL ((toL s).take (k + 1)) by
          rw [toL_app, toL_app, toL_bs, HE, take_snocB s k hlt, turnsL_snoc, ht])
        have q1 : ¬ (9223372036854775807 < t.size + 1) := by omega
        have q2 : ¬ (9223372036854775807 < t.size + 1 + t.size) := by omega
        obtain ⟨K, hK⟩ : ∃ K, K = k + 1 := ⟨_, rfl⟩
        have HK := Lib.hid hK
        rw [← hK] at z1 z2 HS
        have q0 : IntKind.i64.wrap ((K : Nat) : Int) = (K : Int) := by rw [IntKind.wrap_i64]; omega
        have hKk : k ≤ K := by omega
        have hKs : K ≤ s.size := by omega
        have q3 : (k : Int) + 1 = (K : Nat) := by omega
        clear hl hp hp2 ht HE hK
        go_upto_region 7 with fail
        have hNE : ∀ w, Nonempty (BelowW w) := BelowW.none
        refine wp_region_below (by kernel_rfl) (by kernel_rfl) ?_
        repeat
          (with_reducible refine wpQuiet_step ?_
           intro K hK
           go_simp
           first
             | (refine hK _ ?_; clear hK K)
             | (apply Exists.intro
                refine ⟨fun xW => ?_, hK _ ?_⟩
                ((go_at_call 57; exact Calls.below (sBack_c _ _ (by omega))))
                clear hK K))
        with_reducible refine wpQuiet_nil ?_
        rintro _ ⟨⟨w2, hb2⟩, rfl⟩
        try dsimp only
        go_wp2_with fail
        go_roundg (gk - 1)
        case measure => omega
        case rel => exact ⟨K, _, by have := HK.out; omega, rfl, HS.out, by first | rfl | (have := HK.out; go_num), by (first | ((repeat' with_reducible first | assumption | exact Below.refl _ _ | apply Blw.alloc | apply Blw.drew | apply Blw.drewN | (refine Blw.after ?_ (by assumption)) | (refine Blw.set ?_ (by first | (dsimp only; omega) | (simp; omega)) _)); done) | (repeat' (first | assumption | exact Below.refl _ _ | apply Blw.alloc | apply Blw.drew | apply Blw.drewN | (refine Blw.after ?_ (by assumption)) | (refine Blw.set ?_ (by first | (dsimp only; omega) | (simp; done) | (simp; omega)) _))))⟩
      · have HS := Lib.hid (show t = bs (turnsL (toL s)) from toL_ext (by rw [toL_bs, ht, take_allB s k (by omega)]))
        go_wp2
        go_ret2
        exact ⟨by rw [H.out, ← HS.out]; rfl, hB⟩
  · have H := Lib.hid (twV_f h)
    go_enter Tryd.func41, Tryd.ntmps41
    go_wp2_with (first | (go_at_call 27; refine (l4Word_c _ 10 _ (by decide)).mono ?_; rintro e w1 ⟨rfl, rfl⟩))
    go_ret2
    exact ⟨by rw [H.out]; rfl, by (first | ((repeat' with_reducible first | assumption | exact Below.refl _ _ | apply Blw.alloc | apply Blw.drew | apply Blw.drewN | (refine Blw.after ?_ (by assumption)) | (refine Blw.set ?_ (by first | (dsimp only; omega) | (simp; omega)) _)); done) | (repeat' (first | assumption | exact Below.refl _ _ | apply Blw.alloc | apply Blw.drew | apply Blw.drewN | (refine Blw.after ?_ (by assumption)) | (refine Blw.set ?_ (by first | (dsimp only; omega) | (simp; done) | (simp; omega)) _))))⟩
end Go.Proofs.YtmdnfamjdogogaaDoor

/- Chapter 2: what is an expansion, of both sides. -/
import Derived.Test.YtaleeoghifcadaaDoorOo
import Derived.Laws.RangeString
import Derived.Laws.RangeAny
import Derived.Deep.LoopGhost
import Derived.Lib.OthersKept
import Derived.Outline
namespace Go.Proofs.YtaleeoghifcadaaDoor
set_option linter.unusedSimpArgs false
set_option linter.unusedVariables false
open Go.RowKit

/-- the first bytes are digits; so many are left -/
def VRel (s : ByteArray) (w : World) (m : Nat) (i : Value) (wr : World) : Prop := ∃ k : Nat, k + m = s.size ∧ i = .int .i64 k ∧ wr = w ∧ ∀ c ∈ (toL s).take k, bitC c = true
theorem VRel.step {s : ByteArray} {k : Nat} (hk : k < s.size) (h : ∀ c ∈ (toL s).take k, bitC c = true) (hc : s[k].toNat = 48 ∨ s[k].toNat = 49) : ∀ c ∈ (toL s).take (k + 1), bitC c = true := by
  rw [take_snocB s k hk]
  intro c hm
  rcases List.mem_append.1 hm with hm | hm
  · exact h c hm
  · rw [List.mem_singleton] at hm; rw [hm]; exact (bitC_iff _).2 hc
theorem lead_cases (s : ByteArray) (h1 : 1 ≤ s.size) : ((s.toList == [48]) = false ∧ s[0].toNat = 48) ∨ ((s.toList == [48]) = true ∧ s[0].toNat = 48) ∨ s[0].toNat ≠ 48 := by
  by_cases h : s[0].toNat = 48 <;> cases (s.toList == [48]) <;> simp [h]
/-- the same, with the iterator's block -/
def VRelR (s : ByteArray) (w : World) (m : Nat) (wr : World) : Prop := ∃ k : Nat, k + m = s.size ∧ wr = w.iter s k ∧ ∀ c ∈ (toL s).take k, bitC c = true
/-- a text has no other bytes than digits -/
def onlyB (s : ByteArray) : Bool := (toL s).all bitC
theorem onlyB_bad {s : ByteArray} (k : Nat) (hk : k < s.size) (h : ¬ (s[k].toNat = 48 ∨ s[k].toNat = 49)) : onlyB s = false := by
  rw [← Bool.not_eq_true]
  intro e
  exact h ((bitC_iff _).1 (List.all_eq_true.1 e _ (List.mem_of_getElem? (toL_get s k hk))))
theorem onlyB_good {s : ByteArray} (h : ∀ c ∈ toL s, bitC c = true) : onlyB s = true := List.all_eq_true.2 h
theorem onlyB_bits {s : ByteArray} (h : onlyB s = true) : ∀ c ∈ toL s, bitC c = true := List.all_eq_true.1 h
theorem vldB_only {s : ByteArray} (h0 : 1 ≤ s.size) (h1 : s.size ≤ 50) (h2 : (toL s == [48]) = true ∨ s[0].toNat ≠ 48) : vldB s = onlyB s := by
  cases h : onlyB s
  · rw [← Bool.not_eq_true]
    intro e
    rw [onlyB_good (vldB_bits e)] at h
    cases h
  · exact vldB_good h0 h1 h2 (onlyB_bits h)
theorem onlyB_XY (s : ByteArray) : onlyXY 48 49 s = onlyB s := by
  unfold onlyXY onlyB
  congr 1
  funext c
  rw [Bool.eq_iff_iff, isXY_iff, bitC_iff]
  omega
theorem iOnly_c (s : ByteArray) (w : World) : Calls Tryd.prog 80 #[.string s] w fun e w' => e = .returned (.bool (onlyB s)) ∧ Below w.heap.size w w' := by
  have H := Lib.hid (onlyB_XY s)
  go_enter Tryd.func80, Tryd.ntmps80
  go_wp2_with (go_at_call 89; refine (onlyOf_c 48 49 _ _ (by decide) (by decide)).mono ?_; rintro e w1 ⟨rfl, hb⟩; obtain ⟨hc, hf⟩ := bcell hb; have hz := bsize hb; have hs := hb.size; try simp at hs)
  go_ret
  exact ⟨by rw [← H.out]; rfl, by (repeat' (first | assumption | exact Below.refl _ _ | apply Blw.alloc | apply Blw.drew | apply Blw.drewN | (refine Blw.after ?_ (by assumption)) | (refine Blw.set ?_ (by first | (dsimp only; omega) | (simp; done) | (simp; omega)) _)))⟩
set_option maxHeartbeats 1000000 in
theorem iDigitsValid_c (s : ByteArray) (w : World) : Calls Tryd.prog 61 #[.string s] w fun e w' => e = .returned (.bool (vldB s)) ∧ Below w.heap.size w w' := by
  by_cases h0 : 1 ≤ s.size ∧ s.size ≤ 50
  · obtain ⟨h1, h2⟩ := h0
    have hlt : 0 < s.size := by omega
    rcases lead_cases s h1 with ⟨h4, h5⟩ | h5
    · have H := Lib.hid (vldB_lead hlt h5 (by rw [← toList_toL]; exact h4))
      have h6 : ((s[0].toNat : Int) == 48) = true := by simp [h5]
      clear h5
      go_enter Tryd.func61, Tryd.ntmps61
      go_wp2
      go_ret
      exact ⟨by rw [H.out]; rfl, by (repeat' (first | assumption | exact Below.refl _ _ | apply Blw.alloc | apply Blw.drew | apply Blw.drewN | (refine Blw.after ?_ (by assumption)) | (refine Blw.set ?_ (by first | (dsimp only; omega) | (simp; done) | (simp; omega)) _)))⟩
    · have H := Lib.hid (vldB_only h1 h2 (h5.elim (fun h => Or.inl (by rw [← toList_toL]; exact h.1)) Or.inr))
      rcases h5 with ⟨h4, h5⟩ | h5
      all_goals
        first | have h6 : ((s[0].toNat : Int) == 48) = true := by simp [h5]
              | have h6 : ((s[0].toNat : Int) == 48) = false := by simp; omega
        clear h5
        go_enter Tryd.func61, Tryd.ntmps61
        go_wp2_with (go_at_call 80; refine (iOnly_c _ _).mono ?_; rintro e w1 ⟨rfl, hb⟩; obtain ⟨hc, hf⟩ := bcell hb; have hz := bsize hb; have hs := hb.size; try simp at hs)
        go_ret
        exact ⟨by rw [H.out]; rfl, by (repeat' (first | assumption | exact Below.refl _ _ | apply Blw.alloc | apply Blw.drew | apply Blw.drewN | (refine Blw.after ?_ (by assumption)) | (refine Blw.set ?_ (by first | (dsimp only; omega) | (simp; done) | (simp; omega)) _)))⟩
  · have H := Lib.hid (show vldB s = false from by rcases Nat.lt_or_ge s.size 1 with h | h; exact vldB_empty h; exact vldB_long (by omega))
    by_cases h1 : s.size < 1
    · go_enter Tryd.func61, Tryd.ntmps61
      go_wp2
      go_ret
      exact ⟨by rw [H.out]; rfl, by (repeat' (first | assumption | exact Below.refl _ _ | apply Blw.alloc | apply Blw.drew | apply Blw.drewN | (refine Blw.after ?_ (by assumption)) | (refine Blw.set ?_ (by first | (dsimp only; omega) | (simp; done) | (simp; omega)) _)))⟩
    · go_enter Tryd.func61, Tryd.ntmps61
      go_wp2
      go_ret
      exact ⟨by rw [H.out]; rfl, by (repeat' (first | assumption | exact Below.refl _ _ | apply Blw.alloc | apply Blw.drew | apply Blw.drewN | (refine Blw.after ?_ (by assumption)) | (refine Blw.set ?_ (by first | (dsimp only; omega) | (simp; done) | (simp; omega)) _)))⟩
end Go.Proofs.YtaleeoghifcadaaDoor

/- Chapter 2: sums and their carries, of both sides. -/
import Derived.Test.YtlcafjdinjdllaaDoorDl
import Derived.Test.YtlcafjdinjdllaaDoorDj
namespace Go.Proofs.YtlcafjdinjdllaaDoor
set_option linter.unusedSimpArgs false
set_option linter.unusedVariables false
open Go.RowKit

def addV (a b : ByteArray) : Value := if vldB a && vldB b then exV (outA a b (stepsA a b)) else .tuple #[.string ⟨#[]⟩, .bool false]
theorem addV_yes {a b : ByteArray} (ha : vldB a = true) (hb : vldB b = true) : addV a b = exV (outA a b (stepsA a b)) := by unfold addV; rw [ha, hb]; rfl
theorem addV_no {a b : ByteArray} (h : vldB a = false ∨ vldB b = false) : addV a b = .tuple #[.string ⟨#[]⟩, .bool false] := by
  unfold addV; rcases h with h | h <;> rw [h] <;> simp
theorem addV_shape (a b : ByteArray) : ∃ s ok, addV a b = .tuple #[.string s, .bool ok] := by
  unfold addV; split
  · exact exV_shape _
  · exact ⟨_, _, rfl⟩
/-- what addDigits leaves, whatever the texts -/
def AddAll (a b : ByteArray) (w : World) (e : Ending) (w' : World) : Prop :=
  ∃ (s : ByteArray) (ok : Bool) (v : Value), addV a b = .tuple #[.string s, .bool ok] ∧ e = .returned (.tuple #[.string s, v, .bool ok]) ∧ (ok = true → vldB a = true ∧ vldB b = true ∧ w'.ownsRow w.heap.size 29 2 v (stepsA a b) (gcells (carA a b (stepsA a b)))) ∧ (ok = false → v = .slice none 0 0) ∧ Below w.heap.size w w'
set_option maxRecDepth 100000 in
set_option maxHeartbeats 1000000 in
theorem addDigits_c (a b : ByteArray) (w : World) (hT : Tab w) : Calls Tryd.prog 41 #[.string a, .string b] w (AddAll a b w) := by
  rcases Bool.eq_false_or_eq_true (vldB a) with ha | ha
  · rcases Bool.eq_false_or_eq_true (vldB b) with hb | hb
    · refine (addDigits_yes a b w hT ha hb).mono fun e w' h => ?_
      obtain ⟨s, ok, v, h1, h2, h3, h4, h5⟩ := h
      exact ⟨s, ok, v, (addV_yes ha hb).trans h1, h2, fun h => ⟨ha, hb, h3 h⟩, h4, h5⟩
    · have H := Lib.hid (addV_no (a := a) (b := b) (Or.inr hb))
      clear hT
      go_enter Tryd.func41, Tryd.ntmps41
      go_wp2_with (first | (go_at_call 12; refine (iDigitsValid_c _ _).mono ?_; rintro e w1 ⟨rfl, hb⟩; obtain ⟨hc, hf⟩ := bcell hb; have hz := bsize hb; have hs := hb.size; try simp at hs))
      go_ret3
      exact ⟨_, false, _, H.out, rfl, (fun h => by cases h), (fun _ => rfl), by (repeat' (first | assumption | exact Below.refl _ _ | apply Blw.alloc | apply Blw.drew | apply Blw.drewN | (refine Blw.after ?_ (by assumption)) | (refine Blw.set ?_ (by first | (dsimp only; omega) | (simp; done) | (simp; omega)) _)))⟩
  · have H := Lib.hid (addV_no (a := a) (b := b) (Or.inl ha))
    clear hT
    go_enter Tryd.func41, Tryd.ntmps41
    go_wp2_with (first | (go_at_call 12; refine (iDigitsValid_c _ _).mono ?_; rintro e w1 ⟨rfl, hb⟩; obtain ⟨hc, hf⟩ := bcell hb; have hz := bsize hb; have hs := hb.size; try simp at hs))
    go_ret3
    exact ⟨_, false, _, H.out, rfl, (fun h => by cases h), (fun _ => rfl), by (repeat' (first | assumption | exact Below.refl _ _ | apply Blw.alloc | apply Blw.drew | apply Blw.drewN | (refine Blw.after ?_ (by assumption)) | (refine Blw.set ?_ (by first | (dsimp only; omega) | (simp; done) | (simp; omega)) _)))⟩

set_option maxHeartbeats 1000000 in
theorem iDigitsAdd_c (a b : ByteArray) (w : World) (hT : Tab w) : Calls Tryd.prog 14 #[.string a, .string b] w fun e w' => e = .returned (addV a b) ∧ Below w.heap.size w w' := by
  go_enter Tryd.func14, Tryd.ntmps14
  go_wp2_with fail
  refine (addDigits_c a b w hT).mono ?_
  rintro e w1 ⟨s, ok, v, h1, rfl, -, -, hb⟩
  have H := Lib.hid h1
  clear h1
  go_wp2
  go_ret2
  exact ⟨by rw [H.out]; rfl, hb⟩

set_option maxHeartbeats 1000000 in
theorem sDigitsAdd_c (a b : ByteArray) (w : World) : Calls Tryd.prog 23 #[.string a, .string b] w fun e w' => e = .returned (addV a b) ∧ Below w.heap.size w w' := by
  rcases Bool.eq_false_or_eq_true (vldB a) with ha | ha
  · rcases Bool.eq_false_or_eq_true (vldB b) with hb | hb
    · have H := Lib.hid (addV_yes ha hb)
      have HA := Lib.hid ha
      have HB := Lib.hid hb
      go_enter Tryd.func23, Tryd.ntmps23
      go_wp2_with (first | (go_at_call 13; refine (sDigitsValid_c _ _).mono ?_; rintro e w1 ⟨rfl, rfl⟩))
      refine (l2Add_c a b w HA.out HB.out).mono ?_
      rintro e w1 ⟨v, t, rfl, ht, -, hbw⟩
      have HT := Lib.hid (show exV (outA a b (stepsA a b)) = resD (toL t) by
        unfold exV
        rw [if_neg (by intro h; have := outA_len (a := a) (b := b) (stepsA a b); rw [h] at this; have := steps_le HA.out HB.out; simp at *; omega), ht])
      clear ht ha hb
      go_wp2_with (first | (go_at_call 51; refine (l2Done_c _ _).mono ?_; rintro e w1 ⟨rfl, rfl⟩))
      go_ret2
      exact ⟨by rw [H.out, HT.out]; rfl, hbw⟩
    · have H := Lib.hid (addV_no (a := a) (b := b) (Or.inr hb))
      go_enter Tryd.func23, Tryd.ntmps23
      go_wp2_with (first | (go_at_call 13; refine (sDigitsValid_c _ _).mono ?_; rintro e w1 ⟨rfl, rfl⟩))
      go_ret2
      exact ⟨by rw [H.out]; rfl, by (repeat' (first | assumption | exact Below.refl _ _ | apply Blw.alloc | apply Blw.drew | apply Blw.drewN | (refine Blw.after ?_ (by assumption)) | (refine Blw.set ?_ (by first | (dsimp only; omega) | (simp; done) | (simp; omega)) _)))⟩
  · have H := Lib.hid (addV_no (a := a) (b := b) (Or.inl ha))
    go_enter Tryd.func23, Tryd.ntmps23
    go_wp2_with (first | (go_at_call 13; refine (sDigitsValid_c _ _).mono ?_; rintro e w1 ⟨rfl, rfl⟩))
    go_ret2
    exact ⟨by rw [H.out]; rfl, by (repeat' (first | assumption | exact Below.refl _ _ | apply Blw.alloc | apply Blw.drew | apply Blw.drewN | (refine Blw.after ?_ (by assumption)) | (refine Blw.set ?_ (by first | (dsimp only; omega) | (simp; done) | (simp; omega)) _)))⟩
end Go.Proofs.YtlcafjdinjdllaaDoor

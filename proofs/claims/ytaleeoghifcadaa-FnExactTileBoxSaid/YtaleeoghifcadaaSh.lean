/- Chapter 6: the text of a power of the base. No law is stated here. -/
import Derived.Test.YtaleeoghifcadaaDit
import Derived.Test.YtaleeoghifcadaaShelf
namespace Go.Proofs.Ytaleeoghifcadaa
set_option linter.unusedSimpArgs false
set_option linter.unusedVariables false
open Go.RowKit

theorem repeat_noughts (z : Nat) : (Lib.repeatL [48] z : List UInt8) = List.replicate z 48 := by
  induction z with
  | zero => rfl
  | succ z ih => simp [Lib.repeatL, List.replicate_succ, ih]
def oneB (z : Nat) : ByteArray := bs (49 :: List.replicate z 48)
theorem shiftOne_c (z : Nat) (w : World) (hz : z ≤ 50) : Calls Try.prog 9 #[.string ⟨#[49]⟩, .int .i64 z] w fun e w' => e = .returned (.string (oneB z)) ∧ Below w.heap.size w w' := by
  have H := Lib.hid (show oneB z = (⟨#[49]⟩ : ByteArray) ++ bs (List.replicate z 48) by
    unfold oneB; apply toL_ext; rw [toL_bs]; simp [toL, bs, ByteArray.data_append])
  have hR := Try.strings_Repeat ⟨#[48]⟩ z w (by omega) (by show 1 * z ≤ _; omega)
  have HR := Lib.hid (show Calls Try.prog 12 #[.string ⟨#[48]⟩, .int .i64 z] w fun e w' => e = .returned (.string (bs (List.replicate z 48))) ∧ Below w.heap.size w w' from hR.mono fun e w' h => ⟨by rw [h.1, repeat_noughts]; rfl, h.2⟩)
  clear hR
  have hsz : (bs (List.replicate z 48)).size = z := by rw [← toL_len, toL_bs, List.length_replicate]
  go_enter Try.func9, Try.ntmps9
  go_wp2_with fail
  refine HR.out.mono ?_
  rintro e w1 ⟨rfl, hb⟩
  go_wp2
  go_ret
  exact ⟨by rw [H.out]; rfl, by (first | ((repeat' with_reducible first | assumption | exact Below.refl _ _ | apply Blw.alloc | apply Blw.drew | apply Blw.drewN | (refine Blw.after ?_ (by assumption)) | (refine Blw.set ?_ (by first | (dsimp only; omega) | (simp; omega)) _)); done) | (repeat' (first | assumption | exact Below.refl _ _ | apply Blw.alloc | apply Blw.drew | apply Blw.drewN | (refine Blw.after ?_ (by assumption)) | (refine Blw.set ?_ (by first | (dsimp only; omega) | (simp; done) | (simp; omega)) _))))⟩
end Go.Proofs.Ytaleeoghifcadaa

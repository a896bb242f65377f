/- strings.Repeat of a nought. No law is stated here. -/
import Derived.Test.YtlcafjdinjdllabDoorRep0
import Derived.Test.YtlcafjdinjdllabDoorShelf
namespace Go.Proofs.YtlcafjdinjdllabDoor
set_option linter.unusedSimpArgs false
set_option linter.unusedVariables false
open Go.RowKit
theorem rep_zeros (z : Nat) : (Lib.repeatL [48] z : List UInt8) = List.replicate z 48 := by
  induction z with
  | zero => rfl
  | succ z ih => simp [Lib.repeatL, List.replicate_succ, ih]
theorem rep_c (z : Nat) (w : World) (hz : z ≤ 1000000) : Calls Tryd.prog 30 #[.string ⟨#[48]⟩, .int .i64 z] w fun e w' => e = .returned (.string (zz z)) ∧ Below w.heap.size w w' :=
  (Tryd.strings_Repeat ⟨#[48]⟩ z w (by omega) (by show 1 * z ≤ _; omega)).mono fun e w' h => ⟨by rw [h.1, rep_zeros]; rfl, h.2⟩
end Go.Proofs.YtlcafjdinjdllabDoor

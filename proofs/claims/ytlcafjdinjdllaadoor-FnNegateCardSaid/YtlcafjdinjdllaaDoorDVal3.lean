/- The values of texts, small or not, in a form for the laws' walks. No law is stated here. -/
import Derived.Test.YtlcafjdinjdllaaDoorDVal2
import Derived.Test.YtlcafjdinjdllaaDoorDc
namespace Go.Proofs.YtlcafjdinjdllaaDoor
set_option linter.unusedSimpArgs false
set_option linter.unusedVariables false
open Go.RowKit

theorem val_form {s : ByteArray} (hv : vldB s = true) : ∃ (p q : Int) (b : Bool), valV s = .tuple #[pr p q, .bool b] ∧ (b = true → p = valX (toL s) ∧ q = valY (toL s)) ∧ (-1000000 ≤ p ∧ p ≤ 1000000) ∧ (-1000000 ≤ q ∧ q ≤ 1000000) := by
  rw [valV_yes hv]
  rcases Bool.eq_false_or_eq_true (inB 1000000 (valX (toL s)) (valY (toL s))) with h | h
  · obtain ⟨x1, x2, y1, y2⟩ := inB_le h
    exact ⟨_, _, true, by rw [h]; rfl, fun _ => ⟨rfl, rfl⟩, ⟨by omega, by omega⟩, ⟨by omega, by omega⟩⟩
  · exact ⟨0, 0, false, by rw [h]; rfl, (fun h => by cases h), ⟨by omega, by omega⟩, ⟨by omega, by omega⟩⟩
end Go.Proofs.YtlcafjdinjdllaaDoor

/- Chapter 2, the model's side: last digits, and expansions of numbers. -/
import Derived.Test.YtlcafjdinjdllacDoorDit
import Derived.Test.YtlcafjdinjdllacDoorDNum
import Derived.Test.YtlcafjdinjdllacDoorGc
import Derived.Test.YtlcafjdinjdllacDoorGd
import Derived.StillTailTactics
namespace Go.Proofs.YtlcafjdinjdllacDoor
set_option linter.unusedSimpArgs false
set_option linter.unusedVariables false
open Go.RowKit

theorem tmod2 (a : Int) : (a % 2 = 0 ∧ a.tmod 2 = 0) ∨ (a % 2 = 1 ∧ (a.tmod 2 = 1 ∨ a.tmod 2 = -1)) := by
  rcases Int.le_total 0 a with h | h
  · rw [Int.tmod_eq_emod_of_nonneg h]; omega
  · have e : a.tmod 2 = -((-a) % 2) := by rw [← Int.tmod_eq_emod_of_nonneg (by omega : 0 ≤ -a), Int.neg_tmod]; omega
    rw [e]; omega
theorem tdiv2 {a b : Int} (h : a = 2 * b) : a.tdiv 2 = b := by rw [h]; exact Int.mul_tdiv_cancel_left b (by omega)
abbrev in21 (x y : Int) : Prop := (-2097152 ≤ x ∧ x ≤ 2097152) ∧ (-2097152 ≤ y ∧ y ≤ 2097152)

end Go.Proofs.YtlcafjdinjdllacDoor

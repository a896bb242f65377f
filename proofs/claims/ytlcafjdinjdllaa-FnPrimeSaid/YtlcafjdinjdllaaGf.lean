/- Chapter 1: GaussDivide of both sides. -/
import Derived.Test.YtlcafjdinjdllaaGe
import Derived.Test.YtlcafjdinjdllaaEq
import Derived.ChangeKeysEq
import Derived.OwnWalk
namespace Go.Proofs.Ytlcafjdinjdllaa
set_option linter.unusedSimpArgs false
set_option linter.unusedVariables false
open Go.RowKit

abbrev res3 (b : Bool) (x y x' y' : Int) : Value := .tuple #[pr (sel b x) (sel b y), pr (sel b x') (sel b y'), .bool b]
/-- both are small, and the second one is not 0 -/
def divB (x y x' y' : Int) : Bool := inB 1000000 x y && inB 1000000 x' y' && !(decide (x' = 0) && decide (y' = 0))
theorem inB_of {x y : Int} (h : in6 x y) : inB 1000000 x y = true := by
  simp only [inB, inR, Bool.and_eq_true, decide_eq_true_eq]; omega
theorem nz_of {x y : Int} (h : (decide (x = 0) && decide (y = 0)) = false) : ¬ (x = 0 ∧ y = 0) := by
  rintro ⟨rfl, rfl⟩; simp at h

end Go.Proofs.Ytlcafjdinjdllaa

/- Chapter 1: sums and products of the program. -/
import Derived.Test.YtmdnfamjdogogaaGa
import Derived.Outline
namespace Go.Proofs.Ytmdnfamjdogogaa
set_option linter.unusedSimpArgs false
set_option linter.unusedVariables false
open Go.RowKit

/-- x if b, else 0: the walk does not look into it -/
def sel (b : Bool) (x : Int) : Int := if b then x else 0
abbrev res2 (b : Bool) (x y : Int) : Value := .tuple #[pr (sel b x) (sel b y), .bool b]
theorem sel_t (x : Int) : sel true x = x := rfl
theorem sel_f (x : Int) : sel false x = 0 := rfl

theorem inB_le {l x y : Int} (h : inB l x y = true) : -l ≤ x ∧ x ≤ l ∧ -l ≤ y ∧ y ≤ l := by
  simp only [inB, inR, Bool.and_eq_true, decide_eq_true_eq] at h; omega

/-- both are small, and so is the sum -/
def addB (x y x' y' : Int) : Bool := inB 1000000 x y && inB 1000000 x' y' && inB 1000000 (x + x') (y + y')

/-! ### the model's side -/
end Go.Proofs.Ytmdnfamjdogogaa

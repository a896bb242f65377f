/- What the laws of chapter 1 draw: one Gauss. No law is stated here. -/
import Derived.Test.YtmdnfamjdogogaaDoorDraw
namespace Go.Proofs.YtmdnfamjdogogaaDoor
set_option linter.unusedSimpArgs false
set_option linter.unusedVariables false
open Go.RowKit

/-- what a draw of one Gauss leaves -/
def One (w : World) (e : Ending) (w' : World) : Prop :=
  ∃ x y : Int, e = .returned (.agg #[.int .i64 x, .int .i64 y]) ∧ (-1000001 ≤ x ∧ x ≤ 1000001) ∧ (-1000001 ≤ y ∧ y ≤ 1000001) ∧ Below w.heap.size w w'

end Go.Proofs.YtmdnfamjdogogaaDoor

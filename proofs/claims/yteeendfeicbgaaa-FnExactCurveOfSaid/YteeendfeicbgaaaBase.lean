/- What the frames of this seat's laws share: no law is stated here. -/
import Derived.Test.YteeendfeicbgaaaRows
import Derived.Test.YteeendfeicbgaaaGa
import Derived.WalkKit
import Derived.ProofKit
import Derived.ChangeSame
import Derived.JoinedOf
import Derived.JoinedAt
import Derived.RowKit3
import Derived.Lib.SmallJoins
namespace Go.Proofs.Yteeendfeicbgaaa
set_option linter.unusedSimpArgs false
set_option linter.unusedVariables false
open Go.ChangeShapes Go.WideShapes Go.ChangeAt Go.RowKit Go.Joins

theorem own : ownKnob Try.prog.godebug = none := by kernel_rfl
theorem cellsI : Try.prog.cellsOf 3 = 1 := by kernel_rfl
end Go.Proofs.Yteeendfeicbgaaa

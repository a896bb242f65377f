/- Chapter 3: points, of both sides, in both widths. -/
import Derived.Test.YtlcafjdinjdllabDoorPx0
import Derived.Test.YtlcafjdinjdllabDoorCutW
import Derived.Test.YtlcafjdinjdllabDoorDc
namespace Go.Proofs.YtlcafjdinjdllabDoor
set_option linter.unusedSimpArgs false
set_option linter.unusedVariables false
open Go.RowKit

end Go.Proofs.YtlcafjdinjdllabDoor

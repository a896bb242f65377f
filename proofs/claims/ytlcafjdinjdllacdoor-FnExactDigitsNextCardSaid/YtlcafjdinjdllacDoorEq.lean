/- Two of the program's pairs, compared. No law is stated here. -/
import Derived.Test.YtlcafjdinjdllacDoorGa
import Derived.ChangeKeysEq
import Derived.OwnWalk
namespace Go.Proofs.YtlcafjdinjdllacDoor
set_option linter.unusedSimpArgs false
set_option linter.unusedVariables false
open Go.RowKit

end Go.Proofs.YtlcafjdinjdllacDoor

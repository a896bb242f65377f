/- Chapter 2, the program's side: a row of digits as an expansion. -/
import Derived.Test.YtlcafjdinjdllacDoorDf
import Derived.RegionTactic
import Derived.BigRegion
import Derived.Sort.WalkB12
import Derived.Lib.SlicesMore
import Derived.Shelf.SlicesE.Kit
import Derived.Laws.IdiomStrings
namespace Go.Proofs.YtlcafjdinjdllacDoor
set_option linter.unusedSimpArgs false
set_option linter.unusedVariables false
open Go.RowKit Go.Lib Go.Sort

theorem encB_cell : OneCell encB := fun _ => rfl
end Go.Proofs.YtlcafjdinjdllacDoor

/- Chapter 1: products and norms, of both sides. -/
import Derived.Test.YtlcafjdinjdllacDoorGc
import Derived.Test.YtlcafjdinjdllacDoorMath
namespace Go.Proofs.YtlcafjdinjdllacDoor
set_option linter.unusedSimpArgs false
set_option linter.unusedVariables false
open Go.RowKit

/-- both are small, and so is the product -/
def mulB (x y x' y' : Int) : Bool := inB 1000000 x y && inB 1000000 x' y' && inB 1000000 (x * x' - y * y') (x * y' + y * x')

/-- the norm, or -1: the walk does not look into it -/
def normV (x y : Int) : Int := if inB 1000000 x y then x * x + y * y else -1

end Go.Proofs.YtlcafjdinjdllacDoor

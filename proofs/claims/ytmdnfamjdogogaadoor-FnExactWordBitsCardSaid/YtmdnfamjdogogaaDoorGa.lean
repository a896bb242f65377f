/- Chapter 1, contracts of the small functions of both sides: tests of ranges, and what turns one kind of pair into the other. -/
import Derived.Test.YtmdnfamjdogogaaDoorRows
import Derived.Test.YtmdnfamjdogogaaDoorReg
import Derived.WalkKit
import Derived.ProofKit
import Derived.WalkSpells
import Derived.WalkLawsBesides
import Derived.Lib.Hide
import Derived.Laws.ResultCell
namespace Go.Proofs.YtmdnfamjdogogaaDoor
set_option linter.unusedSimpArgs false
set_option linter.unusedVariables false
open Go.RowKit

/-- in a range, as a Bool that the walk does not take apart -/
def inR (a b n : Int) : Bool := decide (a ≤ n) && decide (n ≤ b)
/-- both parts in the range -l to l -/
def inB (l x y : Int) : Bool := inR (-l) l x && inR (-l) l y
/-- a pair as the value of a struct or of an array -/
abbrev pr (x y : Int) : Value := .agg #[.int .i64 x, .int .i64 y]

end Go.Proofs.YtmdnfamjdogogaaDoor

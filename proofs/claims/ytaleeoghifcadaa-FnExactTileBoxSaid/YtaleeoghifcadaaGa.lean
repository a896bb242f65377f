/- Chapter 1, contracts of the small functions of both sides: tests of ranges, and what turns one kind of pair into the other. -/
import Derived.Test.YtaleeoghifcadaaRows
import Derived.Test.YtaleeoghifcadaaReg
import Derived.WalkKit
import Derived.ProofKit
import Derived.WalkSpells
import Derived.WalkLawsBesides
import Derived.Lib.Hide
import Derived.Laws.ResultCell
namespace Go.Proofs.Ytaleeoghifcadaa
set_option linter.unusedSimpArgs false
set_option linter.unusedVariables false
open Go.RowKit

/-- in a range, as a Bool that the walk does not take apart -/
def inR (a b n : Int) : Bool := decide (a ≤ n) && decide (n ≤ b)
/-- both parts in the range -l to l -/
def inB (l x y : Int) : Bool := inR (-l) l x && inR (-l) l y
/-- a pair as the value of a struct or of an array -/
abbrev pr (x y : Int) : Value := .agg #[.int .i64 x, .int .i64 y]

theorem l6In_c (n a b : Int) (w : World) : Calls Try.prog 7 #[.int .i64 n, .int .i64 a, .int .i64 b] w fun e w' => e = .returned (.bool (inR a b n)) ∧ w = w' := by
  by_cases h1 : a ≤ n <;> by_cases h2 : n ≤ b
  all_goals
    go_enter Try.func7, Try.ntmps7
    go_wp2
    go_ret
    exact ⟨by simp [inR, h1, h2], rfl⟩

end Go.Proofs.Ytaleeoghifcadaa

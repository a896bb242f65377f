/- Chapter 1, contracts of the small functions of both sides: tests of ranges, and what turns one kind of pair into the other. -/
import Derived.Test.YtljmmmkehieboaaDoorRows
import Derived.Test.YtljmmmkehieboaaDoorReg
import Derived.WalkKit
import Derived.ProofKit
import Derived.WalkSpells
import Derived.WalkLawsBesides
import Derived.Lib.Hide
import Derived.Laws.ResultCell
namespace Go.Proofs.YtljmmmkehieboaaDoor
set_option linter.unusedSimpArgs false
set_option linter.unusedVariables false
open Go.RowKit

/-- in a range, as a Bool that the walk does not take apart -/
def inR (a b n : Int) : Bool := decide (a ≤ n) && decide (n ≤ b)
/-- both parts in the range -l to l -/
def inB (l x y : Int) : Bool := inR (-l) l x && inR (-l) l y
/-- a pair as the value of a struct or of an array -/
abbrev pr (x y : Int) : Value := .agg #[.int .i64 x, .int .i64 y]

theorem within_c (x y l : Int) (w : World) (hl : 0 ≤ l ∧ l ≤ 1000000) : Calls Tryd.prog 46 #[pr x y, .int .i64 l] w fun e w' => e = .returned (.bool (inB l x y)) ∧ Below w.heap.size w w' := by
  obtain ⟨hl0, hl1⟩ := hl
  by_cases h1 : -l ≤ x <;> by_cases h2 : x ≤ l <;> by_cases h3 : -l ≤ y <;> by_cases h4 : y ≤ l
  all_goals
    go_enter Tryd.func46, Tryd.ntmps46
    go_wp2
    go_ret
    exact ⟨by simp [inB, inR, h1, h2, h3, h4], by (repeat' (first | assumption | exact Below.refl _ _ | apply Blw.alloc | apply Blw.drew | apply Blw.drewN | (refine Blw.after ?_ (by assumption)) | (refine Blw.set ?_ (by first | (dsimp only; omega) | (simp; done) | (simp; omega)) _)))⟩

end Go.Proofs.YtljmmmkehieboaaDoor

/- Two of the program's pairs, compared. No law is stated here. -/
import Derived.Test.YtaleeoghifcadaaDoorGa
import Derived.ChangeKeysEq
import Derived.OwnWalk
namespace Go.Proofs.YtaleeoghifcadaaDoor
set_option linter.unusedSimpArgs false
set_option linter.unusedVariables false
open Go.RowKit

/-- two of the program's pairs, compared -/
@[go_sem] theorem eqPair (a b c d : Int) (w : World) : (Op.equalIn 10000 63 (.agg #[.int .i64 a, .int .i64 b]) (.agg #[.int .i64 c, .int .i64 d])).run Tryd.prog w = .ok (decide (a = c) && decide (b = d)) w := by
  obtain ⟨i, hi, h0, h1, h2⟩ := info_parts (show (Tryd.prog.info? 3).map (fun i => (i.zero, i.size, i.bytes)) = some (some (.int .i64 0), 1, 8) by kernel_rfl)
  show (Op.equalIn (9999 + 1) 63 _ _).run _ _ = _
  rw [run_equalIn_array w 9999 _ _ Tryd.underlying63 hi]
  by_cases e1 : a = c <;> by_cases e2 : b = d <;> simp [go_sem, Op.eqItems, Program.cellsOf, hi, h1, part, e1, e2]

end Go.Proofs.YtaleeoghifcadaaDoor

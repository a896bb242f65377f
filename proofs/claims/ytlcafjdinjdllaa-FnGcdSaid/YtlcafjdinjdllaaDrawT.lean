/- What the laws of chapter 1 draw: two Gauss. No law is stated here. -/
import Derived.Test.YtlcafjdinjdllaaDrawB
import Derived.Test.YtlcafjdinjdllaaGa
import Derived.StillTailTactics
import Derived.Deep.DeepCutAuto
import Derived.Deep.Cut
import Derived.RegionCalls
namespace Go.Proofs.Ytlcafjdinjdllaa
set_option linter.unusedSimpArgs false
set_option linter.unusedVariables false
open Go.RowKit

/-- what a draw of two Gauss leaves -/
def TwoG (w : World) (e : Ending) (w' : World) : Prop :=
  ∃ x y x' y' : Int, e = .returned (.tuple #[.agg #[.int .i64 x, .int .i64 y], .agg #[.int .i64 x', .int .i64 y']]) ∧ (-1000001 ≤ x ∧ x ≤ 1000001) ∧ (-1000001 ≤ y ∧ y ≤ 1000001) ∧ (-1000001 ≤ x' ∧ x' ≤ 1000001) ∧ (-1000001 ≤ y' ∧ y' ≤ 1000001) ∧ Below w.heap.size w w'
/-- the blocks of two results, all nought -/
def Nil4 (b : Nat) (w : World) : Prop := b + 1 < w.heap.size ∧ (w.cell? ⟨b, 0, none⟩ = some (.int .i64 0) ∧ w.cell? ⟨b, 1, none⟩ = some (.int .i64 0) ∧ w.cell? ⟨b + 1, 0, none⟩ = some (.int .i64 0) ∧ w.cell? ⟨b + 1, 1, none⟩ = some (.int .i64 0)) ∧ w.frozen? ⟨b, 0, none⟩ = false ∧ w.frozen? ⟨b, 1, none⟩ = false ∧ w.frozen? ⟨b + 1, 0, none⟩ = false ∧ w.frozen? ⟨b + 1, 1, none⟩ = false
theorem Nil4.keep {b : Nat} {w w' : World} (h : Nil4 b w) (hb : Below w.heap.size w w') : Nil4 b w' := by
  obtain ⟨hl, ⟨c0, c1, c2, c3⟩, f0, f1, f2, f3⟩ := h
  have k := (bcell hb).2
  exact ⟨Nat.lt_of_lt_of_le hl hb.size, ⟨keepcell hb c0, keepcell hb c1, keepcell hb c2, keepcell hb c3⟩, (k _ _ (by omega)).trans f0, (k _ _ (by omega)).trans f1, (k _ _ (by omega)).trans f2, (k _ _ (by omega)).trans f3⟩
theorem Nil4.moved {b rb : Nat} {w w' : World} (h : Nil4 b w) (m : Moved rb w w') (h1 : b ≠ rb) (h2 : b + 1 ≠ rb) : Nil4 b w' := by
  obtain ⟨hl, ⟨c0, c1, c2, c3⟩, f0, f1, f2, f3⟩ := h
  exact ⟨Nat.lt_of_lt_of_le hl m.1, ⟨m.cell (by omega) h1 c0, m.cell (by omega) h1 c1, m.cell hl h2 c2, m.cell hl h2 c3⟩, m.froz (by omega) h1 f0, m.froz (by omega) h1 f1, m.froz hl h2 f2, m.froz hl h2 f3⟩
end Go.Proofs.Ytlcafjdinjdllaa

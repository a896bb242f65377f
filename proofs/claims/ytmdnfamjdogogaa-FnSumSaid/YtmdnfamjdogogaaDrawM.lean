/- What the laws of chapter 5 draw: a path, often. No law is stated here. -/
import Derived.Test.YtmdnfamjdogogaaDrawL
namespace Go.Proofs.Ytmdnfamjdogogaa
set_option linter.unusedSimpArgs false
set_option linter.unusedVariables false
open Go.RowKit Ieee

/-- what a draw of a list of points leaves -/
def PathOf (w : World) (e : Ending) (w' : World) : Prop :=
  ∃ (v : Value) (L : List SZ), e = .returned v ∧ w'.ownsRow w.heap.size 27 1 v L.length (L.map encZ) ∧ L.length ≤ 70 ∧ (∀ q ∈ L, Bq 200 q) ∧ Below w.heap.size w w'
theorem pathOf_of {w W1 : World} {sv : Value} {e : Ending} {w' : World} (hb : Below w.heap.size w W1) (h : PathDr w.heap.size sv 0 W1 e w') : PathOf w e w' := by
  obtain ⟨v, L, p', rfl, ho, hl, hq, -, -, -, -, hm⟩ := h
  exact ⟨v, L, rfl, ownsRow_low hb.size ho, hl, hq, hm.2.2.2 w hb (Nat.le_refl _)⟩
end Go.Proofs.Ytmdnfamjdogogaa

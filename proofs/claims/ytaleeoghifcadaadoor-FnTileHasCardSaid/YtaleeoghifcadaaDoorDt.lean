/- Chapter 2: the next expansion, of both sides. -/
import Derived.Test.YtaleeoghifcadaaDoorDs
import Derived.Test.YtaleeoghifcadaaDoorDb
namespace Go.Proofs.YtaleeoghifcadaaDoor
set_option linter.unusedSimpArgs false
set_option linter.unusedVariables false
open Go.RowKit

def NextPost (s : ByteArray) (w : World) (e : Ending) (w' : World) : Prop := ∃ l, e = .returned (resD l) ∧ (vldB s = true → Good l (idxF (toL s) + 1)) ∧ (vldB s = false → l = []) ∧ Below w.heap.size w w'
theorem resD_nil : resD [] = .tuple #[.string ⟨#[]⟩, .bool false] := rfl
def NKRel (s : ByteArray) (w : World) (m : Nat) (kv : Value) (wr : World) : Prop :=
  ∃ k : Nat, k = m ∧ k ≤ s.size ∧ kv = .int .i64 k ∧ wr = w ∧ ∀ j, k ≤ j → j < s.size → (toL s)[j]? = some 49
def NZRel (s : ByteArray) (w : World) (k : Nat) (m : Nat) (zv iv : Value) (wr : World) : Prop :=
  ∃ i : Nat, i + m = s.size ∧ k ≤ i ∧ iv = .int .i64 i ∧ wr = w ∧ zv = .string (bs (List.replicate (i - k) 48))


theorem toL_take (s : ByteArray) (k : Nat) : s.extract 0 k = bs ((toL s).take k) := by
  apply toL_ext
  rw [toL_bs, ← bs_toL s]
  show toL ((ByteArray.mk (toL s).toArray).extract 0 k) = _
  rw [ByteArray.extract_mk]
  simp [toL, bs]
end Go.Proofs.YtaleeoghifcadaaDoor

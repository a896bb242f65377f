/- Cells of Gauss; texts for appends. No law is stated here. -/
import Derived.Test.YtlcafjdinjdllaaDoorDi
namespace Go.Proofs.YtlcafjdinjdllaaDoor
set_option linter.unusedSimpArgs false
set_option linter.unusedVariables false
open Go.RowKit

def gcells (l : List (Int × Int)) : List Value := l.flatMap fun z => [.int .i64 z.1, .int .i64 z.2]
theorem gcells_snoc (l : List (Int × Int)) (x y : Int) : gcells (l ++ [(x, y)]) = gcells l ++ [.int .i64 x, .int .i64 y] := by simp [gcells]
theorem infoG : (Tryd.prog.info? 29).map (fun i => (i.zero, i.size, i.bytes)) = some (some (.agg #[.int .i64 0, .int .i64 0]), 2, 16) := by kernel_rfl
theorem cells2 (w : World) (u v : Value) (t : TypeId) : ∀ (j : Nat) (u' : Value), [u, v][j]? = some u' → (w.alloc (.cells #[u, v] t)).cell? ((⟨w.heap.size, 0, none⟩ : Addr).add j) = some u' := by
  intro j u' hj
  match j, hj with
  | 0, hj => simp at hj; subst hj; simp [Addr.add]
  | 1, hj => simp at hj; subst hj; simp [Addr.add]
theorem cells2n (w : World) (u v : Value) (t : TypeId) (n : Nat) (hn : n = w.heap.size) : ∀ (j : Nat) (u' : Value), [u, v][j]? = some u' → (w.alloc (.cells #[u, v] t)).cell? ((⟨n, 0, none⟩ : Addr).add j) = some u' := by
  subst hn; exact cells2 w u v t
theorem two1 (u v : Value) (h : u.oneCell' = true) (h' : v.oneCell' = true) : ∀ u' ∈ [u, v], u'.oneCell' = true := by
  intro u' hu; simp at hu; rcases hu with rfl | rfl; exact h; exact h'
end Go.Proofs.YtlcafjdinjdllaaDoor

/- Slices of Gauss that read as lists. No law is stated here. -/
import Derived.Test.YtlcafjdinjdllaaDoorDm
import Derived.Test.YtlcafjdinjdllaaDoorDp0
namespace Go.Proofs.YtlcafjdinjdllaaDoor
set_option linter.unusedSimpArgs false
set_option linter.unusedVariables false
open Go.RowKit

/-- a slice that reads as the list -/
def GSl (a : Option Addr) (l : List (Int × Int)) (w : World) : Prop :=
  l = [] ∨ ∃ g, a = some ⟨g, 0, none⟩ ∧ ∀ (k : Nat) (x y : Int), l[k]? = some (x, y) → w.cell? ⟨g, k * 2, none⟩ = some (.int .i64 x) ∧ w.cell? ⟨g, k * 2 + 1, none⟩ = some (.int .i64 y)
theorem GSl.keep {a : Option Addr} {l : List (Int × Int)} {w w' : World} (h : GSl a l w) (hb : Below w.heap.size w w') : GSl a l w' := by
  refine h.imp id ?_
  rintro ⟨g, rfl, hc⟩
  exact ⟨g, rfl, fun k x y hk => ⟨keepcell hb (hc k x y hk).1, keepcell hb (hc k x y hk).2⟩⟩
theorem gcells_at (l : List (Int × Int)) : ∀ (k : Nat) (x y : Int), l[k]? = some (x, y) → (gcells l)[k * 2]? = some (.int .i64 x) ∧ (gcells l)[k * 2 + 1]? = some (.int .i64 y) := by
  induction l with
  | nil => intro k x y h; simp at h
  | cons z r ih =>
    intro k x y h
    have e : gcells (z :: r) = .int .i64 z.1 :: .int .i64 z.2 :: gcells r := by simp [gcells]
    rw [e]
    cases k with
    | zero => simp at h; subst h; simp
    | succ k =>
      simp at h
      have := ih k x y h
      rw [show (k + 1) * 2 = k * 2 + 1 + 1 by omega]
      simpa using this
theorem gcells_len (l : List (Int × Int)) : (gcells l).length = l.length * 2 := by
  induction l with
  | nil => rfl
  | cons z r ih => have e : gcells (z :: r) = .int .i64 z.1 :: .int .i64 z.2 :: gcells r := by simp [gcells]
                   rw [e]; simp [ih]; omega
theorem own_slice {w : World} {B n : Nat} {v : Value} {l : List (Int × Int)} (h : w.ownsRow B 29 2 v n (gcells l)) (hl : l.length = n) : ∃ a c, v = .slice a l.length c ∧ GSl a l w ∧ (l = [] ∨ ∃ g, a = some ⟨g, 0, none⟩ ∧ B ≤ g ∧ g < w.heap.size ∧ ∀ j, w.frozen? ⟨g, j, none⟩ = false) := by
  subst hl
  rcases h.2 with ⟨rfl, h0⟩ | ⟨g, cap, cur, rfl, hg, hgg, -⟩
  · have : l = [] := List.eq_nil_of_length_eq_zero h0
    subst this
    exact ⟨none, 0, rfl, Or.inl rfl, Or.inl rfl⟩
  · refine ⟨_, cap, rfl, Or.inr ⟨g, rfl, fun k x y hk => ?_⟩, Or.inr ⟨g, rfl, hg, (Array.getElem?_eq_some_iff.1 hgg).1, fun j => h.frozenAt j⟩⟩
    have hk' : k < l.length := (List.getElem?_eq_some_iff.1 hk).1
    have := gcells_at l k x y hk
    exact ⟨(h.cellAt _ (by omega)).trans this.1, (h.cellAt _ (by omega)).trans this.2⟩

end Go.Proofs.YtlcafjdinjdllaaDoor

/- Slices of complex64 that read as lists. No law is stated here. -/
import Derived.Test.YtmdnfamjdogogaaDoorCm
import Derived.Test.YtmdnfamjdogogaaDoorBy
namespace Go.Proofs.YtmdnfamjdogogaaDoor
set_option linter.unusedSimpArgs false
set_option linter.unusedVariables false
open Go.RowKit Ieee

theorem infoC : (Tryd.prog.info? 28).map (fun i => (i.zero, i.size, i.bytes)) = some (some (.complex .f32 0 0), 1, 8) := by kernel_rfl
/-- a slice that reads as the list -/
def CSl (a : Option Addr) (l : List Value) (w : World) : Prop := l = [] ∨ ∃ g o, a = some ⟨g, o, none⟩ ∧ ∀ (k : Nat) (x : Value), l[k]? = some x → w.cell? ⟨g, o + k, none⟩ = some x
theorem CSl.keep {a : Option Addr} {l : List Value} {w w' : World} (h : CSl a l w) (hb : Below w.heap.size w w') : CSl a l w' := by
  refine h.imp id ?_
  rintro ⟨g, o, rfl, hc⟩
  exact ⟨g, o, rfl, fun k x hk => keepcell hb (hc k x hk)⟩
theorem CSl.at {a : Option Addr} {l : List Value} {w : World} (h : CSl a l w) {k : Nat} (hk : k < l.length) : ∃ g o, a = some ⟨g, o, none⟩ ∧ w.cell? ⟨g, o + k, none⟩ = some l[k] := by
  rcases h with h0 | ⟨g, o, rfl, hc⟩
  · rw [h0] at hk; simp at hk
  · exact ⟨g, o, rfl, hc k _ (List.getElem?_eq_getElem hk)⟩
/-- an owned row reads so -/
theorem own_csl {w : World} {B n : Nat} {v : Value} {l : List Value} (h : w.ownsRow B 28 1 v n l) : ∃ a c, v = .slice a l.length c ∧ CSl a l w ∧ (l = [] ∨ ∃ g, a = some ⟨g, 0, none⟩ ∧ B ≤ g ∧ g < w.heap.size ∧ ∀ j, w.frozen? ⟨g, j, none⟩ = false) := by
  have hl := h.1
  rw [Nat.mul_one] at hl
  subst hl
  rcases h.2 with ⟨rfl, h0⟩ | ⟨g, cap, cur, rfl, hg, hgg, -⟩
  · have : l = [] := List.eq_nil_of_length_eq_zero h0
    subst this
    exact ⟨none, 0, rfl, Or.inl rfl, Or.inl rfl⟩
  · refine ⟨_, cap, rfl, Or.inr ⟨g, 0, rfl, fun k x hk => ?_⟩, Or.inr ⟨g, rfl, hg, (Array.getElem?_eq_some_iff.1 hgg).1, fun j => h.frozenAt j⟩⟩
    have hk' : k < l.length := (List.getElem?_eq_some_iff.1 hk).1
    rw [Nat.zero_add]
    exact (h.cellAt _ (by omega)).trans hk
theorem one_c (x y : Nat) : ∀ u ∈ [Value.complex .f32 x y], u.oneCell' = true := one1 _ rfl
theorem own_iterX {w : World} {B e n sz : Nat} {v : Value} {xs : List Value} (h : w.ownsRow B e sz v n xs) {k : Nat} {s0 : ByteArray} {p0 : Nat} (hk : w.heap[k]? = some (.stringIter s0 p0)) (s : ByteArray) (pos : Nat) : (w.iterAt k s pos).ownsRow B e sz v n xs := by
  refine ⟨h.1, h.2.imp id ?_⟩
  rintro ⟨g', cap', cur, h1, h2, h3, h4⟩
  have hne : g' ≠ k := by
    rintro rfl
    rw [h3] at hk
    cases hk
  exact ⟨g', cap', cur, h1, h2, (Lib.iterAt_other w k g' s pos hne).trans h3, h4⟩
theorem iter_other {w : World} {B e n sz : Nat} {v : Value} {xs : List Value} (h : w.ownsRow B e sz v n xs) {k : Nat} {s0 : ByteArray} {p0 : Nat} (hk : w.heap[k]? = some (.stringIter s0 p0)) : some k ≠ v.ownBlock := by
  rcases h.2 with ⟨rfl, _⟩ | ⟨g, cap, cur, rfl, hg, hgg, _⟩
  · simp [Value.ownBlock]
  · simp only [Value.ownBlock]
    intro e1
    simp only [Option.some.injEq] at e1
    subst e1
    rw [hgg] at hk
    cases hk
end Go.Proofs.YtmdnfamjdogogaaDoor

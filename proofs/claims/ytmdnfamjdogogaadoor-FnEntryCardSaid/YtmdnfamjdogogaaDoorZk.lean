/- Chapter 7: two entries drawn. No law is stated here. -/
import Derived.Test.YtmdnfamjdogogaaDoorZg
namespace Go.Proofs.YtmdnfamjdogogaaDoor
set_option linter.unusedSimpArgs false
set_option linter.unusedVariables false
open Go.RowKit Ieee

theorem BxE.set {b g o : Nat} {s : ByteArray} {p : Nat × Nat} {n : Nat} {w : World} (h : BxE b s p n w) (hne : b ≠ g) (v : Value) : BxE b s p n (w.setCell ⟨g, o, none⟩ v) := by
  obtain ⟨h0, h1, h2, h3, h4, h5, h6⟩ := h
  have hb : (w.setCell ⟨g, o, none⟩ v).heap[b]? = w.heap[b]? := Below.heap_setCell _ _ _ _ hne
  exact ⟨by simpa [World.setCell] using h0, (World.cell?_of_block (w := w) (a := ⟨b, 0, none⟩) hb).trans h1, (World.cell?_of_block (w := w) (a := ⟨b, 1, none⟩) hb).trans h2, (World.cell?_of_block (w := w) (a := ⟨b, 2, none⟩) hb).trans h3,
    (World.frozen?_of_block (w := w) (a := ⟨b, 0, none⟩) hb).trans h4, (World.frozen?_of_block (w := w) (a := ⟨b, 1, none⟩) hb).trans h5, (World.frozen?_of_block (w := w) (a := ⟨b, 2, none⟩) hb).trans h6⟩
/-- an entry stored whole in its box -/
theorem BxE.put {b : Nat} {s s' : ByteArray} {p p' : Nat × Nat} {n n' : Nat} {w : World} (h : BxE b s p n w) : BxE b s' p' n' (((w.setCell ⟨b, 0, none⟩ (.string s')).setCell ⟨b, 1, none⟩ (encW p')).setCell ⟨b, 2, none⟩ (.int .u32 (n' : Nat))) := by
  obtain ⟨h0, h1, h2, h3, h4, h5, h6⟩ := h
  exact ⟨by simpa [World.setCell] using h0, by go_simp, by go_simp, by go_simp, by go_simp, by go_simp, by go_simp⟩
def EnIn (s : ByteArray) (p : Nat × Nat) (n : Nat) : Prop := s.size ≤ 5 ∧ Nn2 p ∧ n < 4294967296
def TwoE (w : World) (e : Ending) (w' : World) : Prop :=
  ∃ (s : ByteArray) (p : Nat × Nat) (n : Nat) (s' : ByteArray) (p' : Nat × Nat) (n' : Nat), e = .returned (.tuple #[encE s p n, encE s' p' n']) ∧ EnIn s p n ∧ EnIn s' p' n' ∧ Below w.heap.size w w'
end Go.Proofs.YtmdnfamjdogogaaDoor

/- A block of two whole numbers that the call may write: told as one fact. No law is stated here. -/
import Derived.Test.YtaleeoghifcadaaDit
namespace Go.Proofs.Ytaleeoghifcadaa
set_option linter.unusedSimpArgs false
set_option linter.unusedVariables false
open Go.RowKit

structure Own2 (w : World) (b : Nat) (x y : Int) : Prop where
  c0 : w.cell? ⟨b, 0, none⟩ = some (.int .i64 x)
  c1 : w.cell? ⟨b, 1, none⟩ = some (.int .i64 y)
  f0 : w.frozen? ⟨b, 0, none⟩ = false
  f1 : w.frozen? ⟨b, 1, none⟩ = false
theorem Own2.lt {w : World} {b : Nat} {x y : Int} (h : Own2 w b x y) : b < w.heap.size := World.block_lt_of_cell? w _ h.c0
theorem Own2.cong {w : World} {b : Nat} {x y x' y' : Int} (h : Own2 w b x y) (hx : x = x') (hy : y = y') : Own2 w b x' y' := by subst hx; subst hy; exact h
theorem Own2.below {w w' : World} {b B : Nat} {x y : Int} (h : Own2 w b x y) (hb : Below B w w') (hB : b < B) : Own2 w' b x y :=
  ⟨(hb.cell (p := ⟨b, 0, none⟩) hB).trans h.c0, (hb.cell (p := ⟨b, 1, none⟩) hB).trans h.c1, (hb.frozen (p := ⟨b, 0, none⟩) hB).trans h.f0, (hb.frozen (p := ⟨b, 1, none⟩) hB).trans h.f1⟩
theorem Own2.alloc {w : World} {b : Nat} {x y : Int} (h : Own2 w b x y) (o : Obj) : Own2 (w.alloc o) b x y := h.below ((Below.refl _ w).alloc (Nat.le_refl _) o) h.lt
theorem cell_set_other {w : World} {b g o o' : Nat} {v : Value} (h : b ≠ g) : (w.setCell ⟨g, o, none⟩ v).cell? ⟨b, o', none⟩ = w.cell? ⟨b, o', none⟩ :=
  World.cell?_of_block (w := w) (a := ⟨b, o', none⟩) (Below.heap_setCell _ _ _ _ h)
theorem Own2.set {w : World} {b g o : Nat} {x y : Int} {v : Value} (h : Own2 w b x y) (hne : b ≠ g) : Own2 (w.setCell ⟨g, o, none⟩ v) b x y :=
  ⟨(cell_set_other hne).trans h.c0, (cell_set_other hne).trans h.c1, (World.frozen?_setCell _ _ _ _).trans h.f0, (World.frozen?_setCell _ _ _ _).trans h.f1⟩
theorem cell_set_self {w : World} {b o : Nat} {u v : Value} (h : w.cell? ⟨b, o, none⟩ = some u) : (w.setCell ⟨b, o, none⟩ v).cell? ⟨b, o, none⟩ = some v := by
  go_simp
theorem cell_set_off {w : World} {b o o' : Nat} {v : Value} (h : o' ≠ o) : (w.setCell ⟨b, o, none⟩ v).cell? ⟨b, o', none⟩ = w.cell? ⟨b, o', none⟩ := by
  simp only [World.setCell, World.cell?, Array.getElem?_modify, if_true]
  cases w.heap[b]? with
  | none => rfl
  | some x => cases x <;> simp [Array.getElem?_setIfInBounds, Ne.symm h]
theorem Own2.put {w : World} {b : Nat} {x y x' y' : Int} (h : Own2 w b x y) : Own2 ((w.setCell ⟨b, 0, none⟩ (.int .i64 x')).setCell ⟨b, 1, none⟩ (.int .i64 y')) b x' y' :=
  ⟨(cell_set_off (by omega)).trans (cell_set_self h.c0), cell_set_self ((cell_set_off (by omega)).trans h.c1), (World.frozen?_setCell _ _ _ _).trans ((World.frozen?_setCell _ _ _ _).trans h.f0), (World.frozen?_setCell _ _ _ _).trans ((World.frozen?_setCell _ _ _ _).trans h.f1)⟩
def Own2X (w : World) (b : Nat) : Prop := ∃ x y, Own2 w b x y
theorem Own2.x {w : World} {b : Nat} {x y : Int} (h : Own2 w b x y) : Own2X w b := ⟨x, y, h⟩
theorem Own2X.set {w : World} {b g o : Nat} {v : Value} (h : Own2X w b) (hne : b ≠ g) : Own2X (w.setCell ⟨g, o, none⟩ v) b := by
  obtain ⟨x, y, h⟩ := h; exact ⟨x, y, h.set hne⟩
theorem Own2X.alloc {w : World} {b : Nat} (h : Own2X w b) (o : Obj) : Own2X (w.alloc o) b := by
  obtain ⟨x, y, h⟩ := h; exact ⟨x, y, h.alloc o⟩
theorem Own2X.put {w : World} {b : Nat} {x' y' : Int} (h : Own2X w b) : Own2 ((w.setCell ⟨b, 0, none⟩ (.int .i64 x')).setCell ⟨b, 1, none⟩ (.int .i64 y')) b x' y' := by
  obtain ⟨x, y, h⟩ := h; exact h.put
theorem Own2.fresh (w : World) (x y : Int) (t : TypeId) : Own2 (w.alloc (.cells #[.int .i64 x, .int .i64 y] t)) w.heap.size x y :=
  ⟨by go_simp, by go_simp, by rw [frozen?_alloc_cells]; simp [World.frozen?], by rw [frozen?_alloc_cells]; simp [World.frozen?]⟩
end Go.Proofs.Ytaleeoghifcadaa

/- Chapter 2, the model's side: the expansion of a number. -/
import Derived.Test.YtaleeoghifcadaaDoorDe2
namespace Go.Proofs.YtaleeoghifcadaaDoor
set_option linter.unusedSimpArgs false
set_option linter.unusedVariables false
open Go.RowKit

def ofV (x y : Int) : Value := if inB 1000000 x y then resD (dgs1 x y).reverse else .tuple #[.string ⟨#[]⟩, .bool false]
theorem ms_le {x y : Int} (hx : -1000000 ≤ x ∧ x ≤ 1000000) (hy : -1000000 ≤ y ∧ y ≤ 1000000) : ms x y ≤ 3000000000000 := by
  have key : ∀ a : Int, -1000000 ≤ a ∧ a ≤ 1000000 → a * a ≤ 1000000000000 := by
    intro a h
    have : 0 ≤ (1000000 - a) * (1000000 + a) := Int.mul_nonneg (by omega) (by omega)
    have e : (1000000 - a) * (1000000 + a) = 1000000000000 - a * a := by grind
    omega
  have h1 := key x hx
  have h2 := key y hy
  unfold ms
  split
  · unfold nm; omega
  · have := cntS_le 20 x y; omega
theorem toL_cons (d : Int) (t : ByteArray) : toL (bs [bitc d] ++ t) = bitc d :: toL t := by
  simp [toL, bs, ByteArray.data_append]

/-- the digits that have come up, from the last one on: with those that are left they are all -/
def Came (x0 y0 : Int) (pre : List UInt8) (x y : Int) : Prop := (pre = [] ∧ x = x0 ∧ y = y0) ∨ (pre ≠ [] ∧ pre ++ dgs x y = dgs1 x0 y0)
theorem Came.step {x0 y0 x y : Int} {pre : List UInt8} (h : Came x0 y0 pre x y) (hz : pre = [] ∨ ¬ (x = 0 ∧ y = 0)) : Came x0 y0 (pre ++ [bitc (lastD x y)]) (nX x y) (nY x y) := by
  right
  refine ⟨by simp, ?_⟩
  rcases h with ⟨rfl, rfl, rfl⟩ | ⟨hp, h⟩
  · rw [dgs1_step]; rfl
  · rw [dgs_step (hz.resolve_left hp)] at h
    rw [← h]; simp
theorem Came.done {x0 y0 : Int} {pre : List UInt8} (h : Came x0 y0 pre 0 0) (hp : pre ≠ []) : pre = dgs1 x0 y0 := by
  rcases h with ⟨rfl, _⟩ | ⟨_, h⟩
  · exact absurd rfl hp
  · rw [dgs_zero, List.append_nil] at h; exact h
def SOfRel (x0 y0 : Int) (w : World) (m : Nat) (v : Value) (wr : World) : Prop :=
  ∃ (x y : Int) (pre : List UInt8) (t : ByteArray), v = .string t ∧ toL t = pre.reverse ∧ (-1000000 ≤ x ∧ x ≤ 1000000) ∧ (-1000000 ≤ y ∧ y ≤ 1000000) ∧ Came x0 y0 pre x y ∧ pre.length + ms x y ≤ 3000000000001 ∧ m = ms x y + (if pre = [] then 1 else 0) ∧
    Below w.heap.size w wr ∧ wr.cell? ⟨w.heap.size, 0, none⟩ = some (.int .i64 x) ∧ wr.cell? ⟨w.heap.size, 1, none⟩ = some (.int .i64 y) ∧ wr.frozen? ⟨w.heap.size, 0, none⟩ = false ∧ wr.frozen? ⟨w.heap.size, 1, none⟩ = false

/-- one round's end -/
theorem SOfRel.step {x0 y0 x y : Int} {pre : List UInt8} {t : ByteArray} {w wr : World} (ht : toL t = pre.reverse) (hx : -1000000 ≤ x ∧ x ≤ 1000000) (hy : -1000000 ≤ y ∧ y ≤ 1000000) (hc : Came x0 y0 pre x y) (hl : pre.length + ms x y ≤ 3000000000001) (hz : pre = [] ∨ ¬ (x = 0 ∧ y = 0))
    (hB : Below w.heap.size w wr) (c0 : wr.cell? ⟨w.heap.size, 0, none⟩ = some (.int .i64 (nX x y))) (c1 : wr.cell? ⟨w.heap.size, 1, none⟩ = some (.int .i64 (nY x y))) (f0 : wr.frozen? ⟨w.heap.size, 0, none⟩ = false) (f1 : wr.frozen? ⟨w.heap.size, 1, none⟩ = false) :
    SOfRel x0 y0 w (ms (nX x y) (nY x y)) (.string (bs [bitc (lastD x y)] ++ t)) wr := by
  obtain ⟨hx', hy'⟩ := next_in hx hy
  have hm : ms (nX x y) (nY x y) ≤ ms x y ∧ (pre ≠ [] → ms (nX x y) (nY x y) < ms x y) := by
    by_cases h : x = 0 ∧ y = 0
    · obtain ⟨rfl, rfl⟩ := h
      exact ⟨by decide, fun hp => absurd (hz.resolve_left hp) (by simp)⟩
    · have := ms_less h; exact ⟨by omega, fun _ => this⟩
  refine ⟨nX x y, nY x y, pre ++ [bitc (lastD x y)], _, rfl, by rw [toL_cons, ht]; simp, hx', hy', hc.step hz, ?_, by simp, hB, c0, c1, f0, f1⟩
  rw [List.length_append, List.length_singleton]
  by_cases hp : pre = []
  · subst hp; have := ms_le hx' hy'; simp; omega
  · have := hm.2 hp; omega

end Go.Proofs.YtaleeoghifcadaaDoor

/- A string's iterator beside other blocks. No law is stated here. -/
import Derived.Test.YtmdnfamjdogogaaDoorDa
namespace Go.Proofs.YtmdnfamjdogogaaDoor
set_option linter.unusedSimpArgs false
set_option linter.unusedVariables false
open Go.RowKit

theorem alloc_size (w : World) (o : Obj) : (w.alloc o).heap.size = w.heap.size + 1 := by show (w.heap.push o).size = _; simp
theorem iterAt_cell (w : World) (k : Nat) (s : ByteArray) (pos : Nat) {b o : Nat} (h : b ≠ k) : (w.iterAt k s pos).cell? ⟨b, o, none⟩ = w.cell? ⟨b, o, none⟩ :=
  World.cell?_of_block (w := w) (a := ⟨b, o, none⟩) (Lib.iterAt_other w k b s pos h)
theorem iterAt_froz (w : World) (k : Nat) (s : ByteArray) (pos : Nat) {b o : Nat} (h : b ≠ k) : (w.iterAt k s pos).frozen? ⟨b, o, none⟩ = w.frozen? ⟨b, o, none⟩ :=
  World.frozen?_of_block (w := w) (a := ⟨b, o, none⟩) (Lib.iterAt_other w k b s pos h)
theorem iter_of_below {w w' : World} (h : Below w.heap.size w w') {k : Nat} {s : ByteArray} {pos : Nat} (hk : w.heap[k]? = some (.stringIter s pos)) : w'.heap[k]? = some (.stringIter s pos) :=
  (h.block k (Array.getElem?_eq_some_iff.1 hk).1).trans hk
theorem iter_set {w : World} {k : Nat} {s : ByteArray} {pos : Nat} (hk : w.heap[k]? = some (.stringIter s pos)) {a : Addr} (ha : k ≠ a.block) (v : Value) : (w.setCell a v).heap[k]? = some (.stringIter s pos) :=
  (Below.heap_setCell _ _ _ _ ha).trans hk
theorem iter_lt {w : World} {k : Nat} {s : ByteArray} {pos : Nat} (hk : w.heap[k]? = some (.stringIter s pos)) : k < w.heap.size := (Array.getElem?_eq_some_iff.1 hk).1
theorem iter_cell (w : World) (s : ByteArray) (pos : Nat) {b o : Nat} {v : Value} (h : w.cell? ⟨b, o, none⟩ = some v) : (w.iter s pos).cell? ⟨b, o, none⟩ = some v := keepcell (iter_below w s pos) h
theorem iter_froz (w : World) (s : ByteArray) (pos : Nat) {b o : Nat} (hb : b < w.heap.size) : (w.iter s pos).frozen? ⟨b, o, none⟩ = w.frozen? ⟨b, o, none⟩ := (iter_below w s pos).frozen (p := ⟨b, o, none⟩) hb
end Go.Proofs.YtmdnfamjdogogaaDoor

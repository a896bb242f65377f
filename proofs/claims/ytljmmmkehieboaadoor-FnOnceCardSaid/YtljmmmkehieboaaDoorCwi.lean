/- Chapter 5: CurveWord, of both sides. No law is stated here. -/
import Derived.Test.YtljmmmkehieboaaDoorCwd
import Derived.Deep.Cut
namespace Go.Proofs.YtljmmmkehieboaaDoor
set_option linter.unusedSimpArgs false
set_option linter.unusedVariables false
open Go.RowKit Ieee

theorem infoB2 : (Tryd.prog.info? 5).map (fun i => (i.zero, i.size, i.bytes)) = some (some (.int .u8 0), 1, 1) := infoB
def CwRel (Z : List (Int × Int)) (o : Nat) (w : World) (m : Nat) (v i : Value) (wr : World) : Prop :=
  ∃ (k : Nat) (l : List UInt8), k + m + 2 = Z.length ∧ i = .int .i64 ((k + o : Nat) : Int) ∧ ltrs Z k = some l ∧ wr.ownsRow w.heap.size 5 1 v k (l.map encB) ∧ Below w.heap.size w wr
theorem cs_at {a : Option Addr} {Z : List (Int × Int)} {w : World} (h : CSl a (Z.map encP) w) (hz : 0 < Z.length) : ∃ g o, a = some ⟨g, o, none⟩ ∧ g < w.heap.size ∧ ∀ k, (hk : k < Z.length) → w.cell? ⟨g, o + k, none⟩ = some (encP Z[k]) := by
  rcases h with h0 | ⟨g, o, rfl, hc⟩
  · rw [List.map_eq_nil_iff] at h0; rw [h0] at hz; simp at hz
  · have hc' : ∀ k, (hk : k < Z.length) → w.cell? ⟨g, o + k, none⟩ = some (encP Z[k]) := fun k hk => hc k _ (by rw [List.getElem?_map, List.getElem?_eq_getElem hk]; rfl)
    exact ⟨g, o, rfl, World.block_lt_of_cell? w _ (hc' 0 hz), hc'⟩
end Go.Proofs.YtljmmmkehieboaaDoor

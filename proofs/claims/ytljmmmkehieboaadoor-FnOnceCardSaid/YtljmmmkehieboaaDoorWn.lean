/- Chapter 5: CurveWindow, of both sides. No law is stated here. -/
import Derived.Test.YtljmmmkehieboaaDoorTw
import Derived.Deep.RegionHeld
import Derived.RegionCalls
import Derived.StillTailTactics
import Derived.Deep.DeepCutAuto
import Derived.Deep.Cut
namespace Go.Proofs.YtljmmmkehieboaaDoor
set_option linter.unusedSimpArgs false
set_option linter.unusedVariables false
open Go.RowKit Ieee

theorem infoC2 : (Tryd.prog.info? 24).map (fun i => (i.zero, i.size, i.bytes)) = some (some (.complex .f32 0 0), 1, 8) := infoC
/-- the points of a window, each less the first one -/
def lessL (Z : List (Int × Int)) : List (Int × Int) := Z.map fun z => subP z (zg Z 0)
theorem lessL_len (Z : List (Int × Int)) : (lessL Z).length = Z.length := by simp [lessL]
theorem less_snoc {Z : List (Int × Int)} {k : Nat} (h : k < Z.length) : ((lessL Z).take (k + 1)).map encP = ((lessL Z).take k).map encP ++ [encP (subP (zg Z k) (zg Z 0))] := by
  refine take_map_snoc ?_ encP
  unfold lessL
  rw [List.getElem?_map, List.getElem?_eq_getElem h, zg_get h]; rfl
def LsRel (Z : List (Int × Int)) (w : World) (m : Nat) (v i : Value) (wr : World) : Prop :=
  ∃ k : Nat, k + m = Z.length ∧ i = .int .i64 k ∧ wr.ownsRow w.heap.size 24 1 v k (((lessL Z).take k).map encP) ∧ Below w.heap.size w wr
/-- the window, if it is one -/
noncomputable def wnB (L : List SZ) (f t : Int) : Bool := pathZ L && (decide (0 ≤ f) && (decide (f < t) && decide (t ≤ (L.length : Int))))
def wnL (Z : List (Int × Int)) (f t : Int) : List (Int × Int) := lessL ((Z.take t.toNat).drop f.toNat)
noncomputable def wnA (L : List SZ) (f t : Int) : List (Int × Int) := if wnB L f t = true then wnL (L.map val) f t else []
def WnPost (L : List SZ) (f t : Int) (w : World) (e : Ending) (w' : World) : Prop := ∃ v, e = .returned (.tuple #[v, .bool (wnB L f t)]) ∧ w'.ownsRow w.heap.size 24 1 v (wnA L f t).length ((wnA L f t).map encP) ∧ Below w.heap.size w w'
theorem wnB_iff {L : List SZ} {f t : Int} : wnB L f t = true ↔ pathZ L = true ∧ 0 ≤ f ∧ f < t ∧ t ≤ (L.length : Int) := by
  unfold wnB; simp only [Bool.and_eq_true, decide_eq_true_eq]
theorem wnA_t {L : List SZ} {f t : Int} (h : wnB L f t = true) : wnA L f t = wnL (L.map val) f t := by unfold wnA; rw [if_pos h]
theorem wnA_f {L : List SZ} {f t : Int} (h : wnB L f t = false) : wnA L f t = [] := by unfold wnA; rw [h]; rfl
end Go.Proofs.YtljmmmkehieboaaDoor

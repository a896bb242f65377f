/- Chapter 5: CurveWindow, of both sides. No law is stated here. -/
import Derived.Test.YtljmmmkehieboaaTw
import Derived.Deep.RegionHeld
import Derived.RegionCalls
import Derived.StillTailTactics
import Derived.Deep.DeepCutAuto
import Derived.Deep.Cut
namespace Go.Proofs.Ytljmmmkehieboaa
set_option linter.unusedSimpArgs false
set_option linter.unusedVariables false
open Go.RowKit Ieee

theorem infoC2 : (Try.prog.info? 31).map (fun i => (i.zero, i.size, i.bytes)) = some (some (.complex .f32 0 0), 1, 8) := infoC
/-- the points of a window, each less the first one -/
def lessL (Z : List (Int × Int)) : List (Int × Int) := Z.map fun z => subP z (zg Z 0)
theorem lessL_len (Z : List (Int × Int)) : (lessL Z).length = Z.length := by simp [lessL]
theorem less_snoc {Z : List (Int × Int)} {k : Nat} (h : k < Z.length) : ((lessL Z).take (k + 1)).map encP = ((lessL Z).take k).map encP ++ [encP (subP (zg Z k) (zg Z 0))] := by
  refine take_map_snoc ?_ encP
  unfold lessL
  rw [List.getElem?_map, List.getElem?_eq_getElem h, zg_get h]; rfl
def LsRel (Z : List (Int × Int)) (w : World) (m : Nat) (v i : Value) (wr : World) : Prop :=
  ∃ k : Nat, k + m = Z.length ∧ i = .int .i64 k ∧ wr.ownsRow w.heap.size 31 1 v k (((lessL Z).take k).map encP) ∧ Below w.heap.size w wr
set_option maxRecDepth 100000 in
set_option maxHeartbeats 4000000 in
theorem lessFirst_c (g o c : Nat) (Z : List (Int × Int)) (w : World) (hl : Z.length ≤ 1025) (h0 : 0 < Z.length) (hS : ∀ z ∈ Z, Bp 400 z) (h : ∀ k, (hk : k < Z.length) → w.cell? ⟨g, o + k, none⟩ = some (encP Z[k])) :
    Calls Try.prog 53 #[.slice (some ⟨g, o, none⟩) Z.length c] w fun e w' => ∃ v, e = .returned v ∧ w'.ownsRow w.heap.size 31 1 v Z.length ((lessL Z).map encP) ∧ Below w.heap.size w w' := by
  obtain ⟨i0, hi, hz0, hz1, hz2⟩ := info_parts infoC2
  have HCL := Lib.hid h
  have HZB := Lib.hid hS
  clear h hS
  go_enter Try.func53, Try.ntmps53
  go_wp2_with (refine wpList_make_own _ rfl _ _ 24 rfl w.heap.size 31 i0 (.complex .f32 0 0) 1 Try.underlying24 hi hz0 hz1 .i64 .i64 _ Z.length rfl rfl rfl (by rw [hz2]; omega) (by unfold maxLen; omega) (Nat.le_refl _) ?_)
  intro W2 hown hgrow
  have hB2 : Below w.heap.size w W2 := Below.grown (Below.refl _ _) hgrow (Nat.le_refl _) (fun k hk => by cases hk)
  have S0 := Lib.hid (show LsRel Z w Z.length (.slice (some ⟨w.heap.size, 0, none⟩) 0 Z.length) (.int .i64 0) W2 from ⟨0, by omega, rfl, hown, hB2⟩)
  clear hown hgrow hB2
  go_wp2_with fail
  go_loopg [3, 5, 11] Z.length (fun m v z i wr => LsRel Z w m v i wr)
  case atStart => exact S0.out
  case round =>
    clear S0
    obtain ⟨k, hk, rfl, hown, hB⟩ := hrel
    have HO := Lib.hid hown
    have zr := hB.size
    clear hown
    by_cases hlt : k < Z.length
    · have ck := keepcell hB (HCL.out k hlt)
      have c0 := keepcell hB (HCL.out 0 h0)
      rw [← zg_get hlt] at ck
      rw [← zg_get h0, Nat.add_zero] at c0
      have b0 := zg_in HZB.out 0
      have bk := zg_in HZB.out k
      have f1 := fun w t => run_psub (P := Try.prog) w t (p := zg Z k) (q := zg Z 0) ⟨Nat.le_trans bk.1 (by omega), Nat.le_trans bk.2 (by omega)⟩ ⟨Nat.le_trans b0.1 (by omega), Nat.le_trans b0.2 (by omega)⟩
      have HT := Lib.hid (less_snoc hlt)
      clear b0 bk
      generalize subP (zg Z k) (zg Z 0) = d at *
      generalize zg Z k = z at *
      generalize zg Z 0 = z0 at *
      go_wp2_with (at_builtin; refine wpList_append_own _ rfl _ _ 24 rfl w.heap.size 31 i0 (.complex .f32 0 0) 1 8 Try.underlying24 hi hz0 hz1 hz2 rfl (by decide) _ _ _ rfl (HO.out.alloc _) ⟨wr.heap.size, 0, none⟩ 1 1 [encP d] rfl rfl (cells1 _ _ _) (one1 _ rfl) (by unfold maxLen; omega) (by omega) (by simp; omega) ?_)
      intro v' W3 hown' hgrow _
      have hB3 : Below w.heap.size w W3 := Below.grown (by (repeat' (first | assumption | exact Below.refl _ _ | apply Blw.alloc | apply Blw.drew | apply Blw.drewN | (refine Blw.after ?_ (by assumption)) | (refine Blw.set ?_ (by first | (dsimp only; omega) | (simp; done) | (simp; omega)) _)))) hgrow (by simp; omega) (fun k hk => (HO.out.lt k hk).1)
      have HO3 := Lib.hid hown'
      clear hgrow hown' HO
      go_wp2_with fail
      go_roundg (gk - 1)
      case measure => omega
      case rel => exact ⟨k + 1, by omega, by go_num, by rw [HT.out, List.map_take]; exact HO3.out, hB3⟩
    · obtain rfl : k = Z.length := by omega
      have hall : (lessL Z).take Z.length = lessL Z := List.take_of_length_le (by rw [lessL_len]; omega)
      rw [hall] at HO
      clear hall
      go_wp2_with fail
      go_ret
      exact ⟨_, rfl, HO.out, hB⟩
/-- the window, if it is one -/
noncomputable def wnB (L : List SZ) (f t : Int) : Bool := pathZ L && (decide (0 ≤ f) && (decide (f < t) && decide (t ≤ (L.length : Int))))
def wnL (Z : List (Int × Int)) (f t : Int) : List (Int × Int) := lessL ((Z.take t.toNat).drop f.toNat)
noncomputable def wnA (L : List SZ) (f t : Int) : List (Int × Int) := if wnB L f t = true then wnL (L.map val) f t else []
def WnPost (L : List SZ) (f t : Int) (w : World) (e : Ending) (w' : World) : Prop := ∃ v, e = .returned (.tuple #[v, .bool (wnB L f t)]) ∧ w'.ownsRow w.heap.size 31 1 v (wnA L f t).length ((wnA L f t).map encP) ∧ Below w.heap.size w w'
theorem wnB_iff {L : List SZ} {f t : Int} : wnB L f t = true ↔ pathZ L = true ∧ 0 ≤ f ∧ f < t ∧ t ≤ (L.length : Int) := by
  unfold wnB; simp only [Bool.and_eq_true, decide_eq_true_eq]
theorem wnA_t {L : List SZ} {f t : Int} (h : wnB L f t = true) : wnA L f t = wnL (L.map val) f t := by unfold wnA; rw [if_pos h]
theorem wnA_f {L : List SZ} {f t : Int} (h : wnB L f t = false) : wnA L f t = [] := by unfold wnA; rw [h]; rfl
end Go.Proofs.Ytljmmmkehieboaa

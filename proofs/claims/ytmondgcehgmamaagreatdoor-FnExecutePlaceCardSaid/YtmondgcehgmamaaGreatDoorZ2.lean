/- Merged texts: De3 Db Eq By Df DAdd Di Dk Dg Dh Di2 Dl Dr Dp0 Ds Rd Wm Wa Tz Yc Ye Yf. No law is stated here. -/
import Derived.ChangeKeysEq
import Derived.OwnWalk
import Derived.Laws.IdiomStrings
import Derived.Laws.Bits128
import Derived.RegionTactic
import Derived.BigRegion
import Derived.Sort.WalkB12
import Derived.Lib.SlicesMore
import Derived.Shelf.SlicesE.Kit
import Derived.Laws.BitsAllLaws
import Derived.OpenShut
import Derived.ChangeSame
import Derived.JoinedOf
import Derived.JoinedAt
import Derived.RowKit3
import Derived.Lib.SmallJoins
import Derived.LaidMore
import Derived.Stop.LaidErr
import Derived.ChangeVars
import Derived.ChangeStays
import Derived.WideKeyArgs
import Derived.WalkSmall
import Derived.Carry
import Derived.Deep.DeepCutAuto
import Derived.Test.YtmondgcehgmamaaGreatDoorShelf
import Derived.Tactics
import Derived.Lib.LaidTab
import Derived.Test.YtmondgcehgmamaaGreatDoorZ1
namespace Go.Proofs.YtmondgcehgmamaaGreatDoor
set_option linter.unusedSimpArgs false
set_option linter.unusedVariables false
open Go.RowKit

def ofV (x y : Int) : Value := if inB 1000000 x y then resD (dgs1 x y).reverse else .tuple #[.string ⟨#[]⟩, .bool false]
theorem ms_le {x y : Int} (hx : -1000000 ≤ x ∧ x ≤ 1000000) (hy : -1000000 ≤ y ∧ y ≤ 1000000) : ms x y ≤ 3000000000000 := by
  have key : ∀ a : Int, -1000000 ≤ a ∧ a ≤ 1000000 → a * a ≤ 1000000000000 := by
    intro a h
    have : 0 ≤ (1000000 - a) * (1000000 + a) := Int.mul_nonneg (by omega) (by omega)
    have e : (1000000 - a) * (1000000 + a) = 1000000000000 - a * a := by grind
    omega
  have h1 := key x hx
  have h2 := key y hy
  unfold ms
  split
  · unfold nm; omega
  · have := cntS_le 20 x y; omega
theorem toL_cons (d : Int) (t : ByteArray) : toL (bs [bitc d] ++ t) = bitc d :: toL t := by
  simp [toL, bs, ByteArray.data_append]

/-- the digits that have come up, from the last one on: with those that are left they are all -/
def Came (x0 y0 : Int) (pre : List UInt8) (x y : Int) : Prop := (pre = [] ∧ x = x0 ∧ y = y0) ∨ (pre ≠ [] ∧ pre ++ dgs x y = dgs1 x0 y0)
theorem Came.step {x0 y0 x y : Int} {pre : List UInt8} (h : Came x0 y0 pre x y) (hz : pre = [] ∨ ¬ (x = 0 ∧ y = 0)) : Came x0 y0 (pre ++ [bitc (lastD x y)]) (nX x y) (nY x y) := by
  right
  refine ⟨by simp, ?_⟩
  rcases h with ⟨rfl, rfl, rfl⟩ | ⟨hp, h⟩
  · rw [dgs1_step]; rfl
  · rw [dgs_step (hz.resolve_left hp)] at h
    rw [← h]; simp
theorem Came.done {x0 y0 : Int} {pre : List UInt8} (h : Came x0 y0 pre 0 0) (hp : pre ≠ []) : pre = dgs1 x0 y0 := by
  rcases h with ⟨rfl, _⟩ | ⟨_, h⟩
  · exact absurd rfl hp
  · rw [dgs_zero, List.append_nil] at h; exact h
def SOfRel (x0 y0 : Int) (w : World) (m : Nat) (v : Value) (wr : World) : Prop :=
  ∃ (x y : Int) (pre : List UInt8) (t : ByteArray), v = .string t ∧ toL t = pre.reverse ∧ (-1000000 ≤ x ∧ x ≤ 1000000) ∧ (-1000000 ≤ y ∧ y ≤ 1000000) ∧ Came x0 y0 pre x y ∧ pre.length + ms x y ≤ 3000000000001 ∧ m = ms x y + (if pre = [] then 1 else 0) ∧
    Below w.heap.size w wr ∧ wr.cell? ⟨w.heap.size, 0, none⟩ = some (.int .i64 x) ∧ wr.cell? ⟨w.heap.size, 1, none⟩ = some (.int .i64 y) ∧ wr.frozen? ⟨w.heap.size, 0, none⟩ = false ∧ wr.frozen? ⟨w.heap.size, 1, none⟩ = false

/-- one round's end -/
theorem SOfRel.step {x0 y0 x y : Int} {pre : List UInt8} {t : ByteArray} {w wr : World} (ht : toL t = pre.reverse) (hx : -1000000 ≤ x ∧ x ≤ 1000000) (hy : -1000000 ≤ y ∧ y ≤ 1000000) (hc : Came x0 y0 pre x y) (hl : pre.length + ms x y ≤ 3000000000001) (hz : pre = [] ∨ ¬ (x = 0 ∧ y = 0))
    (hB : Below w.heap.size w wr) (c0 : wr.cell? ⟨w.heap.size, 0, none⟩ = some (.int .i64 (nX x y))) (c1 : wr.cell? ⟨w.heap.size, 1, none⟩ = some (.int .i64 (nY x y))) (f0 : wr.frozen? ⟨w.heap.size, 0, none⟩ = false) (f1 : wr.frozen? ⟨w.heap.size, 1, none⟩ = false) :
    SOfRel x0 y0 w (ms (nX x y) (nY x y)) (.string (bs [bitc (lastD x y)] ++ t)) wr := by
  obtain ⟨hx', hy'⟩ := next_in hx hy
  have hm : ms (nX x y) (nY x y) ≤ ms x y ∧ (pre ≠ [] → ms (nX x y) (nY x y) < ms x y) := by
    by_cases h : x = 0 ∧ y = 0
    · obtain ⟨rfl, rfl⟩ := h
      exact ⟨by decide, fun hp => absurd (hz.resolve_left hp) (by simp)⟩
    · have := ms_less h; exact ⟨by omega, fun _ => this⟩
  refine ⟨nX x y, nY x y, pre ++ [bitc (lastD x y)], _, rfl, by rw [toL_cons, ht]; simp, hx', hy', hc.step hz, ?_, by simp, hB, c0, c1, f0, f1⟩
  rw [List.length_append, List.length_singleton]
  by_cases hp : pre = []
  · subst hp; have := ms_le hx' hy'; simp; omega
  · have := hm.2 hp; omega

set_option maxHeartbeats 2000000 in
theorem sDigitsOf_c (x0 y0 : Int) (w : World) : Calls Tryz.prog 109 #[pr x0 y0] w fun e w' => e = .returned (ofV x0 y0) ∧ Below w.heap.size w w' := by
  rcases Bool.eq_false_or_eq_true (inB 1000000 x0 y0) with hi | hi
  · have H := Lib.hid (show ofV x0 y0 = resD (dgs1 x0 y0).reverse by unfold ofV; rw [hi]; rfl)
    obtain ⟨x1, x2, y1, y2⟩ := inB_le hi
    go_enter Tryz.func109, Tryz.ntmps109
    go_wp2_with fail
    generalize hW : World.alloc _ _ = W0
    have kW0_17 : W0.cell? ⟨w.heap.size, 0, none⟩ = some (.int .i64 (x0)) := by rw [← hW]; clear hW; first | (go_simp; done) | ((repeat refine keepcell ((Below.refl _ _).alloc (Nat.le_refl _) _) ?_); go_simp; done) | (simp only [frozen?_alloc_cells]; go_simp; done)
    have zW0_17 : W0.frozen? ⟨w.heap.size, 0, none⟩ = false := by rw [← hW]; clear hW; first | (go_simp; done) | ((repeat refine keepcell ((Below.refl _ _).alloc (Nat.le_refl _) _) ?_); go_simp; done) | (simp only [frozen?_alloc_cells]; go_simp; done)
    have kW0_18 : W0.cell? ⟨w.heap.size, 1, none⟩ = some (.int .i64 (y0)) := by rw [← hW]; clear hW; first | (go_simp; done) | ((repeat refine keepcell ((Below.refl _ _).alloc (Nat.le_refl _) _) ?_); go_simp; done) | (simp only [frozen?_alloc_cells]; go_simp; done)
    have zW0_18 : W0.frozen? ⟨w.heap.size, 1, none⟩ = false := by rw [← hW]; clear hW; first | (go_simp; done) | ((repeat refine keepcell ((Below.refl _ _).alloc (Nat.le_refl _) _) ?_); go_simp; done) | (simp only [frozen?_alloc_cells]; go_simp; done)
    have : w.heap.size < W0.heap.size := World.block_lt_of_cell? W0 ⟨w.heap.size, 0, none⟩ (by assumption)
    have hBW0 : Below w.heap.size w W0 := by rw [← hW]; (first | ((repeat' with_reducible first | assumption | exact Below.refl _ _ | apply Blw.alloc | apply Blw.drew | apply Blw.drewN | (refine Blw.after ?_ (by assumption)) | (refine Blw.set ?_ (by first | (dsimp only; omega) | (simp; omega)) _)); done) | (repeat' (first | assumption | exact Below.refl _ _ | apply Blw.alloc | apply Blw.drew | apply Blw.drewN | (refine Blw.after ?_ (by assumption)) | (refine Blw.set ?_ (by first | (dsimp only; omega) | (simp; done) | (simp; omega)) _))))
    have hsW0 := hBW0.size
    clear hW
    go_wp2_with (first | (go_at_call 155; refine (sGaussSmall_c _ _ _).mono ?_; rintro e w1 ⟨rfl, hb⟩; have hk : Hld W0 w1 := heldM (by (first | ((repeat' with_reducible first | assumption | exact Below.refl _ _ | apply Blw.alloc | apply Blw.drew | apply Blw.drewN | (refine Blw.after ?_ (by assumption)) | (refine Blw.set ?_ (by first | (dsimp only; omega) | (simp; omega)) _)); done) | (repeat' (first | assumption | exact Below.refl _ _ | apply Blw.alloc | apply Blw.drew | apply Blw.drewN | (refine Blw.after ?_ (by assumption)) | (refine Blw.set ?_ (by first | (dsimp only; omega) | (simp; done) | (simp; omega)) _))))); have hk1 := hk.1))
    have S0 := Lib.hid (show SOfRel x0 y0 w (ms x0 y0 + 1) (.string ⟨#[]⟩) w1 from ⟨x0, y0, [], ⟨#[]⟩, rfl, rfl, ⟨by omega, by omega⟩, ⟨by omega, by omega⟩, Or.inl ⟨rfl, rfl, rfl⟩, by have := ms_le (x := x0) (y := y0) ⟨by omega, by omega⟩ ⟨by omega, by omega⟩; simp; omega, by simp, by (first | ((repeat' with_reducible first | assumption | exact Below.refl _ _ | apply Blw.alloc | apply Blw.drew | apply Blw.drewN | (refine Blw.after ?_ (by assumption)) | (refine Blw.set ?_ (by first | (dsimp only; omega) | (simp; omega)) _)); done) | (repeat' (first | assumption | exact Below.refl _ _ | apply Blw.alloc | apply Blw.drew | apply Blw.drewN | (refine Blw.after ?_ (by assumption)) | (refine Blw.set ?_ (by first | (dsimp only; omega) | (simp; done) | (simp; omega)) _)))), by go_simp, by go_simp, by go_simp, by go_simp⟩)
    clear hi x1 x2 y1 y2 hb hk hk1
    try clear kW0_17; try clear zW0_17; try clear kW0_18; try clear zW0_18
    go_loopg [4] (ms x0 y0 + 1) (fun m v wr => SOfRel x0 y0 w m v wr)
    case atStart => exact S0.out
    case round =>
      clear S0
      obtain ⟨x, y, pre, t, rfl, ht, ⟨x1, x2⟩, ⟨y1, y2⟩, hc, hl, hm, hB, c0, c1, f0, f1⟩ := hrel
      have L0 : w.heap.size < wr.heap.size := World.block_lt_of_cell? wr _ c0
      have ST := Lib.hid (fun (hz : pre = [] ∨ ¬ (x = 0 ∧ y = 0)) (W : World) => SOfRel.step (w := w) (wr := W) ht ⟨x1, x2⟩ ⟨y1, y2⟩ hc hl hz)
      have HT := Lib.hid ht
      have HM := Lib.hid hm
      have hsz : t.size ≤ 3000000000001 := by rw [← toL_len, ht, List.length_reverse]; omega
      have HC := Lib.hid hc
      clear ht hm hc
      by_cases hz : x = 0 ∧ y = 0
      · obtain ⟨rfl, rfl⟩ := hz
        by_cases hp : pre = []
        · subst hp
          obtain rfl : t = ⟨#[]⟩ := toL_ext (by rw [HT.out]; rfl)
          have hb1 : (bs [bitc (lastD 0 0)]).size = 1 := rfl
          go_wp2_with (fail)
          refine (l2Last_c 0 0 _ ⟨⟨by omega, by omega⟩, ⟨by omega, by omega⟩⟩).mono ?_
          rintro e wA ⟨rfl, hbwA⟩
          have hkwA : Hld wr wA := heldM (by (first | ((repeat' with_reducible first | assumption | exact Below.refl _ _ | apply Blw.alloc | apply Blw.drew | apply Blw.drewN | (refine Blw.after ?_ (by assumption)) | (refine Blw.set ?_ (by first | (dsimp only; omega) | (simp; omega)) _)); done) | (repeat' (first | assumption | exact Below.refl _ _ | apply Blw.alloc | apply Blw.drew | apply Blw.drewN | (refine Blw.after ?_ (by assumption)) | (refine Blw.set ?_ (by first | (dsimp only; omega) | (simp; done) | (simp; omega)) _)))))
          have hlwA := hkwA.1
          have hswA := hkwA.2.2.2
          try (have : w.heap.size < wA.heap.size := by omega)
          have LA : w.heap.size < wA.heap.size := by omega
          go_wp2_with (first | (go_at_call 71; refine (l2Bit_c _ _ (lastD_01 0 0)).mono ?_; rintro e w1 ⟨rfl, rfl⟩))
          go_roundg (ms (nX 0 0) (nY 0 0))
          case measure => rw [HM.out]; simp; decide
          case rel => exact ST.out (by first | exact Or.inl rfl | exact Or.inl trivial | exact trivial) _ (by (first | ((repeat' with_reducible first | assumption | exact Below.refl _ _ | apply Blw.alloc | apply Blw.drew | apply Blw.drewN | (refine Blw.after ?_ (by assumption)) | (refine Blw.set ?_ (by first | (dsimp only; omega) | (simp; omega)) _)); done) | (repeat' (first | assumption | exact Below.refl _ _ | apply Blw.alloc | apply Blw.drew | apply Blw.drewN | (refine Blw.after ?_ (by assumption)) | (refine Blw.set ?_ (by first | (dsimp only; omega) | (simp; done) | (simp; omega)) _))))) (by go_simp) (by go_simp) (by go_simp) (by go_simp)
        · have HP := Lib.hid hp
          have e1 : ¬ t.toList = [] := by rw [toList_toL, HT.out]; simpa using hp
          have e2 : t.toList.isEmpty = false := by rw [toList_toL, HT.out]; simpa using hp
          have HR := Lib.hid (show resD (toL t) = resD (dgs1 x0 y0).reverse by rw [HT.out, HC.out.done hp])
          clear hp
          go_wp2_with (first | (go_at_call 42; refine (l2Done_c _ _).mono ?_; rintro e w1 ⟨rfl, rfl⟩))
          go_ret2
          exact ⟨by rw [H.out, ← HR.out]; rfl, by (first | ((repeat' with_reducible first | assumption | exact Below.refl _ _ | apply Blw.alloc | apply Blw.drew | apply Blw.drewN | (refine Blw.after ?_ (by assumption)) | (refine Blw.set ?_ (by first | (dsimp only; omega) | (simp; omega)) _)); done) | (repeat' (first | assumption | exact Below.refl _ _ | apply Blw.alloc | apply Blw.drew | apply Blw.drewN | (refine Blw.after ?_ (by assumption)) | (refine Blw.set ?_ (by first | (dsimp only; omega) | (simp; done) | (simp; omega)) _))))⟩
      · have T : ¬ x = 0 ∨ (x = 0 ∧ ¬ y = 0) := by omega
        have HZ := Lib.hid hz
        clear hz
        rcases T with T | ⟨rfl, T⟩
        · have HQ := Lib.hid (ms_less HZ.out)
          have hb1 : (bs [bitc (lastD x y)]).size = 1 := rfl
          go_wp2_with (fail)
          refine (l2Last_c x y _ ⟨⟨by omega, by omega⟩, ⟨by omega, by omega⟩⟩).mono ?_
          rintro e wA ⟨rfl, hbwA⟩
          have hkwA : Hld wr wA := heldM (by (first | ((repeat' with_reducible first | assumption | exact Below.refl _ _ | apply Blw.alloc | apply Blw.drew | apply Blw.drewN | (refine Blw.after ?_ (by assumption)) | (refine Blw.set ?_ (by first | (dsimp only; omega) | (simp; omega)) _)); done) | (repeat' (first | assumption | exact Below.refl _ _ | apply Blw.alloc | apply Blw.drew | apply Blw.drewN | (refine Blw.after ?_ (by assumption)) | (refine Blw.set ?_ (by first | (dsimp only; omega) | (simp; done) | (simp; omega)) _)))))
          have hlwA := hkwA.1
          have hswA := hkwA.2.2.2
          try (have : w.heap.size < wA.heap.size := by omega)
          have LA : w.heap.size < wA.heap.size := by omega
          go_wp2_with (first | (go_at_call 71; refine (l2Bit_c _ _ (lastD_01 x y)).mono ?_; rintro e w1 ⟨rfl, rfl⟩))
          go_roundg (ms (nX x y) (nY x y))
          case measure => rw [HM.out]; have := HQ.out; omega
          case rel => exact ST.out (Or.inr HZ.out) _ (by (first | ((repeat' with_reducible first | assumption | exact Below.refl _ _ | apply Blw.alloc | apply Blw.drew | apply Blw.drewN | (refine Blw.after ?_ (by assumption)) | (refine Blw.set ?_ (by first | (dsimp only; omega) | (simp; omega)) _)); done) | (repeat' (first | assumption | exact Below.refl _ _ | apply Blw.alloc | apply Blw.drew | apply Blw.drewN | (refine Blw.after ?_ (by assumption)) | (refine Blw.set ?_ (by first | (dsimp only; omega) | (simp; done) | (simp; omega)) _))))) (by go_simp) (by go_simp) (by go_simp) (by go_simp)
        · have HQ := Lib.hid (ms_less HZ.out)
          have hb1 : (bs [bitc (lastD 0 y)]).size = 1 := rfl
          go_wp2_with (fail)
          refine (l2Last_c 0 y _ ⟨⟨by omega, by omega⟩, ⟨by omega, by omega⟩⟩).mono ?_
          rintro e wA ⟨rfl, hbwA⟩
          have hkwA : Hld wr wA := heldM (by (first | ((repeat' with_reducible first | assumption | exact Below.refl _ _ | apply Blw.alloc | apply Blw.drew | apply Blw.drewN | (refine Blw.after ?_ (by assumption)) | (refine Blw.set ?_ (by first | (dsimp only; omega) | (simp; omega)) _)); done) | (repeat' (first | assumption | exact Below.refl _ _ | apply Blw.alloc | apply Blw.drew | apply Blw.drewN | (refine Blw.after ?_ (by assumption)) | (refine Blw.set ?_ (by first | (dsimp only; omega) | (simp; done) | (simp; omega)) _)))))
          have hlwA := hkwA.1
          have hswA := hkwA.2.2.2
          try (have : w.heap.size < wA.heap.size := by omega)
          have LA : w.heap.size < wA.heap.size := by omega
          go_wp2_with (first | (go_at_call 71; refine (l2Bit_c _ _ (lastD_01 0 y)).mono ?_; rintro e w1 ⟨rfl, rfl⟩))
          go_roundg (ms (nX 0 y) (nY 0 y))
          case measure => rw [HM.out]; have := HQ.out; omega
          case rel => exact ST.out (Or.inr HZ.out) _ (by (first | ((repeat' with_reducible first | assumption | exact Below.refl _ _ | apply Blw.alloc | apply Blw.drew | apply Blw.drewN | (refine Blw.after ?_ (by assumption)) | (refine Blw.set ?_ (by first | (dsimp only; omega) | (simp; omega)) _)); done) | (repeat' (first | assumption | exact Below.refl _ _ | apply Blw.alloc | apply Blw.drew | apply Blw.drewN | (refine Blw.after ?_ (by assumption)) | (refine Blw.set ?_ (by first | (dsimp only; omega) | (simp; done) | (simp; omega)) _))))) (by go_simp) (by go_simp) (by go_simp) (by go_simp)
  · have H := Lib.hid (show ofV x0 y0 = .tuple #[.string ⟨#[]⟩, .bool false] by unfold ofV; rw [hi]; rfl)
    go_enter Tryz.func109, Tryz.ntmps109
    go_wp2_with fail
    generalize hW : World.alloc _ _ = W0
    have kW0_19 : W0.cell? ⟨w.heap.size, 0, none⟩ = some (.int .i64 (x0)) := by rw [← hW]; clear hW; first | (go_simp; done) | ((repeat refine keepcell ((Below.refl _ _).alloc (Nat.le_refl _) _) ?_); go_simp; done) | (simp only [frozen?_alloc_cells]; go_simp; done)
    have zW0_19 : W0.frozen? ⟨w.heap.size, 0, none⟩ = false := by rw [← hW]; clear hW; first | (go_simp; done) | ((repeat refine keepcell ((Below.refl _ _).alloc (Nat.le_refl _) _) ?_); go_simp; done) | (simp only [frozen?_alloc_cells]; go_simp; done)
    have kW0_20 : W0.cell? ⟨w.heap.size, 1, none⟩ = some (.int .i64 (y0)) := by rw [← hW]; clear hW; first | (go_simp; done) | ((repeat refine keepcell ((Below.refl _ _).alloc (Nat.le_refl _) _) ?_); go_simp; done) | (simp only [frozen?_alloc_cells]; go_simp; done)
    have zW0_20 : W0.frozen? ⟨w.heap.size, 1, none⟩ = false := by rw [← hW]; clear hW; first | (go_simp; done) | ((repeat refine keepcell ((Below.refl _ _).alloc (Nat.le_refl _) _) ?_); go_simp; done) | (simp only [frozen?_alloc_cells]; go_simp; done)
    have : w.heap.size < W0.heap.size := World.block_lt_of_cell? W0 ⟨w.heap.size, 0, none⟩ (by assumption)
    have hBW0 : Below w.heap.size w W0 := by rw [← hW]; (first | ((repeat' with_reducible first | assumption | exact Below.refl _ _ | apply Blw.alloc | apply Blw.drew | apply Blw.drewN | (refine Blw.after ?_ (by assumption)) | (refine Blw.set ?_ (by first | (dsimp only; omega) | (simp; omega)) _)); done) | (repeat' (first | assumption | exact Below.refl _ _ | apply Blw.alloc | apply Blw.drew | apply Blw.drewN | (refine Blw.after ?_ (by assumption)) | (refine Blw.set ?_ (by first | (dsimp only; omega) | (simp; done) | (simp; omega)) _))))
    have hsW0 := hBW0.size
    clear hW
    go_wp2_with (first | (go_at_call 155; refine (sGaussSmall_c _ _ _).mono ?_; rintro e w1 ⟨rfl, hb⟩; have hk : Hld W0 w1 := heldM (by (first | ((repeat' with_reducible first | assumption | exact Below.refl _ _ | apply Blw.alloc | apply Blw.drew | apply Blw.drewN | (refine Blw.after ?_ (by assumption)) | (refine Blw.set ?_ (by first | (dsimp only; omega) | (simp; omega)) _)); done) | (repeat' (first | assumption | exact Below.refl _ _ | apply Blw.alloc | apply Blw.drew | apply Blw.drewN | (refine Blw.after ?_ (by assumption)) | (refine Blw.set ?_ (by first | (dsimp only; omega) | (simp; done) | (simp; omega)) _))))); have hk1 := hk.1))
    go_ret2
    exact ⟨by rw [H.out]; rfl, by (first | ((repeat' with_reducible first | assumption | exact Below.refl _ _ | apply Blw.alloc | apply Blw.drew | apply Blw.drewN | (refine Blw.after ?_ (by assumption)) | (refine Blw.set ?_ (by first | (dsimp only; omega) | (simp; omega)) _)); done) | (repeat' (first | assumption | exact Below.refl _ _ | apply Blw.alloc | apply Blw.drew | apply Blw.drewN | (refine Blw.after ?_ (by assumption)) | (refine Blw.set ?_ (by first | (dsimp only; omega) | (simp; done) | (simp; omega)) _))))⟩
end Go.Proofs.YtmondgcehgmamaaGreatDoor

namespace Go.Proofs.YtmondgcehgmamaaGreatDoor
set_option linter.unusedSimpArgs false
set_option linter.unusedVariables false
open Go.RowKit

theorem idx_step {s : ByteArray} {k : Nat} (hk : k < s.size) : idxF ((toL s).take (k + 1)) = 2 * idxF ((toL s).take k) + ((s[k].toNat : Int) - 48) := by
  rw [take_snocB s k hk, idxF_snoc]; rfl
theorem idx_at {s : ByteArray} (h : vldB s = true) (k : Nat) : 0 ≤ idxF ((toL s).take k) ∧ idxF ((toL s).take k) ≤ 1125899906842623 :=
  idx_in (take_bits h k) (Nat.le_trans (List.length_take_le' _ _) (by rw [toL_len]; exact (vldB_len h).2))
theorem byte_at {s : ByteArray} (h : vldB s = true) (k : Nat) (hk : k < s.size) : 48 ≤ (s[k].toNat : Int) ∧ (s[k].toNat : Int) ≤ 49 := by
  have := vldB_at h k hk; omega
theorem decode_vld {s : ByteArray} (h : vldB s = true) (k : Nat) (hk : k < s.size) : Utf8.decode s k = (s[k].toNat, 1) :=
  decode_ascii s k hk (by have := vldB_at h k hk; omega)

def BinRel (s : ByteArray) (w : World) (m : Nat) (v : Value) (wr : World) : Prop := ∃ k : Nat, k + m = s.size ∧ wr = w.iter s k ∧ v = .int .i64 (idxF ((toL s).take k))
set_option maxHeartbeats 1000000 in
theorem binary_c (s : ByteArray) (w : World) (hv : vldB s = true) : Calls Tryz.prog 185 #[.string s] w fun e w' => e = .returned (.int .i64 (idxF (toL s))) ∧ Below w.heap.size w w' := by
  have HV := Lib.hid hv
  clear hv
  go_enter Tryz.func185, Tryz.ntmps185
  go_wp2
  go_loopg [3] s.size (fun m v wr => BinRel s w m v wr)
  case atStart => exact ⟨0, by omega, rfl, by simp [idxF]⟩
  case round =>
    obtain ⟨k, hk, rfl, rfl⟩ := hrel
    by_cases hlt : k < s.size
    · have hnx : ∀ ty, (Instr.next (.pointer (some ⟨w.heap.size, 0, none⟩)) true ty).run Tryz.prog (w.iter s k) = _ := fun ty => run_next_any w s k ty hlt
      rw [decode_vld HV.out k hlt] at hnx
      obtain ⟨b1, b2⟩ := byte_at HV.out k hlt
      obtain ⟨c1, c2⟩ := idx_at HV.out k
      have HS := Lib.hid (idx_step (s := s) hlt)
      go_wp2
      go_roundg (gk - 1)
      case measure => omega
      case rel => exact ⟨k + 1, by omega, rfl, by rw [HS.out]⟩
    · have hnx : ∀ ty, (Instr.next (.pointer (some ⟨w.heap.size, 0, none⟩)) true ty).run Tryz.prog (w.iter s k) = _ := fun ty => run_next_end w s k ty hlt
      have HS := Lib.hid (take_allB s k (by omega))
      go_wp2
      go_ret
      exact ⟨by rw [HS.out]; rfl, by (first | ((repeat' with_reducible first | assumption | exact Below.refl _ _ | apply Blw.alloc | apply Blw.drew | apply Blw.drewN | (refine Blw.after ?_ (by assumption)) | (refine Blw.set ?_ (by first | (dsimp only; omega) | (simp; omega)) _)); done) | (repeat' (first | assumption | exact Below.refl _ _ | apply Blw.alloc | apply Blw.drew | apply Blw.drewN | (refine Blw.after ?_ (by assumption)) | (refine Blw.set ?_ (by first | (dsimp only; omega) | (simp; done) | (simp; omega)) _))))⟩

def idxB (s : ByteArray) : Bool := vldB s && decide (s.size ≤ 40)
def selI (b : Bool) (n : Int) : Int := if b then n else 0
abbrev idxV (s : ByteArray) : Value := .tuple #[.int .i64 (selI (idxB s) (idxF (toL s))), .bool (idxB s)]
theorem idxV_no {s : ByteArray} (h : idxB s = false) : idxV s = .tuple #[.int .i64 0, .bool false] := by unfold idxV; rw [h]; rfl
theorem idxV_yes {s : ByteArray} (h : idxB s = true) : idxV s = .tuple #[.int .i64 (idxF (toL s)), .bool true] := by unfold idxV; rw [h]; rfl

def IdxRel (s : ByteArray) (w : World) (m : Nat) (v i : Value) (wr : World) : Prop := ∃ k : Nat, k + m = s.size ∧ i = .int .i64 k ∧ wr = w ∧ v = .int .i64 (idxF ((toL s).take k))
end Go.Proofs.YtmondgcehgmamaaGreatDoor

namespace Go.Proofs.YtmondgcehgmamaaGreatDoor
set_option linter.unusedSimpArgs false
set_option linter.unusedVariables false
open Go.RowKit

/-- two of the program's pairs, compared -/
@[go_sem] theorem eqPair (a b c d : Int) (w : World) : (Op.equalIn 10000 179 (.agg #[.int .i64 a, .int .i64 b]) (.agg #[.int .i64 c, .int .i64 d])).run Tryz.prog w = .ok (decide (a = c) && decide (b = d)) w := by
  obtain ⟨i, hi, h0, h1, h2⟩ := info_parts (show (Tryz.prog.info? 3).map (fun i => (i.zero, i.size, i.bytes)) = some (some (.int .i64 0), 1, 8) by kernel_rfl)
  show (Op.equalIn (9999 + 1) 179 _ _).run _ _ = _
  rw [run_equalIn_array w 9999 _ _ Tryz.underlying179 hi]
  by_cases e1 : a = c <;> by_cases e2 : b = d <;> simp [go_sem, Op.eqItems, Program.cellsOf, hi, h1, part, e1, e2]

end Go.Proofs.YtmondgcehgmamaaGreatDoor

namespace Go.Proofs.YtmondgcehgmamaaGreatDoor
set_option linter.unusedSimpArgs false
set_option linter.unusedVariables false
open Go.RowKit

/-- a byte in a cell -/
def encB (c : UInt8) : Value := .int .u8 (c.toNat : Int)
theorem encB_one (l : List UInt8) : ∀ u ∈ l.map encB, u.oneCell' = true := by
  intro u hu; obtain ⟨c, _, rfl⟩ := List.mem_map.1 hu; rfl
theorem infoB : (Tryz.prog.info? 5).map (fun i => (i.zero, i.size, i.bytes)) = some (some (.int .u8 0), 1, 1) := by kernel_rfl

theorem cells1 (w : World) (u : Value) (t : TypeId) : ∀ (j : Nat) (u' : Value), [u][j]? = some u' → (w.alloc (.cells #[u] t)).cell? ((⟨w.heap.size, 0, none⟩ : Addr).add j) = some u' := by
  intro j u' hj
  match j, hj with
  | 0, hj => simp at hj; subst hj; simp [Addr.add]
theorem one1 (u : Value) (h : u.oneCell' = true) : ∀ u' ∈ [u], u'.oneCell' = true := by
  intro u' hu; simp at hu; subst hu; exact h
theorem ownsRow_low {w : World} {B B' e n sz : Nat} {v : Value} {xs : List Value} (hB : B' ≤ B) (h : w.ownsRow B e sz v n xs) : w.ownsRow B' e sz v n xs := by
  refine ⟨h.1, h.2.imp id ?_⟩
  rintro ⟨g, cap, cur, h1, h2, h3⟩
  exact ⟨g, cap, cur, h1, Nat.le_trans hB h2, h3⟩
theorem own_below {w w' : World} {B e n sz : Nat} {v : Value} {xs : List Value} (h : w.ownsRow B e sz v n xs) (hb : Below w.heap.size w w') : w'.ownsRow B e sz v n xs := by
  refine ⟨h.1, h.2.imp id ?_⟩
  rintro ⟨g, cap, cur, h1, h2, h3, h4⟩
  exact ⟨g, cap, cur, h1, h2, (hb.block g (Array.getElem?_eq_some_iff.1 h3).1).trans h3, h4⟩
theorem own_set {w : World} {B e n sz : Nat} {v : Value} {xs : List Value} (h : w.ownsRow B e sz v n xs) {a : Addr} (ha : a.block < B) (u : Value) : (w.setCell a u).ownsRow B e sz v n xs := by
  refine ⟨h.1, h.2.imp id ?_⟩
  rintro ⟨g, cap, cur, h1, h2, h3, h4⟩
  exact ⟨g, cap, cur, h1, h2, (Below.heap_setCell _ _ _ _ (by omega)).trans h3, h4⟩
theorem own_ne {w : World} {B e n sz : Nat} {v : Value} {xs : List Value} (h : w.ownsRow B e sz v n xs) {b : Nat} (hb : b < B) : some b ≠ v.ownBlock := by
  intro e1
  have := (h.lt b e1.symm).1
  omega
theorem own_iter {w : World} {B e n sz : Nat} {v : Value} {xs : List Value} (h : w.ownsRow B e sz v n xs) (s : ByteArray) (k : Nat) : (w.iter s k).ownsRow B e sz v n xs := own_below h (iter_below w s k)
theorem own_iterAt {w : World} {B e n sz g n' cap : Nat} {xs : List Value} (h : w.ownsRow B e sz (.slice (some ⟨g, 0, none⟩) n' cap) n xs) {k : Nat} (hk : g ≠ k) (s : ByteArray) (pos : Nat) : (w.iterAt k s pos).ownsRow B e sz (.slice (some ⟨g, 0, none⟩) n' cap) n xs := by
  refine ⟨h.1, h.2.imp id ?_⟩
  rintro ⟨g', cap', cur, h1, h2, h3, h4⟩
  simp only [Value.slice.injEq, Option.some.injEq, Addr.mk.injEq, and_true] at h1
  exact ⟨g', cap', cur, by simp [h1], h2, (Lib.iterAt_other w k g' s pos (by omega)).trans h3, h4⟩
theorem conv_nil (w : World) : (convert 22 9 (.slice none 0 0)).run Tryz.prog w = .ok (.string ⟨#[]⟩) w := by
  rw [run_convert_bytes_string w _ _ _ none 0 0 Tryz.underlying22 Tryz.underlying5 Tryz.underlying9]
  rfl
/-- a row of bytes as a text -/
theorem conv_row {w : World} {B n : Nat} {v : Value} {l : List UInt8} (h : w.ownsRow B 5 1 v n (l.map encB)) : (convert 22 9 v).run Tryz.prog w = .ok (.string (bs l)) w := by
  have hl := h.1
  rw [List.length_map, Nat.mul_one] at hl
  subst hl
  rcases h.2 with ⟨rfl, h0⟩ | ⟨g, cap, cur, rfl, hg, hgg, _⟩
  · obtain rfl : l = [] := List.eq_nil_of_length_eq_zero h0
    exact conv_nil w
  · exact run_convert_bytes_back (P := Tryz.prog) w 22 9 5 ⟨g, 0, none⟩ cap l Tryz.underlying22 Tryz.underlying5 Tryz.underlying9 (fun j hj => by
      have e := h.cellAt j (by omega)
      rw [show (⟨g, 0, none⟩ : Addr).add j = ⟨g, j, none⟩ by simp [Addr.add]; exact fun h => h.symm, e, List.getElem?_map, List.getElem?_eq_getElem hj]
      rfl)
end Go.Proofs.YtmondgcehgmamaaGreatDoor

namespace Go.Proofs.YtmondgcehgmamaaGreatDoor
set_option linter.unusedSimpArgs false
set_option linter.unusedVariables false
open Go.RowKit

theorem i64_and1 (n : Int) : bits .and .i64 n 1 = n % 2 := by
  have h1 : (BitVec.ofInt 64 1).toNat = 2 ^ 1 - 1 := by decide
  have key : (BitVec.ofInt 64 n &&& BitVec.ofInt 64 1).toNat = (n % ((2 ^ 64 : Nat) : Int)).toNat % 2 ^ 1 := by
    rw [BitVec.toNat_and, BitVec.toNat_ofInt, h1, Nat.and_two_pow_sub_one_eq_mod]
  show IntKind.i64.wrap ((BitVec.ofInt 64 n &&& BitVec.ofInt 64 1).toNat : Nat) = n % 2
  rw [key, IntKind.wrap_i64]
  omega

theorem overBase_c (x y a b : Int) (w : World) (hx : -4000000 ≤ x ∧ x ≤ 4000000) (hy : -4000000 ≤ y ∧ y ≤ 4000000) (ha : 2 * a = y - x) (hb : 2 * b = -x - y) : Calls Tryz.prog 211 #[pr x y] w fun e w' => e = .returned (pr a b) ∧ Below w.heap.size w w' := by
  have q1 : (y - x).tdiv 2 = a := tdiv2 ha.symm
  have q2 : (-x - y).tdiv 2 = b := tdiv2 hb.symm
  obtain ⟨h1, h2⟩ := hx
  obtain ⟨h3, h4⟩ := hy
  have a1 : -4000000 ≤ a := by omega
  have a2 : a ≤ 4000000 := by omega
  have b1 : -4000000 ≤ b := by omega
  have b2 : b ≤ 4000000 := by omega
  clear ha hb
  go_enter Tryz.func211, Tryz.ntmps211
  go_wp2
  exact bodyPost_ret (v := pr a b) (by simp [results, Tryz.results211, go_sem, *]) rfl ⟨rfl, by (first | ((repeat' with_reducible first | assumption | exact Below.refl _ _ | apply Blw.alloc | apply Blw.drew | apply Blw.drewN | (refine Blw.after ?_ (by assumption)) | (refine Blw.set ?_ (by first | (dsimp only; omega) | (simp; omega)) _)); done) | (repeat' (first | assumption | exact Below.refl _ _ | apply Blw.alloc | apply Blw.drew | apply Blw.drewN | (refine Blw.after ?_ (by assumption)) | (refine Blw.set ?_ (by first | (dsimp only; omega) | (simp; done) | (simp; omega)) _))))⟩
theorem minusD_c (x y d : Int) (w : World) (hx : -4000000 ≤ x ∧ x ≤ 4000000) (hy : -4000000 ≤ y ∧ y ≤ 4000000) (hd : 0 ≤ d ∧ d ≤ 1) : Calls Tryz.prog 210 #[pr x y, pr d 0] w fun e w' => e = .returned (pr (x - d) y) ∧ Below w.heap.size w w' := by
  obtain ⟨h1, h2⟩ := hx
  obtain ⟨h3, h4⟩ := hy
  obtain ⟨h5, h6⟩ := hd
  go_enter Tryz.func210, Tryz.ntmps210
  go_wp2
  exact bodyPost_ret (v := pr (x - d) y) (by simp [results, Tryz.results210, go_sem, *]) rfl ⟨rfl, by (first | ((repeat' with_reducible first | assumption | exact Below.refl _ _ | apply Blw.alloc | apply Blw.drew | apply Blw.drewN | (refine Blw.after ?_ (by assumption)) | (refine Blw.set ?_ (by first | (dsimp only; omega) | (simp; omega)) _)); done) | (repeat' (first | assumption | exact Below.refl _ _ | apply Blw.alloc | apply Blw.drew | apply Blw.drewN | (refine Blw.after ?_ (by assumption)) | (refine Blw.set ?_ (by first | (dsimp only; omega) | (simp; done) | (simp; omega)) _))))⟩

theorem minus0_c (x y : Int) (w : World) (hx : -4000000 ≤ x ∧ x ≤ 4000000) (hy : -4000000 ≤ y ∧ y ≤ 4000000) : Calls Tryz.prog 210 #[pr x y, pr 0 0] w fun e w' => e = .returned (pr x y) ∧ Below w.heap.size w w' := by
  have h := minusD_c x y 0 w hx hy (by omega)
  rwa [Int.sub_zero] at h
theorem minus1_c (x y : Int) (w : World) (hx : -4000000 ≤ x ∧ x ≤ 4000000) (hy : -4000000 ≤ y ∧ y ≤ 4000000) : Calls Tryz.prog 210 #[pr x y, pr 1 0] w fun e w' => e = .returned (pr (x - 1) y) ∧ Below w.heap.size w w' := minusD_c x y 1 w hx hy (by omega)
def DgRel (x0 y0 : Int) (w : World) (m : Nat) (v : Value) (wr : World) : Prop :=
  ∃ (x y : Int) (pre : List UInt8), wr.ownsRow (w.heap.size + 1) 5 1 v pre.length (pre.map encB) ∧ (-1000000 ≤ x ∧ x ≤ 1000000) ∧ (-1000000 ≤ y ∧ y ≤ 1000000) ∧ pre ++ dgs x y = dgs x0 y0 ∧ pre.length + ms x y ≤ 3000000000001 ∧ m = ms x y ∧
    Below w.heap.size w wr ∧ wr.cell? ⟨w.heap.size, 0, none⟩ = some (.int .i64 x) ∧ wr.cell? ⟨w.heap.size, 1, none⟩ = some (.int .i64 y) ∧ wr.frozen? ⟨w.heap.size, 0, none⟩ = false ∧ wr.frozen? ⟨w.heap.size, 1, none⟩ = false
/-- what the digits leave: a row of bytes of the call's own -/
def DgPost (x0 y0 : Int) (w : World) (e : Ending) (w' : World) : Prop :=
  ∃ v, e = .returned v ∧ w'.ownsRow w.heap.size 5 1 v (dgs x0 y0).length ((dgs x0 y0).map encB) ∧ Below w.heap.size w w'
set_option maxHeartbeats 2000000 in
theorem iDigits_c (x0 y0 : Int) (w : World) (hx : -1000000 ≤ x0 ∧ x0 ≤ 1000000) (hy : -1000000 ≤ y0 ∧ y0 ≤ 1000000) : Calls Tryz.prog 173 #[pr x0 y0] w (DgPost x0 y0 w) := by
  obtain ⟨i0, hi, hz0, hz1, hz2⟩ := info_parts infoB
  obtain ⟨x1, x2⟩ := hx
  obtain ⟨y1, y2⟩ := hy
  go_enter Tryz.func173, Tryz.ntmps173
  go_wp2_with fail
  have S0 := Lib.hid (show DgRel x0 y0 w (ms x0 y0) (.slice none 0 0) (w.alloc (.cells #[.int .i64 x0, .int .i64 y0] 179)) from
    ⟨x0, y0, [], World.ownsRow_nil _ _ _ _, ⟨x1, x2⟩, ⟨y1, y2⟩, rfl, by have := ms_le (x := x0) (y := y0) ⟨by omega, by omega⟩ ⟨by omega, by omega⟩; simp; omega, rfl, by (first | ((repeat' with_reducible first | assumption | exact Below.refl _ _ | apply Blw.alloc | apply Blw.drew | apply Blw.drewN | (refine Blw.after ?_ (by assumption)) | (refine Blw.set ?_ (by first | (dsimp only; omega) | (simp; omega)) _)); done) | (repeat' (first | assumption | exact Below.refl _ _ | apply Blw.alloc | apply Blw.drew | apply Blw.drewN | (refine Blw.after ?_ (by assumption)) | (refine Blw.set ?_ (by first | (dsimp only; omega) | (simp; done) | (simp; omega)) _)))), by go_simp, by go_simp, by go_simp, by go_simp⟩)
  clear x1 x2 y1 y2
  go_loopg [3] (ms x0 y0) (fun m v wr => DgRel x0 y0 w m v wr)
  case atStart => exact S0.out
  case round =>
    clear S0
    obtain ⟨x, y, pre, hown, ⟨x1, x2⟩, ⟨y1, y2⟩, hc, hl, hm, hB, c0, c1, f0, f1⟩ := hrel
    have L0 : w.heap.size < wr.heap.size := World.block_lt_of_cell? wr _ c0
    have HC := Lib.hid hc
    have HM := Lib.hid hm
    have HO := Lib.hid hown
    clear hc hm
    by_cases hz : x = 0 ∧ y = 0
    · obtain ⟨rfl, rfl⟩ := hz
      have HE := Lib.hid (show pre = dgs x0 y0 by rw [← HC.out, dgs_zero, List.append_nil])
      clear hown
      go_wp2
      go_ret
      exact ⟨_, rfl, by rw [← HE.out]; exact ownsRow_low (by omega) HO.out, by (first | ((repeat' with_reducible first | assumption | exact Below.refl _ _ | apply Blw.alloc | apply Blw.drew | apply Blw.drewN | (refine Blw.after ?_ (by assumption)) | (refine Blw.set ?_ (by first | (dsimp only; omega) | (simp; omega)) _)); done) | (repeat' (first | assumption | exact Below.refl _ _ | apply Blw.alloc | apply Blw.drew | apply Blw.drewN | (refine Blw.after ?_ (by assumption)) | (refine Blw.set ?_ (by first | (dsimp only; omega) | (simp; done) | (simp; omega)) _))))⟩
    · have HS := Lib.hid (dgs_step hz)
      have HQ := Lib.hid (ms_less hz)
      obtain ⟨⟨i1, i2⟩, i3, i4⟩ := next_in (x := x) (y := y) ⟨x1, x2⟩ ⟨y1, y2⟩
      have P1 := two_nX x y
      have P2 := two_nY x y
      have T : ¬ x = 0 ∨ (x = 0 ∧ ¬ y = 0) := by omega
      have HZ := Lib.hid hz
      clear hz
      have HP1 := Lib.hid P1
      have HP2 := Lib.hid P2
      clear P1 P2
      rcases T with T | ⟨rfl, T⟩
      · rcases lastD_01 x y with hd | hd
        · have ha : bits .and .i64 (x + y) 1 = 0 := by rw [i64_and1]; exact hd
          have HD := Lib.hid hd
          clear hd
          go_wp2_with (first
            | (at_builtin; refine wpList_append_own _ rfl _ _ 22 rfl (w.heap.size + 1) 5 i0 (.int .u8 0) 1 1 Tryz.underlying22 hi hz0 hz1 hz2 rfl (by decide) _ _ _ rfl (HO.out.alloc _) ⟨wr.heap.size, 0, none⟩ 1 1 [.int .u8 48] rfl rfl (cells1 _ _ _) (one1 _ rfl) (by unfold maxLen; omega) (by omega) (by simp; omega) ?_))
          intro v' W1 hown' hgrow _
          have hne := own_ne HO.out (b := w.heap.size) (by omega)
          have k0 : W1.cell? ⟨w.heap.size, 0, none⟩ = some (.int .i64 x) := hgrow.cell (by go_simp) hne
          have k1 : W1.cell? ⟨w.heap.size, 1, none⟩ = some (.int .i64 y) := hgrow.cell (by go_simp) hne
          have g0 : W1.frozen? ⟨w.heap.size, 0, none⟩ = false := (World.frozen?_of_block (hgrow.block w.heap.size (by simp; omega) hne)).trans (by go_simp)
          have g1 : W1.frozen? ⟨w.heap.size, 1, none⟩ = false := (World.frozen?_of_block (hgrow.block w.heap.size (by simp; omega) hne)).trans (by go_simp)
          have hB1 : Below w.heap.size w W1 := Below.grown (by (first | ((repeat' with_reducible first | assumption | exact Below.refl _ _ | apply Blw.alloc | apply Blw.drew | apply Blw.drewN | (refine Blw.after ?_ (by assumption)) | (refine Blw.set ?_ (by first | (dsimp only; omega) | (simp; omega)) _)); done) | (repeat' (first | assumption | exact Below.refl _ _ | apply Blw.alloc | apply Blw.drew | apply Blw.drewN | (refine Blw.after ?_ (by assumption)) | (refine Blw.set ?_ (by first | (dsimp only; omega) | (simp; done) | (simp; omega)) _))))) hgrow (by simp; omega) (fun k hk => by have := (HO.out.lt k hk).1; omega)
          have L1 : w.heap.size < W1.heap.size := World.block_lt_of_cell? W1 _ k0
          have HO1 := Lib.hid hown'
          clear hgrow hown' hne HO hown
          go_wp2_with (first | (go_at_call 210; refine (minus0_c x y _ (by omega) (by omega)).mono ?_; rintro e w1 ⟨rfl, hb⟩; have hk : Hld W1 w1 := heldM (by (first | ((repeat' with_reducible first | assumption | exact Below.refl _ _ | apply Blw.alloc | apply Blw.drew | apply Blw.drewN | (refine Blw.after ?_ (by assumption)) | (refine Blw.set ?_ (by first | (dsimp only; omega) | (simp; omega)) _)); done) | (repeat' (first | assumption | exact Below.refl _ _ | apply Blw.alloc | apply Blw.drew | apply Blw.drewN | (refine Blw.after ?_ (by assumption)) | (refine Blw.set ?_ (by first | (dsimp only; omega) | (simp; done) | (simp; omega)) _))))); have hk1 := hk.1) | (go_at_call 211; refine (overBase_c x y (nX x y) (nY x y) _ (by omega) (by omega) (by have := HP1.out; have := HD.out; omega) (by have := HP2.out; have := HD.out; omega)).mono ?_; rintro e w1 ⟨rfl, hb⟩; have hk : Hld W1 w1 := heldM (by (first | ((repeat' with_reducible first | assumption | exact Below.refl _ _ | apply Blw.alloc | apply Blw.drew | apply Blw.drewN | (refine Blw.after ?_ (by assumption)) | (refine Blw.set ?_ (by first | (dsimp only; omega) | (simp; omega)) _)); done) | (repeat' (first | assumption | exact Below.refl _ _ | apply Blw.alloc | apply Blw.drew | apply Blw.drewN | (refine Blw.after ?_ (by assumption)) | (refine Blw.set ?_ (by first | (dsimp only; omega) | (simp; done) | (simp; omega)) _))))); have hk1 := hk.1))
          go_roundg (ms (nX x y) (nY x y))
          case measure => rw [HM.out]; exact HQ.out
          case rel =>
            refine ⟨nX x y, nY x y, pre ++ [bitc (lastD x y)], ?_, ⟨i1, i2⟩, ⟨i3, i4⟩, by rw [← HC.out, HS.out]; simp, by have := HQ.out; simp; omega, rfl, by (first | ((repeat' with_reducible first | assumption | exact Below.refl _ _ | apply Blw.alloc | apply Blw.drew | apply Blw.drewN | (refine Blw.after ?_ (by assumption)) | (refine Blw.set ?_ (by first | (dsimp only; omega) | (simp; omega)) _)); done) | (repeat' (first | assumption | exact Below.refl _ _ | apply Blw.alloc | apply Blw.drew | apply Blw.drewN | (refine Blw.after ?_ (by assumption)) | (refine Blw.set ?_ (by first | (dsimp only; omega) | (simp; done) | (simp; omega)) _)))), by go_simp, by go_simp, by go_simp, by go_simp⟩
            rw [HD.out, List.length_append, List.map_append]
            exact own_set (own_set (own_below HO1.out (by assumption)) (by simp) _) (by simp) _
        · have ha : bits .and .i64 (x + y) 1 = 1 := by rw [i64_and1]; exact hd
          have HD := Lib.hid hd
          clear hd
          go_wp2_with (first
            | (at_builtin; refine wpList_append_own _ rfl _ _ 22 rfl (w.heap.size + 1) 5 i0 (.int .u8 0) 1 1 Tryz.underlying22 hi hz0 hz1 hz2 rfl (by decide) _ _ _ rfl (HO.out.alloc _) ⟨wr.heap.size, 0, none⟩ 1 1 [.int .u8 49] rfl rfl (cells1 _ _ _) (one1 _ rfl) (by unfold maxLen; omega) (by omega) (by simp; omega) ?_))
          intro v' W1 hown' hgrow _
          have hne := own_ne HO.out (b := w.heap.size) (by omega)
          have k0 : W1.cell? ⟨w.heap.size, 0, none⟩ = some (.int .i64 x) := hgrow.cell (by go_simp) hne
          have k1 : W1.cell? ⟨w.heap.size, 1, none⟩ = some (.int .i64 y) := hgrow.cell (by go_simp) hne
          have g0 : W1.frozen? ⟨w.heap.size, 0, none⟩ = false := (World.frozen?_of_block (hgrow.block w.heap.size (by simp; omega) hne)).trans (by go_simp)
          have g1 : W1.frozen? ⟨w.heap.size, 1, none⟩ = false := (World.frozen?_of_block (hgrow.block w.heap.size (by simp; omega) hne)).trans (by go_simp)
          have hB1 : Below w.heap.size w W1 := Below.grown (by (first | ((repeat' with_reducible first | assumption | exact Below.refl _ _ | apply Blw.alloc | apply Blw.drew | apply Blw.drewN | (refine Blw.after ?_ (by assumption)) | (refine Blw.set ?_ (by first | (dsimp only; omega) | (simp; omega)) _)); done) | (repeat' (first | assumption | exact Below.refl _ _ | apply Blw.alloc | apply Blw.drew | apply Blw.drewN | (refine Blw.after ?_ (by assumption)) | (refine Blw.set ?_ (by first | (dsimp only; omega) | (simp; done) | (simp; omega)) _))))) hgrow (by simp; omega) (fun k hk => by have := (HO.out.lt k hk).1; omega)
          have L1 : w.heap.size < W1.heap.size := World.block_lt_of_cell? W1 _ k0
          have HO1 := Lib.hid hown'
          clear hgrow hown' hne HO hown
          go_wp2_with (first | (go_at_call 210; refine (minus1_c x y _ (by omega) (by omega)).mono ?_; rintro e w1 ⟨rfl, hb⟩; have hk : Hld W1 w1 := heldM (by (first | ((repeat' with_reducible first | assumption | exact Below.refl _ _ | apply Blw.alloc | apply Blw.drew | apply Blw.drewN | (refine Blw.after ?_ (by assumption)) | (refine Blw.set ?_ (by first | (dsimp only; omega) | (simp; omega)) _)); done) | (repeat' (first | assumption | exact Below.refl _ _ | apply Blw.alloc | apply Blw.drew | apply Blw.drewN | (refine Blw.after ?_ (by assumption)) | (refine Blw.set ?_ (by first | (dsimp only; omega) | (simp; done) | (simp; omega)) _))))); have hk1 := hk.1) | (go_at_call 211; refine (overBase_c (x - 1) y (nX x y) (nY x y) _ (by omega) (by omega) (by have := HP1.out; have := HD.out; omega) (by have := HP2.out; have := HD.out; omega)).mono ?_; rintro e w1 ⟨rfl, hb⟩; have hk : Hld W1 w1 := heldM (by (first | ((repeat' with_reducible first | assumption | exact Below.refl _ _ | apply Blw.alloc | apply Blw.drew | apply Blw.drewN | (refine Blw.after ?_ (by assumption)) | (refine Blw.set ?_ (by first | (dsimp only; omega) | (simp; omega)) _)); done) | (repeat' (first | assumption | exact Below.refl _ _ | apply Blw.alloc | apply Blw.drew | apply Blw.drewN | (refine Blw.after ?_ (by assumption)) | (refine Blw.set ?_ (by first | (dsimp only; omega) | (simp; done) | (simp; omega)) _))))); have hk1 := hk.1))
          go_roundg (ms (nX x y) (nY x y))
          case measure => rw [HM.out]; exact HQ.out
          case rel =>
            refine ⟨nX x y, nY x y, pre ++ [bitc (lastD x y)], ?_, ⟨i1, i2⟩, ⟨i3, i4⟩, by rw [← HC.out, HS.out]; simp, by have := HQ.out; simp; omega, rfl, by (first | ((repeat' with_reducible first | assumption | exact Below.refl _ _ | apply Blw.alloc | apply Blw.drew | apply Blw.drewN | (refine Blw.after ?_ (by assumption)) | (refine Blw.set ?_ (by first | (dsimp only; omega) | (simp; omega)) _)); done) | (repeat' (first | assumption | exact Below.refl _ _ | apply Blw.alloc | apply Blw.drew | apply Blw.drewN | (refine Blw.after ?_ (by assumption)) | (refine Blw.set ?_ (by first | (dsimp only; omega) | (simp; done) | (simp; omega)) _)))), by go_simp, by go_simp, by go_simp, by go_simp⟩
            rw [HD.out, List.length_append, List.map_append]
            exact own_set (own_set (own_below HO1.out (by assumption)) (by simp) _) (by simp) _
      · rcases lastD_01 0 y with hd | hd
        · have ha : bits .and .i64 (y) 1 = 0 := by rw [i64_and1]; simpa [lastD] using hd
          have HD := Lib.hid hd
          clear hd
          go_wp2_with (first
            | (at_builtin; refine wpList_append_own _ rfl _ _ 22 rfl (w.heap.size + 1) 5 i0 (.int .u8 0) 1 1 Tryz.underlying22 hi hz0 hz1 hz2 rfl (by decide) _ _ _ rfl (HO.out.alloc _) ⟨wr.heap.size, 0, none⟩ 1 1 [.int .u8 48] rfl rfl (cells1 _ _ _) (one1 _ rfl) (by unfold maxLen; omega) (by omega) (by simp; omega) ?_))
          intro v' W1 hown' hgrow _
          have hne := own_ne HO.out (b := w.heap.size) (by omega)
          have k0 : W1.cell? ⟨w.heap.size, 0, none⟩ = some (.int .i64 0) := hgrow.cell (by go_simp) hne
          have k1 : W1.cell? ⟨w.heap.size, 1, none⟩ = some (.int .i64 y) := hgrow.cell (by go_simp) hne
          have g0 : W1.frozen? ⟨w.heap.size, 0, none⟩ = false := (World.frozen?_of_block (hgrow.block w.heap.size (by simp; omega) hne)).trans (by go_simp)
          have g1 : W1.frozen? ⟨w.heap.size, 1, none⟩ = false := (World.frozen?_of_block (hgrow.block w.heap.size (by simp; omega) hne)).trans (by go_simp)
          have hB1 : Below w.heap.size w W1 := Below.grown (by (first | ((repeat' with_reducible first | assumption | exact Below.refl _ _ | apply Blw.alloc | apply Blw.drew | apply Blw.drewN | (refine Blw.after ?_ (by assumption)) | (refine Blw.set ?_ (by first | (dsimp only; omega) | (simp; omega)) _)); done) | (repeat' (first | assumption | exact Below.refl _ _ | apply Blw.alloc | apply Blw.drew | apply Blw.drewN | (refine Blw.after ?_ (by assumption)) | (refine Blw.set ?_ (by first | (dsimp only; omega) | (simp; done) | (simp; omega)) _))))) hgrow (by simp; omega) (fun k hk => by have := (HO.out.lt k hk).1; omega)
          have L1 : w.heap.size < W1.heap.size := World.block_lt_of_cell? W1 _ k0
          have HO1 := Lib.hid hown'
          clear hgrow hown' hne HO hown
          go_wp2_with (first | (go_at_call 210; refine (minus0_c 0 y _ (by omega) (by omega)).mono ?_; rintro e w1 ⟨rfl, hb⟩; have hk : Hld W1 w1 := heldM (by (first | ((repeat' with_reducible first | assumption | exact Below.refl _ _ | apply Blw.alloc | apply Blw.drew | apply Blw.drewN | (refine Blw.after ?_ (by assumption)) | (refine Blw.set ?_ (by first | (dsimp only; omega) | (simp; omega)) _)); done) | (repeat' (first | assumption | exact Below.refl _ _ | apply Blw.alloc | apply Blw.drew | apply Blw.drewN | (refine Blw.after ?_ (by assumption)) | (refine Blw.set ?_ (by first | (dsimp only; omega) | (simp; done) | (simp; omega)) _))))); have hk1 := hk.1) | (go_at_call 211; refine (overBase_c 0 y (nX 0 y) (nY 0 y) _ (by omega) (by omega) (by have := HP1.out; have := HD.out; omega) (by have := HP2.out; have := HD.out; omega)).mono ?_; rintro e w1 ⟨rfl, hb⟩; have hk : Hld W1 w1 := heldM (by (first | ((repeat' with_reducible first | assumption | exact Below.refl _ _ | apply Blw.alloc | apply Blw.drew | apply Blw.drewN | (refine Blw.after ?_ (by assumption)) | (refine Blw.set ?_ (by first | (dsimp only; omega) | (simp; omega)) _)); done) | (repeat' (first | assumption | exact Below.refl _ _ | apply Blw.alloc | apply Blw.drew | apply Blw.drewN | (refine Blw.after ?_ (by assumption)) | (refine Blw.set ?_ (by first | (dsimp only; omega) | (simp; done) | (simp; omega)) _))))); have hk1 := hk.1))
          go_roundg (ms (nX 0 y) (nY 0 y))
          case measure => rw [HM.out]; exact HQ.out
          case rel =>
            refine ⟨nX 0 y, nY 0 y, pre ++ [bitc (lastD 0 y)], ?_, ⟨i1, i2⟩, ⟨i3, i4⟩, by rw [← HC.out, HS.out]; simp, by have := HQ.out; simp; omega, rfl, by (first | ((repeat' with_reducible first | assumption | exact Below.refl _ _ | apply Blw.alloc | apply Blw.drew | apply Blw.drewN | (refine Blw.after ?_ (by assumption)) | (refine Blw.set ?_ (by first | (dsimp only; omega) | (simp; omega)) _)); done) | (repeat' (first | assumption | exact Below.refl _ _ | apply Blw.alloc | apply Blw.drew | apply Blw.drewN | (refine Blw.after ?_ (by assumption)) | (refine Blw.set ?_ (by first | (dsimp only; omega) | (simp; done) | (simp; omega)) _)))), by go_simp, by go_simp, by go_simp, by go_simp⟩
            rw [HD.out, List.length_append, List.map_append]
            exact own_set (own_set (own_below HO1.out (by assumption)) (by simp) _) (by simp) _
        · have ha : bits .and .i64 (y) 1 = 1 := by rw [i64_and1]; simpa [lastD] using hd
          have HD := Lib.hid hd
          clear hd
          go_wp2_with (first
            | (at_builtin; refine wpList_append_own _ rfl _ _ 22 rfl (w.heap.size + 1) 5 i0 (.int .u8 0) 1 1 Tryz.underlying22 hi hz0 hz1 hz2 rfl (by decide) _ _ _ rfl (HO.out.alloc _) ⟨wr.heap.size, 0, none⟩ 1 1 [.int .u8 49] rfl rfl (cells1 _ _ _) (one1 _ rfl) (by unfold maxLen; omega) (by omega) (by simp; omega) ?_))
          intro v' W1 hown' hgrow _
          have hne := own_ne HO.out (b := w.heap.size) (by omega)
          have k0 : W1.cell? ⟨w.heap.size, 0, none⟩ = some (.int .i64 0) := hgrow.cell (by go_simp) hne
          have k1 : W1.cell? ⟨w.heap.size, 1, none⟩ = some (.int .i64 y) := hgrow.cell (by go_simp) hne
          have g0 : W1.frozen? ⟨w.heap.size, 0, none⟩ = false := (World.frozen?_of_block (hgrow.block w.heap.size (by simp; omega) hne)).trans (by go_simp)
          have g1 : W1.frozen? ⟨w.heap.size, 1, none⟩ = false := (World.frozen?_of_block (hgrow.block w.heap.size (by simp; omega) hne)).trans (by go_simp)
          have hB1 : Below w.heap.size w W1 := Below.grown (by (first | ((repeat' with_reducible first | assumption | exact Below.refl _ _ | apply Blw.alloc | apply Blw.drew | apply Blw.drewN | (refine Blw.after ?_ (by assumption)) | (refine Blw.set ?_ (by first | (dsimp only; omega) | (simp; omega)) _)); done) | (repeat' (first | assumption | exact Below.refl _ _ | apply Blw.alloc | apply Blw.drew | apply Blw.drewN | (refine Blw.after ?_ (by assumption)) | (refine Blw.set ?_ (by first | (dsimp only; omega) | (simp; done) | (simp; omega)) _))))) hgrow (by simp; omega) (fun k hk => by have := (HO.out.lt k hk).1; omega)
          have L1 : w.heap.size < W1.heap.size := World.block_lt_of_cell? W1 _ k0
          have HO1 := Lib.hid hown'
          clear hgrow hown' hne HO hown
          go_wp2_with (first | (go_at_call 210; refine (minus1_c 0 y _ (by omega) (by omega)).mono ?_; rintro e w1 ⟨rfl, hb⟩; have hk : Hld W1 w1 := heldM (by (first | ((repeat' with_reducible first | assumption | exact Below.refl _ _ | apply Blw.alloc | apply Blw.drew | apply Blw.drewN | (refine Blw.after ?_ (by assumption)) | (refine Blw.set ?_ (by first | (dsimp only; omega) | (simp; omega)) _)); done) | (repeat' (first | assumption | exact Below.refl _ _ | apply Blw.alloc | apply Blw.drew | apply Blw.drewN | (refine Blw.after ?_ (by assumption)) | (refine Blw.set ?_ (by first | (dsimp only; omega) | (simp; done) | (simp; omega)) _))))); have hk1 := hk.1) | (go_at_call 211; refine (overBase_c (-1) y (nX 0 y) (nY 0 y) _ (by omega) (by omega) (by have := HP1.out; have := HD.out; omega) (by have := HP2.out; have := HD.out; omega)).mono ?_; rintro e w1 ⟨rfl, hb⟩; have hk : Hld W1 w1 := heldM (by (first | ((repeat' with_reducible first | assumption | exact Below.refl _ _ | apply Blw.alloc | apply Blw.drew | apply Blw.drewN | (refine Blw.after ?_ (by assumption)) | (refine Blw.set ?_ (by first | (dsimp only; omega) | (simp; omega)) _)); done) | (repeat' (first | assumption | exact Below.refl _ _ | apply Blw.alloc | apply Blw.drew | apply Blw.drewN | (refine Blw.after ?_ (by assumption)) | (refine Blw.set ?_ (by first | (dsimp only; omega) | (simp; done) | (simp; omega)) _))))); have hk1 := hk.1))
          go_roundg (ms (nX 0 y) (nY 0 y))
          case measure => rw [HM.out]; exact HQ.out
          case rel =>
            refine ⟨nX 0 y, nY 0 y, pre ++ [bitc (lastD 0 y)], ?_, ⟨i1, i2⟩, ⟨i3, i4⟩, by rw [← HC.out, HS.out]; simp, by have := HQ.out; simp; omega, rfl, by (first | ((repeat' with_reducible first | assumption | exact Below.refl _ _ | apply Blw.alloc | apply Blw.drew | apply Blw.drewN | (refine Blw.after ?_ (by assumption)) | (refine Blw.set ?_ (by first | (dsimp only; omega) | (simp; omega)) _)); done) | (repeat' (first | assumption | exact Below.refl _ _ | apply Blw.alloc | apply Blw.drew | apply Blw.drewN | (refine Blw.after ?_ (by assumption)) | (refine Blw.set ?_ (by first | (dsimp only; omega) | (simp; done) | (simp; omega)) _)))), by go_simp, by go_simp, by go_simp, by go_simp⟩
            rw [HD.out, List.length_append, List.map_append]
            exact own_set (own_set (own_below HO1.out (by assumption)) (by simp) _) (by simp) _
end Go.Proofs.YtmondgcehgmamaaGreatDoor

namespace Go.Proofs.YtmondgcehgmamaaGreatDoor
set_option linter.unusedSimpArgs false
set_option linter.unusedVariables false

def rowX (r : Nat) : Int := [0, -1, 0, -1, 1, 0, 1, -1, 0, -1, 1, 0, -2, -2, 1].getD r 0
def rowY (r : Nat) : Int := [0, -1, 1, 0, 0, -1, 1, -2, 2, 1, -1, -2, -1, 0, 2].getD r 0
def rowN (r b : Nat) : Nat := ([[0, 0, 1], [2, 2, 3], [4, 5, 5], [6, 0, 0], [0, 1, 1], [2, 3, 3], [5, 5, 7], [8, 9, 9], [10, 10, 11], [4, 4, 5], [3, 3, 12], [9, 9, 13], [14, 2, 2], [6, 6, 0], [10, 11, 11]].getD r []).getD b 0
/-- the first digit of a row's three digits: 0 or 1; the second one is the other -/
def rowE (r : Nat) : Nat := [0, 0, 1, 1, 1, 1, 0, 1, 0, 0, 0, 0, 1, 0, 1].getD r 0
def rowD (r b : Nat) : UInt8 := if (rowE r + b) % 2 = 0 then 48 else 49
def rowS (r : Nat) : List UInt8 := [rowD r 0, rowD r 1, rowD r 2]
/-- how many zeros lead back to the row 0 -/
def rowH (r : Nat) : Nat := [0, 3, 2, 5, 1, 3, 4, 8, 7, 2, 6, 3, 8, 5, 7].getD r 0
theorem row_all : ∀ r : Fin 15, ∀ b : Fin 3, rowN r b < 15 ∧ lastD (rowX r + (b : Nat)) (rowY r) = dg (rowD r b) ∧ nX (rowX r + (b : Nat)) (rowY r) = rowX (rowN r b) ∧ nY (rowX r + (b : Nat)) (rowY r) = rowY (rowN r b) := by decide +kernel
theorem row_h : ∀ r : Fin 15, (r.val ≠ 0 → rowH (rowN r 0) + 1 = rowH r) ∧ (rowH r = 0 ↔ r.val = 0) ∧ rowH r ≤ 8 ∧ (rowX r = 0 ∧ rowY r = 0 ↔ r.val = 0) ∧ (-2 ≤ rowX r ∧ rowX r ≤ 2) ∧ (-2 ≤ rowY r ∧ rowY r ≤ 2) := by decide +kernel
theorem rowD_bit (r b : Nat) : bitC (rowD r b) = true := by unfold rowD; split <;> rfl
theorem row_step {r b : Nat} (hr : r < 15) (hb : b < 3) : rowN r b < 15 ∧ lastD (rowX r + (b : Nat)) (rowY r) = dg (rowD r b) ∧ nX (rowX r + (b : Nat)) (rowY r) = rowX (rowN r b) ∧ nY (rowX r + (b : Nat)) (rowY r) = rowY (rowN r b) := row_all ⟨r, hr⟩ ⟨b, hb⟩
theorem row_in {r : Nat} (hr : r < 15) : (-2 ≤ rowX r ∧ rowX r ≤ 2) ∧ (-2 ≤ rowY r ∧ rowY r ≤ 2) := (row_h ⟨r, hr⟩).2.2.2.2
theorem row_zero {r : Nat} (hr : r < 15) : rowX r = 0 ∧ rowY r = 0 ↔ r = 0 := (row_h ⟨r, hr⟩).2.2.2.1

/-- the digit of a text with an index from the right, or 0 -/
def dR (s : ByteArray) (k : Nat) : Nat := if h : k < s.size then (s[s.size - 1 - k]).toNat - 48 else 0
theorem dR_le {s : ByteArray} (h : vldB s = true) (k : Nat) : dR s k ≤ 1 := by
  unfold dR
  split
  · have := vldB_at h (s.size - 1 - k) (by omega); omega
  · omega
theorem dR_beyond {s : ByteArray} {k : Nat} (h : s.size ≤ k) : dR s k = 0 := by unfold dR; rw [dif_neg (by omega)]
def sm (a b : ByteArray) (k : Nat) : Nat := dR a k + dR b k
theorem sm_lt {a b : ByteArray} (ha : vldB a = true) (hb : vldB b = true) (k : Nat) : sm a b k < 3 := by
  have := dR_le ha k; have := dR_le hb k; unfold sm; omega
def wide (a b : ByteArray) : Nat := max a.size b.size
theorem sm_beyond {a b : ByteArray} {k : Nat} (h : wide a b ≤ k) : sm a b k = 0 := by
  unfold sm; rw [dR_beyond (by unfold wide at h; omega), dR_beyond (by unfold wide at h; omega)]

section
variable (a b : ByteArray)
def stA : Nat → Nat
  | 0 => 0
  | k + 1 => rowN (stA k) (sm a b k)
def outA : Nat → List UInt8
  | 0 => []
  | k + 1 => outA k ++ [rowD (stA a b k) (sm a b k)]
def carA : Nat → List (Int × Int)
  | 0 => []
  | k + 1 => carA k ++ [(rowX (stA a b (k + 1)), rowY (stA a b (k + 1)))]
def stepsA : Nat := wide a b + rowH (stA a b (wide a b))
end
variable {a b : ByteArray}
theorem outA_len (k : Nat) : (outA a b k).length = k := by
  induction k with
  | zero => rfl
  | succ k ih => simp [outA, ih]
theorem carA_len (k : Nat) : (carA a b k).length = k := by
  induction k with
  | zero => rfl
  | succ k ih => simp [carA, ih]
theorem outA_bits (k : Nat) : ∀ c ∈ outA a b k, bitC c = true := by
  induction k with
  | zero => intro c h; simp [outA] at h
  | succ k ih =>
    intro c h
    rcases List.mem_append.1 h with h | h
    · exact ih c h
    · rw [List.mem_singleton] at h; rw [h]; exact rowD_bit _ _
theorem stA_lt (ha : vldB a = true) (hb : vldB b = true) (k : Nat) : stA a b k < 15 := by
  induction k with
  | zero => show (0 : Nat) < 15; omega
  | succ k ih => exact (row_step ih (sm_lt ha hb k)).1
theorem stA_tail (ha : vldB a = true) (hb : vldB b = true) : ∀ j, j ≤ rowH (stA a b (wide a b)) → rowH (stA a b (wide a b + j)) + j = rowH (stA a b (wide a b))
  | 0, _ => rfl
  | j + 1, h => by
    have ih := stA_tail ha hb j (by omega)
    have hr := stA_lt ha hb (wide a b + j)
    have h2 := (row_h ⟨_, hr⟩).1
    have h3 := (row_h ⟨_, hr⟩).2.1
    simp only at h2 h3
    have hn : stA a b (wide a b + j) ≠ 0 := by intro e; have := h3.2 e; omega
    have h4 := h2 hn
    show rowH (rowN (stA a b (wide a b + j)) (sm a b (wide a b + j))) + (j + 1) = _
    rw [sm_beyond (by omega)]
    omega
/-- when the adding goes on -/
theorem goes_on (ha : vldB a = true) (hb : vldB b = true) {k : Nat} (hk : k ≤ stepsA a b) : (k < wide a b ∨ stA a b k ≠ 0) ↔ k < stepsA a b := by
  by_cases h : k < wide a b
  · exact ⟨fun _ => by unfold stepsA; omega, fun _ => Or.inl h⟩
  · obtain ⟨j, rfl⟩ : ∃ j, k = wide a b + j := ⟨k - wide a b, by omega⟩
    have ht := stA_tail ha hb j (by unfold stepsA at hk; omega)
    have h3 := (row_h ⟨_, stA_lt ha hb (wide a b + j)⟩).2.1
    simp only at h3
    unfold stepsA
    constructor
    · intro h1
      have h1 := h1.resolve_left h
      have : rowH (stA a b (wide a b + j)) ≠ 0 := fun e => h1 (h3.1 e)
      omega
    · intro h1
      right
      intro e
      have := h3.2 e
      omega
theorem steps_le (ha : vldB a = true) (hb : vldB b = true) : 1 ≤ stepsA a b ∧ stepsA a b ≤ 58 := by
  have h1 := vldB_len ha
  have h2 := vldB_len hb
  have h3 := (row_h ⟨_, stA_lt ha hb (wide a b)⟩).2.2.1
  simp only at h3
  unfold stepsA wide at *
  omega
theorem done_zero (ha : vldB a = true) (hb : vldB b = true) : stA a b (stepsA a b) = 0 ∧ wide a b ≤ stepsA a b := by
  have h : ¬ (stepsA a b < wide a b ∨ stA a b (stepsA a b) ≠ 0) := fun e => Nat.lt_irrefl _ ((goes_on ha hb (Nat.le_refl _)).1 e)
  have h1 : ¬ stepsA a b < wide a b := fun e => h (Or.inl e)
  exact ⟨by by_cases e : stA a b (stepsA a b) = 0; exact e; exact absurd (Or.inr e) h, by omega⟩
end Go.Proofs.YtmondgcehgmamaaGreatDoor

namespace Go.Proofs.YtmondgcehgmamaaGreatDoor
set_option linter.unusedSimpArgs false
set_option linter.unusedVariables false
open Go.RowKit

theorem l2Digit_c (s : ByteArray) (k : Nat) (w : World) (hv : vldB s = true) (hk : k ≤ 1000) : Calls Tryz.prog 70 #[.string s, .int .i64 k] w fun e w' => e = .returned (.int .i64 (dR s k : Nat)) ∧ w = w' := by
  have hl := (vldB_len hv).2
  by_cases h : k < s.size
  · have hi : s.size - 1 - k < s.size := by omega
    obtain ⟨b1, b2⟩ := byte_at hv (s.size - 1 - k) hi
    have HD := Lib.hid (show ((dR s k : Nat) : Int) = (s[s.size - 1 - k].toNat : Int) - 48 by unfold dR; rw [dif_pos h]; omega)
    have e1 : ((s.size : Int) - 1 - (k : Int)).toNat = s.size - 1 - k := by omega
    clear hv
    go_enter Tryz.func70, Tryz.ntmps70
    go_wp2
    go_ret
    exact ⟨by rw [HD.out]; rfl, rfl⟩
  · have HD := Lib.hid (dR_beyond (s := s) (k := k) (by omega))
    clear hv
    go_enter Tryz.func70, Tryz.ntmps70
    go_wp2
    go_ret
    exact ⟨by rw [HD.out]; rfl, rfl⟩
end Go.Proofs.YtmondgcehgmamaaGreatDoor

namespace Go.Proofs.YtmondgcehgmamaaGreatDoor
set_option linter.unusedSimpArgs false
set_option linter.unusedVariables false
open Go.RowKit

def rowL (n : Nat) (F : Nat → Int) : List Value := (List.range n).map fun k => .int .i64 (F k)
theorem rowL_len (n : Nat) (F : Nat → Int) : (rowL n F).length = n := by simp [rowL]
theorem rowL_get {n : Nat} (F : Nat → Int) {k : Nat} (hk : k < n) : (rowL n F)[k]? = some (.int .i64 (F k)) := by simp [rowL, hk]
theorem rowL_congr {n : Nat} {F G : Nat → Int} (h : ∀ k, k < n → F k = G k) : rowL n F = rowL n G := by
  unfold rowL
  exact List.map_congr_left fun k hk => by rw [h k (List.mem_range.1 hk)]
theorem rowL_set {n : Nat} {F G : Nat → Int} {j : Nat} (hG : ∀ k, k < n → k ≠ j → G k = F k) {x : Int} (hx : j < n → G j = x) : (rowL n F).set j (.int .i64 x) = rowL n G := by
  apply List.ext_getElem?
  intro k
  rw [List.getElem?_set]
  by_cases hk : k < n
  · rw [rowL_get G hk, rowL_get F hk]
    by_cases h : j = k
    · subst h; simp [rowL_len, hk, hx hk]
    · simp [h, hG k hk (Ne.symm h)]
  · simp [rowL, hk]; omega
theorem infoI : (Tryz.prog.info? 3).map (fun i => (i.zero, i.size, i.bytes)) = some (some (.int .i64 0), 1, 8) := by kernel_rfl
def DSPost (a b : ByteArray) (w : World) (e : Ending) (w' : World) : Prop :=
  ∃ g, e = .returned (.slice (some ⟨g, 0, none⟩) (wide a b) (wide a b)) ∧ w'.ownsRow w.heap.size 3 1 (.slice (some ⟨g, 0, none⟩) (wide a b) (wide a b)) (wide a b) (rowL (wide a b) fun k => (sm a b k : Nat)) ∧ Below w.heap.size w w'
/-- what the texts ahead have added -/
def ahead2 (a b : ByteArray) (j : Nat) (k : Nat) : Int := if j = 0 then 0 else if j = 1 then (dR a k : Nat) else (sm a b k : Nat)
def DSO (a b : ByteArray) (w : World) (g sb : Nat) (m : Nat) (i : Value) (wr : World) : Prop :=
  ∃ j : Nat, (j = 0 ∧ m = 2 ∧ i = .int .i64 0 ∨ j = 1 ∧ m = 1 ∧ i = .int .i64 1 ∨ j = 2 ∧ m = 0 ∧ i = .int .i64 2) ∧ wr.ownsRow w.heap.size 3 1 (.slice (some ⟨g, 0, none⟩) (wide a b) (wide a b)) (wide a b) (rowL (wide a b) (ahead2 a b j)) ∧ Below w.heap.size w wr ∧ wr.cell? ⟨sb, 0, none⟩ = some (.string a) ∧ wr.cell? ⟨sb, 1, none⟩ = some (.string b)
def DSI (a b s : ByteArray) (w : World) (g sb ib j : Nat) (m : Nat) (wr : World) : Prop :=
  ∃ p : Nat, p + m = s.size ∧ wr.heap[ib]? = some (.stringIter s p) ∧ wr.ownsRow w.heap.size 3 1 (.slice (some ⟨g, 0, none⟩) (wide a b) (wide a b)) (wide a b) (rowL (wide a b) fun k => ahead2 a b j k + if s.size - p ≤ k then ((dR s k : Nat) : Int) else 0) ∧ Below w.heap.size w wr ∧ wr.cell? ⟨sb, 0, none⟩ = some (.string a) ∧ wr.cell? ⟨sb, 1, none⟩ = some (.string b)

theorem ahead2_in {a b : ByteArray} (ha : vldB a = true) (hb : vldB b = true) (j k : Nat) (hj : j < 2) : 0 ≤ ahead2 a b j k ∧ ahead2 a b j k ≤ 1 := by
  have := dR_le ha k
  unfold ahead2
  split
  · omega
  · rw [if_pos (by omega)]; omega
/-- the next text is through -/
theorem ahead2_next {a b s : ByteArray} {j : Nat} (h : j = 0 ∧ s = a ∨ j = 1 ∧ s = b) (k : Nat) : ahead2 a b j k + (if s.size - s.size ≤ k then ((dR s k : Nat) : Int) else 0) = ahead2 a b (j + 1) k := by
  rw [if_pos (by omega)]
  rcases h with ⟨rfl, rfl⟩ | ⟨rfl, rfl⟩
  · simp [ahead2]
  · simp [ahead2, sm]
theorem DSI.start {a b s : ByteArray} {w wr : World} {g sb j : Nat} (hown : wr.ownsRow w.heap.size 3 1 (.slice (some ⟨g, 0, none⟩) (wide a b) (wide a b)) (wide a b) (rowL (wide a b) (ahead2 a b j))) (hB : Below w.heap.size w wr) (s0 : wr.cell? ⟨sb, 0, none⟩ = some (.string a)) (s1 : wr.cell? ⟨sb, 1, none⟩ = some (.string b)) :
    DSI a b s w g sb wr.heap.size j s.size (wr.iter s 0) := by
  refine ⟨0, by omega, World.iter_heap wr s 0, ?_, hB.trans ((iter_below wr s 0).mono hB.size), iter_cell wr s 0 s0, iter_cell wr s 0 s1⟩
  rw [rowL_congr (G := ahead2 a b j) (fun k _ => by
    split
    · rw [dR_beyond (by omega)]; simp
    · simp)]
  exact own_below hown (iter_below wr s 0)
theorem DSI.step {a b s : ByteArray} {w W : World} {g sb ib j p gk : Nat} {V : Int} (hp : p < s.size) (hk : p + gk = s.size) (hit : W.heap[ib]? = some (.stringIter s (p + 1)))
    (hown : W.ownsRow w.heap.size 3 1 (.slice (some ⟨g, 0, none⟩) (wide a b) (wide a b)) (wide a b) (rowL (wide a b) fun k => ahead2 a b j k + if s.size - p ≤ k then ((dR s k : Nat) : Int) else 0))
    (hB : Below w.heap.size w W) (hg : w.heap.size ≤ g) (s0 : W.cell? ⟨sb, 0, none⟩ = some (.string a)) (s1 : W.cell? ⟨sb, 1, none⟩ = some (.string b)) (hgi : ib ≠ g) (hgs : sb ≠ g) (hV : V = ahead2 a b j (s.size - 1 - p) + (dR s (s.size - 1 - p) : Nat)) :
    DSI a b s w g sb ib j (gk - 1) (W.setCell ⟨g, s.size - 1 - p, none⟩ (.int .i64 V)) := by
  refine ⟨p + 1, by omega, iter_set hit hgi _, ?_, hB.setCell hg _, ?_, ?_⟩
  · have h := (hown.stored (s.size - 1 - p) (.int .i64 V)).1
    rw [rowL_set (G := fun k => ahead2 a b j k + if s.size - (p + 1) ≤ k then ((dR s k : Nat) : Int) else 0) (fun k _ hne => by
      by_cases h1 : s.size - p ≤ k
      · rw [if_pos h1, if_pos (by omega)]
      · rw [if_neg h1, if_neg (by omega)]) (fun _ => by rw [if_pos (by omega), hV])] at h
    exact h
  · exact (World.cell?_of_block (w := W) (a := ⟨sb, 0, none⟩) (Below.heap_setCell _ _ _ _ hgs)).trans s0
  · exact (World.cell?_of_block (w := W) (a := ⟨sb, 1, none⟩) (Below.heap_setCell _ _ _ _ hgs)).trans s1

set_option maxRecDepth 100000 in
set_option maxHeartbeats 8000000 in
theorem digitSums_c (a b : ByteArray) (w : World) (ha : vldB a = true) (hb : vldB b = true) : Calls Tryz.prog 67 #[.string a, .string b] w (DSPost a b w) := by
  obtain ⟨i0, hi, hz0, hz1, hz2⟩ := info_parts infoI
  have HA := Lib.hid ha
  have HB := Lib.hid hb
  obtain ⟨ha1, ha50⟩ := vldB_len ha
  obtain ⟨hb1, hb50⟩ := vldB_len hb
  clear ha hb
  have hw50 : wide a b ≤ 50 := by unfold wide; omega
  have hwa : a.size ≤ wide a b := by unfold wide; omega
  have hwb : b.size ≤ wide a b := by unfold wide; omega
  have hcase : (a.size < b.size ∧ wide a b = b.size) ∨ (¬ a.size < b.size ∧ wide a b = a.size) := by unfold wide; omega
  have HW := Lib.hid (show ∀ W1 : World, W1.ownsRow w.heap.size 3 1 (.slice (some ⟨w.heap.size, 0, none⟩) (wide a b) (wide a b)) (wide a b) (madeCells #[.int .i64 0] (wide a b)).toList → W1.ownsRow w.heap.size 3 1 (.slice (some ⟨w.heap.size, 0, none⟩) (wide a b) (wide a b)) (wide a b) (rowL (wide a b) (ahead2 a b 0)) from fun W1 h => by
    have e : (madeCells #[.int .i64 0] (wide a b)).toList = rowL (wide a b) (ahead2 a b 0) := by
      rw [toList_madeCells_one]
      unfold rowL ahead2
      simp [List.map_const']
    rw [← e]; exact h)
  rcases hcase with ⟨hab, hwn⟩ | ⟨hab, hwn⟩
  all_goals
    have HWN := Lib.hid hwn
    clear hwn
    go_enter Tryz.func67, Tryz.ntmps67
    go_wp2_with (at_make; refine wpList_make_full _ rfl _ _ 96 rfl w.heap.size 3 i0 (.int .i64 0) 1 Tryz.underlying96 hi hz0 hz1 .i64 .i64 _ _ (wide a b) rfl rfl (by have := HWN.out; omega) (by have := HWN.out; omega) (by rw [hz2]; omega) (by unfold maxLen; omega) (Nat.le_refl _) ?_)
    intro W1 hown hgrow
    have HO := Lib.hid (HW.out W1 hown)
    have hB1 : Below w.heap.size w W1 := Below.grown (Below.refl _ _) hgrow (Nat.le_refl _) (fun k hk => by cases hk)
    have L1 : w.heap.size < W1.heap.size := (HO.out.lt _ rfl).2
    clear hown hgrow HW hab
    go_wp2_with fail
    have S0 := Lib.hid (show DSO a b w w.heap.size W1.heap.size 2 (.int .i64 0) (W1.alloc (.cells #[.string a, .string b] 9)) from ⟨0, Or.inl ⟨rfl, rfl, rfl⟩, HO.out.alloc _, by (first | ((repeat' with_reducible first | assumption | exact Below.refl _ _ | apply Blw.alloc | apply Blw.drew | apply Blw.drewN | (refine Blw.after ?_ (by assumption)) | (refine Blw.set ?_ (by first | (dsimp only; omega) | (simp; omega)) _)); done) | (repeat' (first | assumption | exact Below.refl _ _ | apply Blw.alloc | apply Blw.drew | apply Blw.drewN | (refine Blw.after ?_ (by assumption)) | (refine Blw.set ?_ (by first | (dsimp only; omega) | (simp; done) | (simp; omega)) _)))), by go_simp, by go_simp⟩)
    go_loopg [20] 2 (fun m i wr => DSO a b w w.heap.size W1.heap.size m i wr)
    case atStart => exact S0.out
    case round =>
      clear S0 HO hB1
      obtain ⟨j, hj, hown, hB, s0, s1⟩ := hrel
      have HO := Lib.hid hown
      clear hown
      have L2 : W1.heap.size < wr.heap.size := World.block_lt_of_cell? wr _ s0
      rcases hj with ⟨rfl, rfl, rfl⟩ | ⟨rfl, rfl, rfl⟩ | ⟨rfl, rfl, rfl⟩
      · obtain ⟨wo, rfl⟩ : ∃ wo : World, wo = wr := ⟨_, rfl⟩
        have T0 := Lib.hid (DSI.start (s := a) HO.out hB s0 s1)
        go_wp2_with fail
        go_loopg [] a.size (fun m wr => DSI a b a w w.heap.size W1.heap.size wo.heap.size 0 m wr)
        case atStart => exact T0.out
        case round =>
          clear T0 HO hB s0 s1
          obtain ⟨p, hp, hit, hown, hB, s0, s1⟩ := hrel
          have LI := iter_lt hit
          by_cases hlt : p < a.size
          · have hnx : ∀ ty, (Instr.next (.pointer (some ⟨wo.heap.size, 0, none⟩)) true ty).run Tryz.prog wr = _ := fun ty => Lib.run_next_any_at wr wo.heap.size a p ty hit hlt
            rw [decode_vld HA.out p hlt] at hnx
            have hit2 := Lib.iterAt_heap wr wo.heap.size a p (p + 1) hit
            have o2 := own_iterAt hown (k := wo.heap.size) (by omega) a (p + 1)
            have B2 := Lib.below_iterAt hB (k := wo.heap.size) (by omega) a (p + 1)
            have q0 := (iterAt_cell wr wo.heap.size a (p + 1) (b := W1.heap.size) (o := 0) (by omega)).trans s0
            have q1 := (iterAt_cell wr wo.heap.size a (p + 1) (b := W1.heap.size) (o := 1) (by omega)).trans s1
            generalize wr.iterAt wo.heap.size a (p + 1) = W2 at *
            have hidx : a.size - 1 - p < wide a b := by omega
            have cV : W2.cell? ⟨w.heap.size, a.size - 1 - p, none⟩ = some (.int .i64 (ahead2 a b 0 (a.size - 1 - p))) := by
              rw [o2.cellAt _ (by omega), rowL_get _ hidx, if_neg (by omega), Int.add_zero]
            have fV : W2.frozen? ⟨w.heap.size, a.size - 1 - p, none⟩ = false := o2.frozenAt _
            have e1 : ((a.size : Int) - 1 - (p : Int)).toNat = a.size - 1 - p := by omega
            obtain ⟨b1, b2⟩ := byte_at HA.out p hlt
            obtain ⟨v1, v2⟩ := ahead2_in HA.out HB.out 0 (a.size - 1 - p) (by omega)
            have hd : ((dR a (a.size - 1 - p) : Nat) : Int) = (a[p].toNat : Int) - 48 := by
              have hx : a.size - 1 - (a.size - 1 - p) = p := by omega
              unfold dR
              rw [dif_pos (by omega)]
              simp only [hx]
              omega
            have ST := Lib.hid (DSI.step (V := ahead2 a b 0 (a.size - 1 - p) + ((a[p].toNat : Int) - 48)) hlt hp hit2 o2 B2 (Nat.le_refl _) q0 q1 (by omega) (by omega) (by rw [hd]))
            generalize ahead2 a b 0 (a.size - 1 - p) = V at *
            clear hd hit2 o2 B2 q0 q1 hit hown hB s0 s1
            go_wp2
            go_roundg (gk - 1)
            case measure => omega
            case rel => exact ST.out
          · have hnx : ∀ ty, (Instr.next (.pointer (some ⟨wo.heap.size, 0, none⟩)) true ty).run Tryz.prog wr = _ := fun ty => Lib.run_next_end_at wr wo.heap.size a p ty hit hlt
            obtain rfl : p = a.size := by omega
            have HO := Lib.hid hown
            clear hown hit hp
            go_wp2
            go_roundg 1
            case measure => omega
            case rel =>
              refine ⟨1, Or.inr (Or.inl ⟨rfl, rfl, rfl⟩), ?_, hB, s0, s1⟩
              rw [rowL_congr (fun k _ => (ahead2_next (a := a) (b := b) (s := a) (j := 0) (Or.inl ⟨rfl, rfl⟩) k).symm)]
              exact HO.out
      · obtain ⟨wo, rfl⟩ : ∃ wo : World, wo = wr := ⟨_, rfl⟩
        have T0 := Lib.hid (DSI.start (s := b) HO.out hB s0 s1)
        go_wp2_with fail
        go_loopg [] b.size (fun m wr => DSI a b b w w.heap.size W1.heap.size wo.heap.size 1 m wr)
        case atStart => exact T0.out
        case round =>
          clear T0 HO hB s0 s1
          obtain ⟨p, hp, hit, hown, hB, s0, s1⟩ := hrel
          have LI := iter_lt hit
          by_cases hlt : p < b.size
          · have hnx : ∀ ty, (Instr.next (.pointer (some ⟨wo.heap.size, 0, none⟩)) true ty).run Tryz.prog wr = _ := fun ty => Lib.run_next_any_at wr wo.heap.size b p ty hit hlt
            rw [decode_vld HB.out p hlt] at hnx
            have hit2 := Lib.iterAt_heap wr wo.heap.size b p (p + 1) hit
            have o2 := own_iterAt hown (k := wo.heap.size) (by omega) b (p + 1)
            have B2 := Lib.below_iterAt hB (k := wo.heap.size) (by omega) b (p + 1)
            have q0 := (iterAt_cell wr wo.heap.size b (p + 1) (b := W1.heap.size) (o := 0) (by omega)).trans s0
            have q1 := (iterAt_cell wr wo.heap.size b (p + 1) (b := W1.heap.size) (o := 1) (by omega)).trans s1
            generalize wr.iterAt wo.heap.size b (p + 1) = W2 at *
            have hidx : b.size - 1 - p < wide a b := by omega
            have cV : W2.cell? ⟨w.heap.size, b.size - 1 - p, none⟩ = some (.int .i64 (ahead2 a b 1 (b.size - 1 - p))) := by
              rw [o2.cellAt _ (by omega), rowL_get _ hidx, if_neg (by omega), Int.add_zero]
            have fV : W2.frozen? ⟨w.heap.size, b.size - 1 - p, none⟩ = false := o2.frozenAt _
            have e1 : ((b.size : Int) - 1 - (p : Int)).toNat = b.size - 1 - p := by omega
            obtain ⟨b1, b2⟩ := byte_at HB.out p hlt
            obtain ⟨v1, v2⟩ := ahead2_in HA.out HB.out 1 (b.size - 1 - p) (by omega)
            have hd : ((dR b (b.size - 1 - p) : Nat) : Int) = (b[p].toNat : Int) - 48 := by
              have hx : b.size - 1 - (b.size - 1 - p) = p := by omega
              unfold dR
              rw [dif_pos (by omega)]
              simp only [hx]
              omega
            have ST := Lib.hid (DSI.step (V := ahead2 a b 1 (b.size - 1 - p) + ((b[p].toNat : Int) - 48)) hlt hp hit2 o2 B2 (Nat.le_refl _) q0 q1 (by omega) (by omega) (by rw [hd]))
            generalize ahead2 a b 1 (b.size - 1 - p) = V at *
            clear hd hit2 o2 B2 q0 q1 hit hown hB s0 s1
            go_wp2
            go_roundg (gk - 1)
            case measure => omega
            case rel => exact ST.out
          · have hnx : ∀ ty, (Instr.next (.pointer (some ⟨wo.heap.size, 0, none⟩)) true ty).run Tryz.prog wr = _ := fun ty => Lib.run_next_end_at wr wo.heap.size b p ty hit hlt
            obtain rfl : p = b.size := by omega
            have HO := Lib.hid hown
            clear hown hit hp
            go_wp2
            go_roundg 0
            case measure => omega
            case rel =>
              refine ⟨2, Or.inr (Or.inr ⟨rfl, rfl, rfl⟩), ?_, hB, s0, s1⟩
              rw [rowL_congr (fun k _ => (ahead2_next (a := a) (b := b) (s := b) (j := 1) (Or.inr ⟨rfl, rfl⟩) k).symm)]
              exact HO.out
      · go_wp2
        go_ret
        exact ⟨w.heap.size, rfl, HO.out, hB⟩
end Go.Proofs.YtmondgcehgmamaaGreatDoor

namespace Go.Proofs.YtmondgcehgmamaaGreatDoor
set_option linter.unusedSimpArgs false
set_option linter.unusedVariables false
open Go.RowKit Go.Lib Go.Sort

theorem encB_cell : OneCell encB := fun _ => rfl
set_option maxHeartbeats 1600000 in
set_option maxRecDepth 1000000 in
theorem reverse_c (blk off cap : Nat) (d : Array UInt8) (w : World) (hH : Holds encB w blk off d) (hsz : d.size ≤ 4000000000000) :
    Calls Tryz.prog 115 #[.slice (some ⟨blk, off, none⟩) d.size cap] w fun e w' => e = .returned (.tuple #[]) ∧ ∃ n, w' = putRow encB (Sort.ahead w n) blk off d.reverse := by
  have hcl := encB_cell.cells
  simp only [Value.cells] at hcl
  have hst := encB_cell.store Tryz.prog
  go_enter Tryz.func115, Tryz.ntmps115
  go_wp2
  go_loopg [2, 3] d.size (fun k s2 s3 wr => ∃ (i jn : Nat) (jz : Int) (dk : Array UInt8) (n : Nat), s2 = .int .i64 i ∧ s3 = .int .i64 jz ∧ ((i : Int) < jz → jz = jn ∧ jn < d.size) ∧ (¬ (i : Int) < jz → ¬ i < jn) ∧ jn - i ≤ k ∧
    dk.size = d.size ∧ wr = putRow encB (Sort.ahead w n) blk off dk ∧ reverseLoop i jn dk = reverseLoop 0 (d.size - 1) d)
  case atStart => exact ⟨0, d.size - 1, (d.size : Int) - 1, d, 0, rfl, rfl, fun h => ⟨by omega, by omega⟩, fun h => by omega, by omega, rfl, (putRow_self encB w blk off d hH).symm, rfl⟩
  case round =>
    obtain ⟨i, jn, jz, dk, n, rfl, rfl, h1, h2, hk, hds, hwr, heq⟩ := hrel
    by_cases hlt : (i : Int) < jz
    · obtain ⟨rfl, hjn⟩ := h1 hlt
      have hij : i < jn := by omega
      have hHk : Holds encB wr blk off dk := by rw [hwr]; exact holds_putRow encB _ blk off d dk (holds_ahead encB w n blk off d hH) hds
      obtain ⟨ci, fi⟩ := hHk i (by omega)
      obtain ⟨cj, fj⟩ := hHk jn (by omega)
      have A : Aside (wr = putRow encB (Sort.ahead w n) blk off dk) := hwr
      clear hwr hHk hH h1 h2
      go_wp2_with fail
      go_region
      go_wp2
      go_roundg (jn - 1 - (i + 1))
      case measure => omega
      case rel =>
        rw [reverseLoop, if_pos hij] at heq
        exact ⟨i + 1, jn - 1, (jn : Int) - 1, swp dk i jn, n + 1, by simp, rfl, fun h => ⟨by omega, by omega⟩, fun h => by omega, Nat.le_refl _, by rw [size_swp]; exact hds,
          swap_world encB (by omega) (by omega) A.out (by first | rfl | simp [getElem!_pos, show jn < dk.size by omega]) (by first | rfl | simp [getElem!_pos, show i < dk.size by omega]), heq⟩
    · have hnot := h2 hlt
      go_wp2
      go_end0
      refine ⟨rfl, n, ?_⟩
      rw [reverseLoop, if_neg hnot] at heq
      rw [← Lib.reverseLoop_reverse, ← heq]
end Go.Proofs.YtmondgcehgmamaaGreatDoor

namespace Go.Proofs.YtmondgcehgmamaaGreatDoor
set_option linter.unusedSimpArgs false
set_option linter.unusedVariables false
open Go.RowKit Go.Lib Go.Sort

def TrimRel (s : ByteArray) (w : World) (m : Nat) (v : Value) (wr : World) : Prop := ∃ t : ByteArray, v = .string t ∧ t.size ≤ m ∧ wr = w ∧ drop0 (toL t) = drop0 (toL s)
theorem drop0_cons48 {l : List UInt8} (h : l[0]? = some 48) : drop0 (l.drop 1) = drop0 l := by
  cases l with
  | nil => simp at h
  | cons c r => simp at h; subst h; simp [drop0]
theorem drop0_keep {l : List UInt8} (h : l[0]? ≠ some 48) : drop0 l = l := by
  cases l with
  | nil => rfl
  | cons c r => simp at h; simp [drop0, h]
set_option maxHeartbeats 1000000 in
theorem trimLeftByte_c (s : ByteArray) (w : World) : Calls Tryz.prog 161 #[.string s, .int .u8 48] w fun e w' => e = .returned (.string (bs (drop0 (toL s)))) ∧ w = w' := by
  go_enter Tryz.func161, Tryz.ntmps161
  go_wp2
  go_loopg [0] s.size (fun m v wr => TrimRel s w m v wr)
  case atStart => exact ⟨s, rfl, Nat.le_refl _, rfl, rfl⟩
  case round =>
    obtain ⟨t, rfl, ht, rfl, hst⟩ := hrel
    have HT := Lib.hid hst
    clear hst
    by_cases h0 : 0 < t.size
    · have hg := Lib.hid (toL_get t 0 h0)
      by_cases e8 : t[0].toNat = 48
      · have HS := Lib.hid (drop0_cons48 (l := toL t) (by rw [hg.out]; congr 1; exact UInt8.toNat_inj.1 (by rw [e8]; rfl)))
        have a1 : ((t[0].toNat : Int) == 48) = true := by simp [e8]
        have hsz : t.size - 1 < t.size := by omega
        clear e8
        go_wp2
        go_roundg (gk - 1)
        case measure => omega
        case rel => exact ⟨t.extract 1 t.size, rfl, by simp; omega, rfl, by rw [toL_from1, HS.out, HT.out]⟩
      · have HS := Lib.hid (drop0_keep (l := toL t) (by rw [hg.out]; intro e; apply e8; rw [Option.some.injEq] at e; rw [e]; rfl))
        have a1 : ((t[0].toNat : Int) == 48) = false := by simp; omega
        clear e8
        have HR := Lib.hid (show bs (drop0 (toL s)) = t by rw [← HT.out, HS.out, bs_toL])
        go_wp2
        go_ret
        exact ⟨by rw [HR.out]; rfl, rfl⟩
    · have HR := Lib.hid (show bs (drop0 (toL s)) = t by
        rw [← HT.out]
        have : toL t = [] := List.eq_nil_of_length_eq_zero (by rw [toL_len]; omega)
        rw [this]; exact toL_ext (by rw [this, toL_bs]; try rfl))
      go_wp2
      go_ret
      exact ⟨by rw [HR.out]; rfl, rfl⟩
set_option maxRecDepth 100000 in
theorem trimLeft_c (s : ByteArray) (w : World) : Calls Tryz.prog 116 #[.string s, .string ⟨#[48]⟩] w fun e w' => e = .returned (.string (bs (drop0 (toL s)))) ∧ w = w' := by
  by_cases h : toL s = []
  · obtain rfl : s = ⟨#[]⟩ := toL_ext (by rw [h])
    go_enter Tryz.func116, Tryz.ntmps116
    go_wp2
    go_ret
    exact ⟨rfl, rfl⟩
  · have e1 : ¬ s.toList = [] := by rw [toList_toL]; exact h
    have e2 : s.toList.isEmpty = false := by rw [toList_toL]; simpa using h
    clear h
    go_enter Tryz.func116, Tryz.ntmps116
    go_wp2_with (go_at_call 161; refine (trimLeftByte_c _ _).mono ?_; rintro e w' ⟨rfl, rfl⟩)
    go_ret
    exact ⟨rfl, rfl⟩

/-- the expansion of digits that stand from the last one on -/
def exV (l : List UInt8) : Value := resD (if l = [] then [48] else l.reverse)
theorem exV_shape (l : List UInt8) : ∃ a b, exV l = .tuple #[.string a, .bool b] := ⟨_, _, rfl⟩
theorem exV_none {l : List UInt8} (h : ∀ c ∈ l, bitC c = true) (h0 : drop0 l.reverse = []) : exV l = .tuple #[.string ⟨#[48]⟩, .bool true] := by
  unfold exV
  by_cases hl : l = []
  · subst hl; rfl
  · rw [if_neg hl]
    have hs : strip l.reverse = [48] := by rw [strip_drop0 (by simpa using hl), if_pos h0]
    unfold resD
    rw [hs]; rfl
theorem exV_some {l : List UInt8} (h : ∀ c ∈ l, bitC c = true) (h0 : drop0 l.reverse ≠ []) : exV l = .tuple #[.string (selS (decide ((drop0 l.reverse).length ≤ 50)) (drop0 l.reverse)), .bool (decide ((drop0 l.reverse).length ≤ 50))] := by
  unfold exV
  have hl : l ≠ [] := by rintro rfl; exact h0 rfl
  rw [if_neg hl]
  have hs : strip l.reverse = drop0 l.reverse := by rw [strip_drop0 (by simpa using hl), if_neg h0]
  unfold resD
  rw [vldL_strip (by intro c hc; exact h c (by simpa using hc)) (by simpa using hl), hs]

theorem own_holds {w : World} {B g cap : Nat} {l : List UInt8} (h : w.ownsRow B 5 1 (.slice (some ⟨g, 0, none⟩) l.length cap) l.length (l.map encB)) : Holds encB w g 0 l.toArray := by
  intro j hj
  have hj' : j < l.length := by simpa using hj
  rw [Nat.zero_add]
  refine ⟨?_, h.frozenAt j⟩
  rw [h.cellAt j (by omega)]
  simp [List.getElem?_map, List.getElem?_eq_getElem hj', getElem!_pos, hj']
theorem putRow_grown {w : World} {n g : Nat} {d : Array UInt8} : w.grownBy (putRow encB (Sort.ahead w n) g 0 d) (some g) :=
  ⟨rfl, rfl, rfl, by rw [size_putRow]; exact Nat.le_refl _, fun k _ hk => by
    show (w.heap.modify g _)[k]? = _
    rw [Array.getElem?_modify, if_neg (fun e => hk (by rw [e]))]⟩

/-- the world behind the exchange -/
def Turned (l : List UInt8) (v : Value) (w : World) (W : World) : Prop :=
  (convert 22 9 v).run Tryz.prog W = .ok (.string (bs l.reverse)) W ∧ w.grownBy W v.ownBlock
set_option maxRecDepth 100000 in
set_option maxHeartbeats 1000000 in
/-- the walk behind the exchange -/
theorem expansion_of (l : List UInt8) (v : Value) (w : World) (hb : ∀ c ∈ l, bitC c = true) (hrev : Calls Tryz.prog 115 #[v] w fun e W => e = .returned (.tuple #[]) ∧ Turned l v w W) :
    Calls Tryz.prog 68 #[v] w fun e w' => e = .returned (exV l) ∧ w.grownBy w' v.ownBlock := by
  by_cases h0 : drop0 l.reverse = []
  · have H := Lib.hid (exV_none hb h0)
    have HD := Lib.hid (show bs (drop0 (toL (bs l.reverse))) = ⟨#[]⟩ by rw [toL_bs, h0]; rfl)
    clear h0
    go_enter Tryz.func68, Tryz.ntmps68
    go_wp2_with fail
    refine hrev.mono ?_
    rintro e W ⟨rfl, hconv, hB⟩
    go_wp2_with fail
    refine (trimLeft_c _ _).mono ?_
    rintro e w1 ⟨rfl, rfl⟩
    rw [HD.out]
    go_wp2
    go_ret2
    exact ⟨by rw [H.out]; rfl, hB⟩
  · have H := Lib.hid (exV_some hb h0)
    generalize hT : bs (drop0 (toL (bs l.reverse))) = T
    have hTL : toL T = drop0 l.reverse := by rw [← hT, toL_bs, toL_bs]
    have HT := Lib.hid hT
    have e1 : ¬ T.toList = [] := by rw [toList_toL, hTL]; exact h0
    have e2 : T.toList.isEmpty = false := by rw [toList_toL, hTL]; simpa using h0
    have HB := Lib.hid (show bs (drop0 l.reverse) = T by rw [← hTL, bs_toL])
    have hlen : T.size = (drop0 l.reverse).length := by rw [← hTL, toL_len]
    have HL := Lib.hid hlen
    clear h0 hT hTL hlen
    by_cases h50 : T.size ≤ 50
    · have HF := Lib.hid (show exV l = .tuple #[.string T, .bool true] by rw [H.out, ← HL.out]; simp [selS, h50, HB.out])
      go_enter Tryz.func68, Tryz.ntmps68
      go_wp2_with fail
      refine hrev.mono ?_
      rintro e W ⟨rfl, hconv, hB⟩
      go_wp2_with fail
      refine (trimLeft_c _ _).mono ?_
      rintro e w1 ⟨rfl, rfl⟩
      rw [HT.out]
      go_wp2
      go_ret2
      exact ⟨by rw [HF.out]; rfl, hB⟩
    · have HF := Lib.hid (show exV l = .tuple #[.string ⟨#[]⟩, .bool false] by rw [H.out, ← HL.out]; simp [selS, h50, bs])
      go_enter Tryz.func68, Tryz.ntmps68
      go_wp2_with fail
      refine hrev.mono ?_
      rintro e W ⟨rfl, hconv, hB⟩
      go_wp2_with fail
      refine (trimLeft_c _ _).mono ?_
      rintro e w1 ⟨rfl, rfl⟩
      rw [HT.out]
      go_wp2
      go_ret2
      exact ⟨by rw [HF.out]; rfl, hB⟩
theorem reverse_none (w : World) : Calls Tryz.prog 115 #[.slice none 0 0] w fun e w' => e = .returned (.tuple #[]) ∧ w = w' := by
  go_enter Tryz.func115, Tryz.ntmps115
  go_wp2
  go_loopg [2, 3] 0 (fun _ s2 s3 wr => s2 = .int .i64 0 ∧ s3 = .int .i64 (-1) ∧ wr = w)
  case atStart => exact ⟨rfl, rfl, rfl⟩
  case round =>
    obtain ⟨rfl, rfl, rfl⟩ := hrel
    go_wp2
    go_end0
    exact ⟨rfl, rfl⟩
theorem conv_none (w : World) : (convert 22 9 (.slice none 0 0)).run Tryz.prog w = .ok (.string ⟨#[]⟩) w := by
  rw [run_convert_bytes_string w _ _ _ none 0 0 Tryz.underlying22 Tryz.underlying5 Tryz.underlying9]
  rfl
theorem expansion_c (l : List UInt8) (v : Value) (w : World) (B : Nat) (hb : ∀ c ∈ l, bitC c = true) (hown : w.ownsRow B 5 1 v l.length (l.map encB)) (hl : l.length ≤ 4000000000000) : Calls Tryz.prog 68 #[v] w fun e w' => e = .returned (exV l) ∧ w.grownBy w' v.ownBlock := by
  rcases hown.2 with ⟨rfl, h0⟩ | ⟨g, cap, cur, rfl, hg, hgg, -⟩
  · obtain rfl : l = [] := List.eq_nil_of_length_eq_zero h0
    refine expansion_of [] _ w hb ((reverse_none w).mono ?_)
    rintro e w' ⟨rfl, rfl⟩
    exact ⟨rfl, conv_none w, rfl, rfl, rfl, Nat.le_refl _, fun _ _ _ => rfl⟩
  · have hH := own_holds hown
    have hr := reverse_c g 0 cap l.toArray w hH (by simpa using hl)
    rw [List.size_toArray] at hr
    refine expansion_of l _ w hb (hr.mono ?_)
    rintro e W ⟨rfl, n, rfl⟩
    refine ⟨rfl, ?_, putRow_grown⟩
    have hh := holds_putRow encB (Sort.ahead w n) g 0 l.toArray l.toArray.reverse (holds_ahead encB w n g 0 _ hH) (by simp)
    have e := run_convert_bytes_back (P := Tryz.prog) (putRow encB (Sort.ahead w n) g 0 l.toArray.reverse) 22 9 5 ⟨g, 0, none⟩ cap l.reverse Tryz.underlying22 Tryz.underlying5 Tryz.underlying9 (fun j hj => by
      have := (hh j (by simpa using hj)).1
      rw [show (⟨g, 0, none⟩ : Addr).add j = ⟨g, 0 + j, none⟩ by simp [Addr.add]; exact fun h => h.symm, this]
      have h2 : l.toArray.reverse[j]! = l.reverse[j] := by
        rw [List.reverse_toArray, getElem!_pos l.reverse.toArray j (by simpa using hj)]; rfl
      rw [h2]; rfl)
    rw [List.length_reverse] at e
    exact e

set_option maxHeartbeats 1000000 in
theorem iDigitsOf_c (x y : Int) (w : World) : Calls Tryz.prog 125 #[pr x y] w fun e w' => e = .returned (ofV x y) ∧ Below w.heap.size w w' := by
  rcases Bool.eq_false_or_eq_true (inB 1000000 x y) with hi | hi
  · have H := Lib.hid (show ofV x y = exV (dgs x y) by
      unfold ofV exV dgs1
      rw [hi, if_pos rfl]
      by_cases hz : x = 0 ∧ y = 0
      · obtain ⟨rfl, rfl⟩ := hz; rfl
      · rw [if_neg hz, if_neg (by rw [dgs_step hz]; simp)])
    obtain ⟨x1, x2, y1, y2⟩ := inB_le hi
    have HL := Lib.hid (show (dgs x y).length ≤ 4000000000000 from by have := dgs_len_le x y; have := ms_le (x := x) (y := y) ⟨by omega, by omega⟩ ⟨by omega, by omega⟩; omega)
    go_enter Tryz.func125, Tryz.ntmps125
    go_wp2_with (first | (go_at_call 171; refine (gPair_c _ _ _).mono ?_; rintro e w1 ⟨rfl, hb⟩; obtain ⟨hc, hf⟩ := bcell hb; have hz := bsize hb; have hs := hb.size; try simp at hs) | (go_at_call 172; refine (small_c _ _ _).mono ?_; rintro e w1 ⟨rfl, hb⟩; obtain ⟨hc, hf⟩ := bcell hb; have hz := bsize hb; have hs := hb.size; try simp at hs) | (go_at_call 173; fail))
    have hB1 := Lib.hid (show Below w.heap.size w w1 by (first | ((repeat' with_reducible first | assumption | exact Below.refl _ _ | apply Blw.alloc | apply Blw.drew | apply Blw.drewN | (refine Blw.after ?_ (by assumption)) | (refine Blw.set ?_ (by first | (dsimp only; omega) | (simp; omega)) _)); done) | (repeat' (first | assumption | exact Below.refl _ _ | apply Blw.alloc | apply Blw.drew | apply Blw.drewN | (refine Blw.after ?_ (by assumption)) | (refine Blw.set ?_ (by first | (dsimp only; omega) | (simp; done) | (simp; omega)) _)))))
    refine (iDigits_c x y _ ⟨by omega, by omega⟩ ⟨by omega, by omega⟩).mono ?_
    rintro e w2 ⟨v, rfl, hown, hb2⟩
    have HO := Lib.hid hown
    clear hown
    go_wp2_with fail
    refine (expansion_c (dgs x y) v w2 w1.heap.size (dgs_bits x y) HO.out HL.out).mono ?_
    rintro e w3 ⟨rfl, hg3⟩
    have hb3 : Below w1.heap.size w2 w3 := Below.grown (Below.refl _ _) hg3 hb2.size (fun k hk => (HO.out.lt k hk).1)
    obtain ⟨a, b, hab⟩ := exV_shape (dgs x y)
    have HA := Lib.hid hab
    rw [hab]
    clear hab
    go_wp2_with fail
    go_ret2
    exact ⟨by rw [H.out, HA.out]; rfl, (hB1.out.trans (hb2.mono hB1.out.size)).trans (hb3.mono hB1.out.size)⟩
  · have H := Lib.hid (show ofV x y = .tuple #[.string ⟨#[]⟩, .bool false] by unfold ofV; rw [hi]; rfl)
    go_enter Tryz.func125, Tryz.ntmps125
    go_wp2_with (first | (go_at_call 171; refine (gPair_c _ _ _).mono ?_; rintro e w1 ⟨rfl, hb⟩; obtain ⟨hc, hf⟩ := bcell hb; have hz := bsize hb; have hs := hb.size; try simp at hs) | (go_at_call 172; refine (small_c _ _ _).mono ?_; rintro e w1 ⟨rfl, hb⟩; obtain ⟨hc, hf⟩ := bcell hb; have hz := bsize hb; have hs := hb.size; try simp at hs))
    go_ret2
    exact ⟨by rw [H.out]; rfl, by (first | ((repeat' with_reducible first | assumption | exact Below.refl _ _ | apply Blw.alloc | apply Blw.drew | apply Blw.drewN | (refine Blw.after ?_ (by assumption)) | (refine Blw.set ?_ (by first | (dsimp only; omega) | (simp; omega)) _)); done) | (repeat' (first | assumption | exact Below.refl _ _ | apply Blw.alloc | apply Blw.drew | apply Blw.drewN | (refine Blw.after ?_ (by assumption)) | (refine Blw.set ?_ (by first | (dsimp only; omega) | (simp; done) | (simp; omega)) _))))⟩
end Go.Proofs.YtmondgcehgmamaaGreatDoor

namespace Go.Proofs.YtmondgcehgmamaaGreatDoor
set_option linter.unusedSimpArgs false
set_option linter.unusedVariables false
open Go.RowKit

def gcells (l : List (Int × Int)) : List Value := l.flatMap fun z => [.int .i64 z.1, .int .i64 z.2]
theorem gcells_snoc (l : List (Int × Int)) (x y : Int) : gcells (l ++ [(x, y)]) = gcells l ++ [.int .i64 x, .int .i64 y] := by simp [gcells]
theorem infoG : (Tryz.prog.info? 99).map (fun i => (i.zero, i.size, i.bytes)) = some (some (.agg #[.int .i64 0, .int .i64 0]), 2, 16) := by kernel_rfl
theorem cells2 (w : World) (u v : Value) (t : TypeId) : ∀ (j : Nat) (u' : Value), [u, v][j]? = some u' → (w.alloc (.cells #[u, v] t)).cell? ((⟨w.heap.size, 0, none⟩ : Addr).add j) = some u' := by
  intro j u' hj
  match j, hj with
  | 0, hj => simp at hj; subst hj; simp [Addr.add]
  | 1, hj => simp at hj; subst hj; simp [Addr.add]
theorem cells2n (w : World) (u v : Value) (t : TypeId) (n : Nat) (hn : n = w.heap.size) : ∀ (j : Nat) (u' : Value), [u, v][j]? = some u' → (w.alloc (.cells #[u, v] t)).cell? ((⟨n, 0, none⟩ : Addr).add j) = some u' := by
  subst hn; exact cells2 w u v t
theorem two1 (u v : Value) (h : u.oneCell' = true) (h' : v.oneCell' = true) : ∀ u' ∈ [u, v], u'.oneCell' = true := by
  intro u' hu; simp at hu; rcases hu with rfl | rfl; exact h; exact h'
end Go.Proofs.YtmondgcehgmamaaGreatDoor

namespace Go.Proofs.YtmondgcehgmamaaGreatDoor
set_option linter.unusedSimpArgs false
set_option linter.unusedVariables false
open Go.RowKit

/-- the table in its block -/
def Tab (w : World) : Prop := 0 < w.heap.size ∧ ∀ r, r < 15 → w.cell? ⟨0, r * 6, none⟩ = some (.int .i64 (rowX r)) ∧ w.cell? ⟨0, r * 6 + 1, none⟩ = some (.int .i64 (rowY r)) ∧ w.cell? ⟨0, r * 6 + 2, none⟩ = some (.string (bs (rowS r))) ∧ ∀ b, b < 3 → w.cell? ⟨0, r * 6 + 3 + b, none⟩ = some (.int .i64 (rowN r b : Nat))
theorem Tab.keep {w w' : World} (h : Tab w) {B : Nat} (hB : 0 < B) (hb : Below B w w') : Tab w' := by
  have e : ∀ o, w'.cell? ⟨0, o, none⟩ = w.cell? ⟨0, o, none⟩ := fun o => hb.cell (p := ⟨0, o, none⟩) hB
  refine ⟨Nat.lt_of_lt_of_le h.1 hb.size, fun r hr => ?_⟩
  obtain ⟨h1, h2, h3, h4⟩ := h.2 r hr
  exact ⟨(e _).trans h1, (e _).trans h2, (e _).trans h3, fun b hb => (e _).trans (h4 b hb)⟩
/-- what is owned of one type stands while a row of another type grows -/
theorem own_other {w w1 : World} {B B' e e' sz sz' n n' : Nat} {v v' : Value} {xs xs' : List Value} (h : w.ownsRow B e sz v n xs) (k : w.ownsRow B' e' sz' v' n' xs') (hne : e ≠ e') (hg : w.grownBy w1 v.ownBlock) : w1.ownsRow B' e' sz' v' n' xs' := by
  refine ⟨k.1, k.2.imp id ?_⟩
  rintro ⟨g, cap, cur, h1, h2, h3, h4⟩
  refine ⟨g, cap, cur, h1, h2, (hg.block g (Array.getElem?_eq_some_iff.1 h3).1 ?_).trans h3, h4⟩
  rcases h.2 with ⟨rfl, _⟩ | ⟨g', cap', cur', rfl, _, h3', _⟩
  · simp [Value.ownBlock]
  · simp only [Value.ownBlock, ne_eq, Option.some.injEq]
    rintro rfl
    rw [h3] at h3'
    simp only [Option.some.injEq, Obj.cells.injEq] at h3'
    exact hne h3'.2.1.symm

def IAddRel (a b : ByteArray) (w w1 : World) (sums : Value) (m : Nat) (up ca i row : Value) (wr : World) : Prop :=
  ∃ k : Nat, k + m = stepsA a b ∧ i = .int .i64 k ∧ row = .int .i64 (stA a b k : Nat) ∧ wr.ownsRow w1.heap.size 5 1 up k ((outA a b k).map encB) ∧ wr.ownsRow w1.heap.size 99 2 ca k (gcells (carA a b k)) ∧ wr.ownsRow w1.heap.size 3 1 sums (wide a b) (rowL (wide a b) fun k => (sm a b k : Nat)) ∧ Below w.heap.size w wr ∧ w1.heap.size ≤ wr.heap.size
theorem exV_false {l : List UInt8} {s : ByteArray} (h : exV l = .tuple #[.string s, .bool false]) : s = ⟨#[]⟩ := by
  unfold exV at h
  generalize (if l = [] then [48] else l.reverse) = r at h
  unfold resD at h
  simp only [Value.tuple.injEq, Array.mk.injEq, List.cons.injEq, Value.string.injEq, Value.bool.injEq, and_true] at h
  rw [← h.1, h.2]; rfl
/-- what the adding leaves: the sum, its carries, and whether it is short enough -/
def IAddPost (a b : ByteArray) (w : World) (e : Ending) (w' : World) : Prop :=
  ∃ (s : ByteArray) (ok : Bool) (v : Value), exV (outA a b (stepsA a b)) = .tuple #[.string s, .bool ok] ∧ e = .returned (.tuple #[.string s, v, .bool ok]) ∧ (ok = true → w'.ownsRow w.heap.size 99 2 v (stepsA a b) (gcells (carA a b (stepsA a b)))) ∧ (ok = false → v = .slice none 0 0) ∧ Below w.heap.size w w'
theorem rowS_size (r : Nat) : (bs (rowS r)).size = 3 := rfl
theorem rowS_at (r b : Nat) (hb : b < 3) (h : b < (bs (rowS r)).size) : ((bs (rowS r))[b].toNat : Int) = ((rowD r b).toNat : Nat) := by
  match b, hb with
  | 0, _ => rfl
  | 1, _ => rfl
  | 2, _ => rfl
set_option maxRecDepth 100000 in
set_option maxHeartbeats 8000000 in
theorem addDigits_yes (a b : ByteArray) (w : World) (hT : Tab w) (ha : vldB a = true) (hvb : vldB b = true) : Calls Tryz.prog 39 #[.string a, .string b] w (IAddPost a b w) := by
  obtain ⟨i0, hi, hz0, hz1, hz2⟩ := info_parts infoG
  obtain ⟨j0, hj, hy0, hy1, hy2⟩ := info_parts infoB
  have HA := Lib.hid ha
  have HB := Lib.hid hvb
  obtain ⟨ha1, ha50⟩ := vldB_len ha
  obtain ⟨hb1, hb50⟩ := vldB_len hvb
  go_enter Tryz.func39, Tryz.ntmps39
  go_wp2_with (first | (go_at_call 66; refine (iDigitsValid_c _ _).mono ?_; rintro e w1 ⟨rfl, hb⟩; obtain ⟨hc, hf⟩ := bcell hb; have hz := bsize hb; have hs := hb.size; try simp at hs))
  have hB1 := Lib.hid (show Below w.heap.size w w1 by (first | ((repeat' with_reducible first | assumption | exact Below.refl _ _ | apply Blw.alloc | apply Blw.drew | apply Blw.drewN | (refine Blw.after ?_ (by assumption)) | (refine Blw.set ?_ (by first | (dsimp only; omega) | (simp; omega)) _)); done) | (repeat' (first | assumption | exact Below.refl _ _ | apply Blw.alloc | apply Blw.drew | apply Blw.drewN | (refine Blw.after ?_ (by assumption)) | (refine Blw.set ?_ (by first | (dsimp only; omega) | (simp; done) | (simp; omega)) _)))))
  have hs1 : w.heap.size ≤ w1.heap.size := hB1.out.size
  refine (digitSums_c a b w1 HA.out HB.out).mono ?_
  rintro e w2 ⟨g, rfl, hsum, hb2⟩
  clear ha hvb hb hc hf hz
  have HSU := Lib.hid hsum
  have hB2 := Lib.hid (hB1.out.trans (hb2.mono hs1))
  have S0 := Lib.hid (show IAddRel a b w w1 (.slice (some ⟨g, 0, none⟩) (wide a b) (wide a b)) (stepsA a b) (.slice none 0 0) (.slice none 0 0) (.int .i64 0) (.int .i64 0) w2 from
    ⟨0, by omega, rfl, rfl, World.ownsRow_nil _ _ _ _, World.ownsRow_nil _ _ _ _, HSU.out, hB2.out, hb2.size⟩)
  have HT := Lib.hid hT
  have hpos := hT.1
  clear hsum hT
  go_wp2_with fail
  go_loopg [8, 9, 10, 11] (stepsA a b) (fun m up ca i row wr => IAddRel a b w w1 (.slice (some ⟨g, 0, none⟩) (wide a b) (wide a b)) m up ca i row wr)
  case atStart => exact S0.out
  case round =>
    clear S0 HSU hB2 hb2
    obtain ⟨k, hk, rfl, rfl, hup, hca, hsu, hB, hs2⟩ := hrel
    have hst := steps_le HA.out HB.out
    have hk58 : k ≤ 58 := by omega
    have HUP := Lib.hid hup
    have HCA := Lib.hid hca
    have HSU := Lib.hid hsu
    have hr := stA_lt HA.out HB.out k
    have hs3 := sm_lt HA.out HB.out k
    have HG := Lib.hid (goes_on HA.out HB.out (k := k) (by omega))
    have hrs := (row_step hr hs3).1
    have HTr := Lib.hid (HT.out.keep hpos hB)
    have hw50 : wide a b ≤ 50 := by unfold wide; omega
    clear hup hca hsu hst
    by_cases hgo : k < stepsA a b
    · have hgo' := HG.out.2 hgo
      have HTc := Lib.hid (HTr.out.2 _ hr)
      obtain ⟨t1, t2, t3, t4⟩ := HTc.out
      obtain ⟨u1, u2, u3, u4⟩ := HTr.out.2 _ hrs
      clear u3 u4
      have hsz := rowS_size (stA a b k)
      have HREL := Lib.hid (show ∀ (v1 v2 : Value) (u : Int) (W2 : World) (row : Value), row = .int .i64 (rowN (stA a b k) (sm a b k) : Nat) → u = ((rowD (stA a b k) (sm a b k)).toNat : Nat) → W2.ownsRow w1.heap.size 5 1 v1 (k + 1) ((outA a b k).map encB ++ [.int .u8 u]) →
          W2.ownsRow w1.heap.size 99 2 v2 (k + 1) (gcells (carA a b k) ++ [.int .i64 (rowX (rowN (stA a b k) (sm a b k))), .int .i64 (rowY (rowN (stA a b k) (sm a b k)))]) → W2.ownsRow w1.heap.size 3 1 (.slice (some ⟨g, 0, none⟩) (wide a b) (wide a b)) (wide a b) (rowL (wide a b) fun k => (sm a b k : Nat)) → Below w.heap.size w W2 → w1.heap.size ≤ W2.heap.size →
          IAddRel a b w w1 (.slice (some ⟨g, 0, none⟩) (wide a b) (wide a b)) (gk - 1) v1 v2 (.int .i64 (k + 1 : Nat)) row W2 from by
        intro v1 v2 u W2 row h0 hu h1 h2 h3 h4 h5
        refine ⟨k + 1, by omega, rfl, h0, ?_, ?_, h3, h4, h5⟩
        · rw [show outA a b (k + 1) = outA a b k ++ [rowD (stA a b k) (sm a b k)] from rfl, List.map_append]
          rw [hu] at h1; exact h1
        · rw [show carA a b (k + 1) = carA a b k ++ [(rowX (stA a b (k + 1)), rowY (stA a b (k + 1)))] from rfl, gcells_snoc]
          exact h2)
      by_cases hkw : k < wide a b
      · have cS : wr.cell? ⟨g, k, none⟩ = some (.int .i64 (sm a b k : Nat)) := by
          rw [HSU.out.cellAt _ (by omega), rowL_get _ hkw]
        clear hgo'
        have t4' := t4 (sm a b k) (hs3)
        clear t4
        go_wp2_with (first
          | (at_builtin; refine wpList_append_own _ rfl _ _ 22 rfl w1.heap.size 5 j0 (.int .u8 0) 1 1 Tryz.underlying22 hj hy0 hy1 hy2 rfl (by decide) _ _ _ rfl (HUP.out.alloc _) ⟨wr.heap.size, 0, none⟩ 1 1 [_] rfl rfl (cells1 _ _ _) (one1 _ rfl) (by unfold maxLen; omega) (by omega) (by simp; omega) ?_))
        intro v1 W1 o1 hgrow _
        have HO1 := Lib.hid o1
        have HCA1 := Lib.hid (own_other (HUP.out.alloc _) (HCA.out.alloc _) (by decide) hgrow)
        have HSU1 := Lib.hid (own_other (HUP.out.alloc _) (HSU.out.alloc _) (by decide) hgrow)
        have hBW1 : Below w.heap.size w W1 := Below.grown (by (first | ((repeat' with_reducible first | assumption | exact Below.refl _ _ | apply Blw.alloc | apply Blw.drew | apply Blw.drewN | (refine Blw.after ?_ (by assumption)) | (refine Blw.set ?_ (by first | (dsimp only; omega) | (simp; omega)) _)); done) | (repeat' (first | assumption | exact Below.refl _ _ | apply Blw.alloc | apply Blw.drew | apply Blw.drewN | (refine Blw.after ?_ (by assumption)) | (refine Blw.set ?_ (by first | (dsimp only; omega) | (simp; done) | (simp; omega)) _))))) hgrow (by simp; omega) (fun k hk => by have := (HUP.out.lt k hk).1; omega)
        have hsW1 : w1.heap.size ≤ W1.heap.size := by have := hgrow.size; simp at this; omega
        have HT1 := Lib.hid (HT.out.keep hpos hBW1)
        obtain ⟨p1, p2, p3, p4⟩ := HT1.out.2 _ hr
        obtain ⟨q1, q2, q3, q4⟩ := HT1.out.2 _ hrs
        have p4' := p4 (sm a b k) (hs3)
        clear p4 q3 q4 p1 p2 p3 t1 t2 t3 t4' u1 u2 o1 hgrow HUP HCA HSU HTr hB hs2
        go_wp2_with (first
          | (at_builtin; refine wpList_append_own _ rfl _ _ 61 rfl w1.heap.size 99 i0 (.agg #[.int .i64 0, .int .i64 0]) 2 16 Tryz.underlying61 hi hz0 hz1 hz2 rfl (by decide) _ _ _ rfl (HCA1.out.alloc _) ⟨W1.heap.size, 0, none⟩ 1 1 [.int .i64 (rowX (rowN (stA a b k) (sm a b k))), .int .i64 (rowY (rowN (stA a b k) (sm a b k)))] rfl rfl (cells2 _ _ _ _) (two1 _ _ rfl rfl) (by unfold maxLen; omega) (by omega) (by simp; omega) ?_))
        intro v2 W2 o2 hgrow _
        have HO2 := Lib.hid (own_other (HCA1.out.alloc _) (HO1.out.alloc _) (by decide) hgrow)
        have HSU2 := Lib.hid (own_other (HCA1.out.alloc _) (HSU1.out.alloc _) (by decide) hgrow)
        have hBW2 : Below w.heap.size w W2 := Below.grown (by (first | ((repeat' with_reducible first | assumption | exact Below.refl _ _ | apply Blw.alloc | apply Blw.drew | apply Blw.drewN | (refine Blw.after ?_ (by assumption)) | (refine Blw.set ?_ (by first | (dsimp only; omega) | (simp; omega)) _)); done) | (repeat' (first | assumption | exact Below.refl _ _ | apply Blw.alloc | apply Blw.drew | apply Blw.drewN | (refine Blw.after ?_ (by assumption)) | (refine Blw.set ?_ (by first | (dsimp only; omega) | (simp; done) | (simp; omega)) _))))) hgrow (by simp; omega) (fun k hk => by have := (HCA1.out.lt k hk).1; omega)
        have hsW2 : w1.heap.size ≤ W2.heap.size := by have := hgrow.size; simp at this; omega
        have HC2 := Lib.hid o2
        clear o2 hgrow p4' q1 q2
        go_wp2
        go_roundg (gk - 1)
        case measure => omega
        case rel => exact HREL.out _ _ _ _ _ rfl (by rw [rowS_at _ _ (by omega)]) HO2.out HC2.out HSU2.out hBW2 hsW2
      · have hn0 := hgo'.resolve_left hkw
        have n1 : (((stA a b k : Nat) : Int) == 0) = false := by simp; omega
        have n2 : (((stA a b k : Nat) : Int) != 0) = true := by simp; omega
        have e0 := sm_beyond (a := a) (b := b) (k := k) (by omega)
        rw [e0] at HREL hrs u1 u2
        clear hgo' hn0 e0 hs3
        have t4' := t4 (0) (by omega)
        clear t4
        go_wp2_with (first
          | (at_builtin; refine wpList_append_own _ rfl _ _ 22 rfl w1.heap.size 5 j0 (.int .u8 0) 1 1 Tryz.underlying22 hj hy0 hy1 hy2 rfl (by decide) _ _ _ rfl (HUP.out.alloc _) ⟨wr.heap.size, 0, none⟩ 1 1 [_] rfl rfl (cells1 _ _ _) (one1 _ rfl) (by unfold maxLen; omega) (by omega) (by simp; omega) ?_))
        intro v1 W1 o1 hgrow _
        have HO1 := Lib.hid o1
        have HCA1 := Lib.hid (own_other (HUP.out.alloc _) (HCA.out.alloc _) (by decide) hgrow)
        have HSU1 := Lib.hid (own_other (HUP.out.alloc _) (HSU.out.alloc _) (by decide) hgrow)
        have hBW1 : Below w.heap.size w W1 := Below.grown (by (first | ((repeat' with_reducible first | assumption | exact Below.refl _ _ | apply Blw.alloc | apply Blw.drew | apply Blw.drewN | (refine Blw.after ?_ (by assumption)) | (refine Blw.set ?_ (by first | (dsimp only; omega) | (simp; omega)) _)); done) | (repeat' (first | assumption | exact Below.refl _ _ | apply Blw.alloc | apply Blw.drew | apply Blw.drewN | (refine Blw.after ?_ (by assumption)) | (refine Blw.set ?_ (by first | (dsimp only; omega) | (simp; done) | (simp; omega)) _))))) hgrow (by simp; omega) (fun k hk => by have := (HUP.out.lt k hk).1; omega)
        have hsW1 : w1.heap.size ≤ W1.heap.size := by have := hgrow.size; simp at this; omega
        have HT1 := Lib.hid (HT.out.keep hpos hBW1)
        obtain ⟨p1, p2, p3, p4⟩ := HT1.out.2 _ hr
        obtain ⟨q1, q2, q3, q4⟩ := HT1.out.2 _ hrs
        have p4' := p4 (0) (by omega)
        clear p4 q3 q4 p1 p2 p3 t1 t2 t3 t4' u1 u2 o1 hgrow HUP HCA HSU HTr hB hs2
        go_wp2_with (first
          | (at_builtin; refine wpList_append_own _ rfl _ _ 61 rfl w1.heap.size 99 i0 (.agg #[.int .i64 0, .int .i64 0]) 2 16 Tryz.underlying61 hi hz0 hz1 hz2 rfl (by decide) _ _ _ rfl (HCA1.out.alloc _) ⟨W1.heap.size, 0, none⟩ 1 1 [.int .i64 (rowX (rowN (stA a b k) (0))), .int .i64 (rowY (rowN (stA a b k) (0)))] rfl rfl (cells2 _ _ _ _) (two1 _ _ rfl rfl) (by unfold maxLen; omega) (by omega) (by simp; omega) ?_))
        intro v2 W2 o2 hgrow _
        have HO2 := Lib.hid (own_other (HCA1.out.alloc _) (HO1.out.alloc _) (by decide) hgrow)
        have HSU2 := Lib.hid (own_other (HCA1.out.alloc _) (HSU1.out.alloc _) (by decide) hgrow)
        have hBW2 : Below w.heap.size w W2 := Below.grown (by (first | ((repeat' with_reducible first | assumption | exact Below.refl _ _ | apply Blw.alloc | apply Blw.drew | apply Blw.drewN | (refine Blw.after ?_ (by assumption)) | (refine Blw.set ?_ (by first | (dsimp only; omega) | (simp; omega)) _)); done) | (repeat' (first | assumption | exact Below.refl _ _ | apply Blw.alloc | apply Blw.drew | apply Blw.drewN | (refine Blw.after ?_ (by assumption)) | (refine Blw.set ?_ (by first | (dsimp only; omega) | (simp; done) | (simp; omega)) _))))) hgrow (by simp; omega) (fun k hk => by have := (HCA1.out.lt k hk).1; omega)
        have hsW2 : w1.heap.size ≤ W2.heap.size := by have := hgrow.size; simp at this; omega
        have HC2 := Lib.hid o2
        clear o2 hgrow p4' q1 q2
        go_wp2
        go_roundg (gk - 1)
        case measure => omega
        case rel => exact HREL.out _ _ _ _ _ rfl (by rw [rowS_at _ _ (by omega)]) HO2.out HC2.out HSU2.out hBW2 hsW2
    · obtain rfl : k = stepsA a b := by omega
      obtain ⟨e0, e1⟩ := done_zero HA.out HB.out
      have l1 : ¬ stepsA a b < wide a b := by omega
      have HL := Lib.hid (show (outA a b (stepsA a b)).length ≤ 4000000000000 by rw [outA_len]; omega)
      have HU := Lib.hid (show wr.ownsRow w1.heap.size 5 1 u8 (outA a b (stepsA a b)).length ((outA a b (stepsA a b)).map encB) by rw [outA_len]; exact HUP.out)
      rw [e0]
      clear HG hr hrs HTr e1 hs3 HUP HSU
      have HE0 := Lib.hid e0
      clear e0
      go_wp2_with fail
      refine (expansion_c (outA a b (stepsA a b)) _ wr w1.heap.size (outA_bits _) HU.out HL.out).mono ?_
      rintro e w3 ⟨rfl, hg3⟩
      have hb3 := Lib.hid (show Below w.heap.size w w3 from Below.grown hB hg3 (by omega) (fun k hk => by have := (HU.out.lt k hk).1; omega))
      have HC3 := Lib.hid (own_other HU.out HCA.out (by decide) hg3)
      clear hg3
      obtain ⟨s, ok, hab⟩ := exV_shape (outA a b (stepsA a b))
      have HX := Lib.hid hab
      rw [hab]
      clear hab
      cases ok with
      | true =>
        go_wp2
        go_ret3
        exact ⟨s, true, _, HX.out, rfl, fun _ => ownsRow_low hs1 HC3.out, (fun h => by cases h), hb3.out⟩
      | false =>
        obtain rfl := exV_false HX.out
        go_wp2
        go_ret3
        exact ⟨_, false, _, HX.out, rfl, (fun h => by cases h), (fun _ => rfl), hb3.out⟩
end Go.Proofs.YtmondgcehgmamaaGreatDoor

namespace Go.Proofs.YtmondgcehgmamaaGreatDoor
set_option linter.unusedSimpArgs false
set_option linter.unusedVariables false

/-- a list of digits without a leading zero that is the number -/
def Good (l : List UInt8) (n : Int) : Prop := (∀ c ∈ l, bitC c = true) ∧ idxF l = n ∧ l.head? = some 49
theorem idx_pos : ∀ (l : List UInt8), (∀ c ∈ l, bitC c = true) → l.head? = some 49 → 1 ≤ idxF l := by
  intro l
  induction l using rev_ind with
  | h0 => intro _ h; simp at h
  | h1 l c ih =>
    intro hb hh
    have hc := dg_bit (hb c (by simp))
    rw [idxF_snoc]
    cases l with
    | nil =>
      simp at hh
      subst hh
      decide
    | cons a r =>
      have := ih (fun c hc => hb c (by simp at hc ⊢; rcases hc with h | h; exact Or.inl h; exact Or.inr (Or.inl h))) (by simpa using hh)
      omega
theorem good_unique : ∀ (l m : List UInt8) (n : Int), Good l n → Good m n → l = m := by
  intro l
  induction l using rev_ind with
  | h0 => intro m n h; simp [Good] at h
  | h1 l c ih =>
    intro m n h1 h2
    have key : ∃ m' d, m = m' ++ [d] := by
      induction m using rev_ind with
      | h0 => simp [Good] at h2
      | h1 m' d _ => exact ⟨m', d, rfl⟩
    obtain ⟨m', d, rfl⟩ := key
    obtain ⟨b1, i1, g1⟩ := h1
    obtain ⟨b2, i2, g2⟩ := h2
    rw [idxF_snoc] at i1 i2
    have hc := dg_bit (b1 c (by simp))
    have hd := dg_bit (b2 d (by simp))
    have e1 : dg c = dg d := by omega
    have e2 : idxF l = idxF m' := by omega
    have hcd : c = d := by rw [← bitc_dg (b1 c (by simp)), ← bitc_dg (b2 d (by simp)), e1]
    subst hcd
    cases hl : l with
    | nil =>
      cases hm : m' with
      | nil => rfl
      | cons a r =>
        exfalso
        have : 1 ≤ idxF m' := idx_pos m' (fun c hc => b2 c (by simp [hc])) (by rw [hm] at g2 ⊢; simpa using g2)
        rw [← e2, hl] at this
        simp [idxF] at this
    | cons a r =>
      cases hm : m' with
      | nil =>
        exfalso
        have : 1 ≤ idxF l := idx_pos l (fun c hc => b1 c (by simp [hc])) (by rw [hl] at g1 ⊢; simpa using g1)
        rw [e2, hm] at this
        simp [idxF] at this
      | cons a' r' =>
        rw [← hl, ← hm]
        rw [ih m' (idxF l) ⟨fun c hc => b1 c (by simp [hc]), rfl, by rw [hl] at g1 ⊢; simpa using g1⟩ ⟨fun c hc => b2 c (by simp [hc]), e2.symm, by rw [hm] at g2 ⊢; simpa using g2⟩]

/-- the binary digits of a number, so many and one, the highest first -/
def bl : Nat → Nat → List UInt8
  | 0, n => [bitc ((n % 2 : Nat) : Int)]
  | K + 1, n => bl K (n / 2) ++ [bitc ((n % 2 : Nat) : Int)]
theorem bl_len (K : Nat) : ∀ n, (bl K n).length = K + 1 := by
  induction K with
  | zero => intro n; rfl
  | succ K ih => intro n; simp [bl, ih]
theorem bl_bits (K : Nat) : ∀ n, ∀ c ∈ bl K n, bitC c = true := by
  induction K with
  | zero => intro n c h; simp [bl] at h; rw [h]; exact bitc_bit _
  | succ K ih =>
    intro n c h
    simp only [bl, List.mem_append, List.mem_singleton] at h
    rcases h with h | h
    · exact ih _ c h
    · rw [h]; exact bitc_bit _
theorem dg_bitm (n : Nat) : dg (bitc ((n % 2 : Nat) : Int)) = ((n % 2 : Nat) : Int) := dg_bitc (by omega)
theorem bl_idx (K : Nat) : ∀ n, n / 2 ^ K < 2 → idxF (bl K n) = n := by
  induction K with
  | zero =>
    intro n h
    rw [Nat.pow_zero, Nat.div_one] at h
    have : idxF (bl 0 n) = 2 * 0 + dg (bitc ((n % 2 : Nat) : Int)) := by simp [bl, idxF]
    rw [this, dg_bitm]; omega
  | succ K ih =>
    intro n h
    rw [Nat.pow_succ', ← Nat.div_div_eq_div_mul] at h
    simp only [bl]
    rw [idxF_snoc, ih _ h, dg_bitm]; omega
theorem bl_head (K : Nat) : ∀ n, n / 2 ^ K = 1 → (bl K n).head? = some 49 := by
  induction K with
  | zero => intro n h; rw [Nat.pow_zero, Nat.div_one] at h; subst h; rfl
  | succ K ih =>
    intro n h
    rw [Nat.pow_succ', ← Nat.div_div_eq_div_mul] at h
    have := ih _ h
    simp only [bl]
    rw [List.head?_append, this]; rfl
theorem bl_good {K n : Nat} (h : n / 2 ^ K = 1) : Good (bl K n) n := ⟨bl_bits K n, bl_idx K n (by omega), bl_head K n h⟩
theorem bl_at (K : Nat) : ∀ n t, t ≤ K → (bl K n)[t]? = some (bitc ((n / 2 ^ (K - t) % 2 : Nat) : Int)) := by
  induction K with
  | zero => intro n t h; obtain rfl : t = 0 := by omega
            simp [bl]
  | succ K ih =>
    intro n t h
    simp only [bl]
    by_cases ht : t ≤ K
    · rw [List.getElem?_append_left (by rw [bl_len]; omega), ih _ t ht, Nat.div_div_eq_div_mul, ← Nat.pow_succ', show (K - t).succ = K + 1 - t by omega]
    · obtain rfl : t = K + 1 := by omega
      rw [List.getElem?_append_right (by rw [bl_len]; omega), bl_len]
      simp

theorem idx_zeros (l : List UInt8) (m : Nat) : idxF (l ++ List.replicate m 48) = idxF l * (2 ^ m : Nat) := by
  induction m with
  | zero => simp
  | succ m ih =>
    rw [List.replicate_succ', ← List.append_assoc, idxF_snoc, ih, Nat.pow_succ]
    have : dg 48 = 0 := rfl
    rw [this]
    push_cast
    grind
theorem idx_ones (l : List UInt8) (m : Nat) : idxF (l ++ List.replicate m 49) + 1 = (idxF l + 1) * (2 ^ m : Nat) := by
  induction m with
  | zero => simp
  | succ m ih =>
    rw [List.replicate_succ', ← List.append_assoc, idxF_snoc, Nat.pow_succ]
    have : dg 49 = 1 := rfl
    rw [this]
    push_cast at ih ⊢
    grind
/-- what follows a text: the digits ahead of the last 0 (if there is one), 1, and zeros -/
def nextR (s : List UInt8) (k : Nat) : List UInt8 := s.take (k - 1) ++ [49] ++ List.replicate (s.length - k) 48
theorem next_good {s : List UInt8} {k : Nat} (hv : vldL s = true) (hk : k ≤ s.length) (h1 : ∀ j, k ≤ j → j < s.length → s[j]? = some 49) (h0 : 1 ≤ k → s[k - 1]? = some 48) : Good (nextR s k) (idxF s + 1) := by
  obtain ⟨l1, l2, l3, l4⟩ := (vldL_iff s).1 hv
  refine ⟨?_, ?_, ?_⟩
  · intro c hc
    simp only [nextR, List.mem_append, List.mem_singleton, List.mem_replicate] at hc
    rcases hc with (hc | hc) | hc
    · exact l4 c (List.mem_of_mem_take hc)
    · rw [hc]; rfl
    · rw [hc.2]; rfl
  · have hones : s = s.take k ++ List.replicate (s.length - k) 49 := by
      apply List.ext_getElem?
      intro j
      by_cases hj : j < k
      · rw [List.getElem?_append_left (by rw [List.length_take]; omega), List.getElem?_take, if_pos hj]
      · rw [List.getElem?_append_right (by rw [List.length_take]; omega), List.length_take]
        by_cases hjl : j < s.length
        · rw [h1 j (by omega) hjl, List.getElem?_replicate, if_pos (by omega)]
        · rw [List.getElem?_eq_none (by omega), List.getElem?_eq_none (by rw [List.length_replicate]; omega)]
    have e : idxF s + 1 = (idxF (s.take k) + 1) * (2 ^ (s.length - k) : Nat) := by
      conv => lhs; rw [hones]
      rw [idx_ones]
    rw [e]
    unfold nextR
    rw [idx_zeros, idxF_snoc]
    have d1 : dg 49 = 1 := rfl
    rw [d1]
    by_cases hk0 : 1 ≤ k
    · have : s.take k = s.take (k - 1) ++ [48] := by
        conv => lhs; rw [show k = k - 1 + 1 by omega]
        rw [List.take_add_one, h0 hk0]; rfl
      rw [this, idxF_snoc]
      have d0 : dg 48 = 0 := rfl
      rw [d0]; congr 1; omega
    · obtain rfl : k = 0 := by omega
      simp [idxF]
  · unfold nextR
    by_cases hk2 : 2 ≤ k
    · rcases l3 with h | h
      · rw [h] at hk; simp at hk; omega
      · cases s with
        | nil => simp at l1
        | cons c r =>
          have hc := l4 c (by simp)
          rw [bitC_iff] at hc
          have hc9 : c = 49 := by
            rcases hc with hc | hc
            · exfalso; apply h; simp; exact UInt8.toNat_inj.1 (by rw [hc]; rfl)
            · exact UInt8.toNat_inj.1 (by rw [hc]; rfl)
          obtain ⟨q, rfl⟩ : ∃ q, k = q + 2 := ⟨k - 2, by omega⟩
          simp [hc9]
    · have : s.take (k - 1) = [] := by rw [show k - 1 = 0 by omega]; rfl
      rw [this]; rfl
end Go.Proofs.YtmondgcehgmamaaGreatDoor

namespace Go.Proofs.YtmondgcehgmamaaGreatDoor
set_option linter.unusedSimpArgs false
set_option linter.unusedVariables false
open Go.RowKit

theorem set_same {w : World} {g o : Nat} {u v : Value} (h : w.cell? ⟨g, o, none⟩ = some u) : (w.setCell ⟨g, o, none⟩ v).cell? ⟨g, o, none⟩ = some v := by
  go_simp
theorem set_other {w : World} {g o o' : Nat} {v : Value} (hne : o' ≠ o) : (w.setCell ⟨g, o, none⟩ v).cell? ⟨g, o', none⟩ = w.cell? ⟨g, o', none⟩ := by
  simp only [World.setCell, World.cell?, Array.getElem?_modify, if_true]
  cases w.heap[g]? with
  | none => rfl
  | some x => cases x <;> simp [Array.getElem?_setIfInBounds, Ne.symm hne]
theorem set_froz {w : World} {g o o' : Nat} {v : Value} : (w.setCell ⟨g, o, none⟩ v).frozen? ⟨g, o', none⟩ = w.frozen? ⟨g, o', none⟩ := by
  simp only [World.setCell, World.frozen?, Array.getElem?_modify, if_true]
  cases w.heap[g]? with
  | none => rfl
  | some x => cases x <;> rfl
/-- the first marks are there -/
def Marked (g n : Nat) (w : World) : Prop := ∀ j, j < n → w.cell? ⟨g, j, none⟩ = some (.int .i64 (j + 1 : Nat))
def Open (g n : Nat) (w : World) : Prop := ∀ j, j < n → (∃ u, w.cell? ⟨g, j, none⟩ = some u) ∧ w.frozen? ⟨g, j, none⟩ = false
theorem Open.set {g n o : Nat} {w : World} {v : Value} (h : Open g n w) : Open g n (w.setCell ⟨g, o, none⟩ v) := fun j hj => by
  refine ⟨?_, set_froz.trans (h j hj).2⟩
  by_cases e : j = o
  · subst e; obtain ⟨u, hu⟩ := (h j hj).1; exact ⟨v, set_same hu⟩
  · rw [set_other e]; exact (h j hj).1
theorem Marked.set {g n m : Nat} {w : World} (h : Marked g n w) (ho : Open g m w) (hn : n < m) : Marked g (n + 1) (w.setCell ⟨g, n, none⟩ (.int .i64 (n + 1 : Nat))) := fun j hj => by
  by_cases e : j = n
  · subst e; obtain ⟨u, hu⟩ := (ho j hn).1; exact set_same hu
  · rw [set_other e]; exact h j (by omega)
theorem grown_set {w w' : World} {g o : Nat} {v : Value} (h : w.grownBy w' (some g)) : w.grownBy (w'.setCell ⟨g, o, none⟩ v) (some g) :=
  ⟨h.os, h.tape, h.output, by simpa [World.setCell] using h.size, fun k hk hne => (Below.heap_setCell _ _ _ _ (fun e => hne (by rw [e]))).trans (h.block k hk hne)⟩
end Go.Proofs.YtmondgcehgmamaaGreatDoor

namespace Go.Proofs.YtmondgcehgmamaaGreatDoor
set_option linter.unusedSimpArgs false
set_option linter.unusedVariables false
open Go.RowKit

theorem bs_sz (l : List UInt8) : (bs l).size = l.length := by rw [← toL_len, toL_bs]
theorem bs_cat (l m : List UInt8) : bs l ++ bs m = bs (l ++ m) := toL_ext (by rw [toL_bs]; simp [toL, bs, ByteArray.data_append])
/-- the one cell of the library's table that is read -/
def Two (w : World) : Prop := w.cell? ⟨7, 1, none⟩ = some (.int .u8 1)
theorem Two.keep {w w' : World} (h : Two w) {B : Nat} (hB : 7 < B) (hb : Below B w w') : Two w' := (hb.cell (p := ⟨7, 1, none⟩) hB).trans h
theorem isPow_c (w : World) : Calls Tryz.prog 201 #[.int .i64 2] w fun e w' => e = .returned (.bool true) ∧ w = w' := by
  have h : bits .and .i64 2 1 = 0 := by decide
  go_enter Tryz.func201, Tryz.ntmps201
  go_wp2
  go_ret
  exact ⟨rfl, rfl⟩
theorem tz64D_c (w : World) (h : Two w) : Calls Tryz.prog 232 #[.int .u64 2] w fun e w' => e = .returned (.int .i64 1) ∧ w = w' := by
  unfold Two at h
  have h1 : IntKind.u64.wrap (bits BinOp.and IntKind.u64 2 (IntKind.u64.wrap (-2)) * 285870213051353865) / 288230376151711744 = 1 := by decide
  go_enter Tryz.func232, Tryz.ntmps232
  go_wp2_with (simp only [h1, show (1 : Int).toNat = 1 from rfl])
  go_ret
  exact ⟨rfl, rfl⟩
theorem tzD_c (w : World) (h : Two w) : Calls Tryz.prog 202 #[.int .u64 2] w fun e w' => e = .returned (.int .i64 1) ∧ w = w' := by
  have H := Lib.hid h
  clear h
  go_enter Tryz.func202, Tryz.ntmps202
  go_wp2_with (go_at_call 232; refine (tz64D_c _ H.out).mono ?_; rintro e w' ⟨rfl, rfl⟩)
  go_ret
  exact ⟨rfl, rfl⟩
theorem open_alloc (w : World) (C : Array Value) (t : TypeId) (n : Nat) (h : C.size = n) : Open w.heap.size n (w.alloc (.cells C t)) := by
  intro j hj
  refine ⟨⟨C[j]'(by omega), ?_⟩, ?_⟩
  · rw [World.cell?_alloc_new]; simp [h, hj]
  · rw [frozen?_alloc_cells]; simp [World.frozen?]
theorem zero65 (w : World) : Sem.run Tryz.prog (zeroValue 206) w = .ok (.agg (Array.replicate 65 (.int .u8 0))) w := by kernel_rfl
def FbRel (n : Nat) (w : World) (m : Nat) (u i : Value) (wr : World) : Prop :=
  ∃ k : Nat, k + m = 60 ∧ k ≤ 51 ∧ u = .int .u64 (n / 2 ^ k : Nat) ∧ i = .int .i64 (65 - k : Nat) ∧ 1 ≤ n / 2 ^ k ∧ (∀ j, j < k → wr.cell? ⟨w.heap.size, 64 - j, none⟩ = some (encB (bitc ((n / 2 ^ j % 2 : Nat) : Int)))) ∧ Open w.heap.size 65 wr ∧ Below w.heap.size w wr
def FbPost (n : Nat) (w : World) (e : Ending) (w' : World) : Prop := ∃ l, e = .returned (.tuple #[.slice none 0 0, .string (bs l)]) ∧ Good l n ∧ Below w.heap.size w w'
theorem and_one (q : Nat) (hq : q < 18446744073709551616) : bits .and .u64 (q : Int) 1 = ((q % 2 : Nat) : Int) := by
  have := u64_and_nat q 1 hq (by omega)
  rw [Nat.and_one_is_mod] at this
  exact this
theorem FbRel.cells {n k : Nat} {w wr : World} {d : Nat} (h : ∀ j, j < k → wr.cell? ⟨w.heap.size, 64 - j, none⟩ = some (encB (bitc ((n / 2 ^ j % 2 : Nat) : Int)))) (ho : Open w.heap.size 65 wr) (hk : k ≤ 64) (hd : n / 2 ^ k % 2 = d) {x : Int} (hx : .int .u8 x = encB (bitc (d : Int))) :
    ∀ j, j < k + 1 → (wr.setCell ⟨w.heap.size, 64 - k, none⟩ (.int .u8 x)).cell? ⟨w.heap.size, 64 - j, none⟩ = some (encB (bitc ((n / 2 ^ j % 2 : Nat) : Int))) := by
  intro j hj
  by_cases e : j = k
  · subst e
    obtain ⟨u, hu⟩ := (ho (64 - j) (by omega)).1
    rw [set_same hu, hx, hd]
  · rw [set_other (by omega)]; exact h j (by omega)
theorem slice_c (b k : Nat) (W : World) (hk : k ≤ 64) : (Instr.sliceAt 206 (.pointer (some ⟨b, 0, none⟩)) (some (.int .i64 ((64 - k : Nat) : Int))) none none).run Tryz.prog W = .ok (.slice (some ⟨b, 64 - k, none⟩) (k + 1) (k + 1)) W := by
  have hA : Tryz.prog.arrayLen 206 = 65 := by kernel_rfl
  rw [run_sliceAt_array_l W _ _ (by kernel_rfl) .i64 _ (by omega) (by rw [hA]; omega), hA, Int.toNat_natCast]
  have hE : Tryz.prog.elem 206 = 5 := by kernel_rfl
  rw [hE]
  have hS : (sizeOf 5).run Tryz.prog W = .ok 1 W := by kernel_rfl
  rw [hS]
  show Result.ok (slicedAt _ _ _ _ _) W = _
  unfold slicedAt
  rw [if_neg (by omega)]
  simp [Addr.add]
  omega
theorem conv_c (b k n : Nat) (W : World) (hk : k ≤ 64) (hW : ∀ j, j < k + 1 → W.cell? ⟨b, 64 - j, none⟩ = some (encB (bitc ((n / 2 ^ j % 2 : Nat) : Int)))) : (convert 22 9 (.slice (some ⟨b, 64 - k, none⟩) (k + 1) (k + 1))).run Tryz.prog W = .ok (.string (bs (bl k n))) W := by
  have e := run_convert_bytes_back (P := Tryz.prog) W 22 9 5 ⟨b, 64 - k, none⟩ (k + 1) (bl k n) Tryz.underlying22 Tryz.underlying5 Tryz.underlying9 (fun j hj => by
    have hj2 : j < k + 1 := by have := bl_len k n; omega
    rw [show (⟨b, 64 - k, none⟩ : Addr).add j = ⟨b, 64 - (k - j), none⟩ by rw [Addr.add_lit, show 64 - k + j = 64 - (k - j) by omega]]
    rw [hW (k - j) (by omega)]
    have h2 := bl_at k n j (by omega)
    rw [List.getElem?_eq_getElem (by rw [bl_len]; omega)] at h2
    rw [Option.some.inj h2]; rfl)
  rw [bl_len] at e
  exact e

set_option maxRecDepth 100000 in
set_option maxHeartbeats 8000000 in
theorem formatBits_c (n : Nat) (w : World) (hn : 1 ≤ n) (hn2 : n ≤ 2251799813685247) (hT : Two w) (h6 : 7 < w.heap.size) : Calls Tryz.prog 149 #[.slice none 0 0, .int .u64 n, .int .i64 2, .bool false, .bool false] w (FbPost n w) := by
  have HT := Lib.hid hT
  clear hT
  go_enter Tryz.func149, Tryz.ntmps149
  go_wp2_with (rw [zero65])
  generalize hW : World.alloc _ _ = W0
  have hO := Lib.hid (show Open w.heap.size 65 W0 by rw [← hW]; exact open_alloc w _ _ 65 rfl)
  have hB0 := Lib.hid (show Below w.heap.size w W0 by rw [← hW]; (first | ((repeat' with_reducible first | assumption | exact Below.refl _ _ | apply Blw.alloc | apply Blw.drew | apply Blw.drewN | (refine Blw.after ?_ (by assumption)) | (refine Blw.set ?_ (by first | (dsimp only; omega) | (simp; omega)) _)); done) | (repeat' (first | assumption | exact Below.refl _ _ | apply Blw.alloc | apply Blw.drew | apply Blw.drewN | (refine Blw.after ?_ (by assumption)) | (refine Blw.set ?_ (by first | (dsimp only; omega) | (simp; done) | (simp; omega)) _)))))
  have HT0 := Lib.hid (HT.out.keep h6 hB0.out)
  clear hW
  go_wp2_with (first | (go_at_call 201; refine (isPow_c _).mono ?_; rintro e w' ⟨rfl, rfl⟩) | (go_at_call 202; refine (tzD_c _ HT0.out).mono ?_; rintro e w' ⟨rfl, rfl⟩))
  have S0 := Lib.hid (show FbRel n w 60 (.int .u64 n) (.int .i64 65) W0 from ⟨0, by omega, by omega, by rw [Nat.pow_zero, Nat.div_one], rfl, by rw [Nat.pow_zero, Nat.div_one]; exact hn, fun j hj => by omega, hO.out, hB0.out⟩)
  go_loopg [1, 13] 60 (fun m u i wr => FbRel n w m u i wr)
  case atStart => exact S0.out
  case round =>
    clear S0
    obtain ⟨k, hk, hk51, rfl, rfl, hq1, hc, ho, hB⟩ := hrel
    have HC := Lib.hid hc
    have HO := Lib.hid ho
    have hqn : n / 2 ^ k ≤ n := Nat.div_le_self _ _
    obtain ⟨⟨u0, c0⟩, f0⟩ := ho (64 - k) (by omega)
    have e1 : (((65 - k : Nat) : Int) - 1) = ((64 - k : Nat) : Int) := by omega
    clear hc ho
    by_cases h2 : 2 ≤ n / 2 ^ k
    · have hk50 : k + 1 ≤ 51 := by
        apply Nat.le_of_not_lt
        intro hlt
        have h51 : k = 51 := by omega
        rw [h51] at h2
        have := (Nat.le_div_iff_mul_le (by decide)).1 h2
        have e : (2 : Nat) ^ 51 = 2251799813685248 := by decide
        rw [e] at this
        omega
      have HD := Lib.hid (show n / 2 ^ (k + 1) = n / 2 ^ k / 2 by rw [Nat.pow_succ, ← Nat.div_div_eq_div_mul])
      have ha := and_one (n / 2 ^ k) (by omega)
      rcases Nat.mod_two_eq_zero_or_one (n / 2 ^ k) with hm | hm
      all_goals
        rw [hm] at ha
        have HCE := Lib.hid (fun x hx => FbRel.cells (d := _) (x := x) HC.out HO.out (by omega) hm hx)
        clear hm
        generalize hq : n / 2 ^ k = q at *
        have HQ := Lib.hid hq
        clear hq
        go_wp2
        go_roundg (gk - 1)
        case measure => omega
        case rel => exact ⟨k + 1, by omega, hk50, by rw [HD.out]; rfl, by congr 1; omega, by rw [HD.out]; omega, HCE.out _ rfl, HO.out.set, by (first | ((repeat' with_reducible first | assumption | exact Below.refl _ _ | apply Blw.alloc | apply Blw.drew | apply Blw.drewN | (refine Blw.after ?_ (by assumption)) | (refine Blw.set ?_ (by first | (dsimp only; omega) | (simp; omega)) _)); done) | (repeat' (first | assumption | exact Below.refl _ _ | apply Blw.alloc | apply Blw.drew | apply Blw.drewN | (refine Blw.after ?_ (by assumption)) | (refine Blw.set ?_ (by first | (dsimp only; omega) | (simp; done) | (simp; omega)) _))))⟩
    · have hq : n / 2 ^ k = 1 := by omega
      have HQ := Lib.hid hq
      have HCE := Lib.hid (fun x hx => FbRel.cells (d := 1) (x := x) HC.out HO.out (by omega) (by rw [hq]) hx)
      rw [hq]
      clear hq
      have hsl := fun W => slice_c w.heap.size k W (by omega)
      have hcv := fun W hW => conv_c w.heap.size k n W (by omega) hW
      go_wp2_with (rw [hcv]; rotate_left; exact HCE.out _ rfl)
      go_ret2
      exact ⟨bl k n, rfl, bl_good HQ.out, by (first | ((repeat' with_reducible first | assumption | exact Below.refl _ _ | apply Blw.alloc | apply Blw.drew | apply Blw.drewN | (refine Blw.after ?_ (by assumption)) | (refine Blw.set ?_ (by first | (dsimp only; omega) | (simp; omega)) _)); done) | (repeat' (first | assumption | exact Below.refl _ _ | apply Blw.alloc | apply Blw.drew | apply Blw.drewN | (refine Blw.after ?_ (by assumption)) | (refine Blw.set ?_ (by first | (dsimp only; omega) | (simp; done) | (simp; omega)) _))))⟩
end Go.Proofs.YtmondgcehgmamaaGreatDoor

namespace Go.Proofs.YtmondgcehgmamaaGreatDoor
set_option linter.unusedSimpArgs false
set_option linter.unusedVariables false
open Go.ChangeShapes Go.WideShapes Go.ChangeAt Go.RowKit Go.Joins

section
variable {H : Type} {enc : TypeId × Value → H} {P : Program} {w : World} {base : Nat} {spare : Nat → Bool} {held : Bool} {fuel : Nat} {t : TypeId} {cs : List Value}
theorem rd_int {k : IntKind} {n : Int} {p : List MemPlace} (ht : P.underlying t = some (.int k)) (h : DataW.trod enc P w base spare held fuel t cs = some (.lit (.int k n), p)) : cs = [.int k n] := by
  obtain ⟨m, e1, e2, _⟩ := DataW.trod_int ht h
  simp only [Prod.mk.injEq, DataW.lit.injEq, Lit.int.injEq, true_and] at e2
  rw [e1, e2.1]
theorem rd_str {l : List UInt8} {p : List MemPlace} (ht : P.underlying t = some .string) (h : DataW.trod enc P w base spare held fuel t cs = some (.lit (.string l), p)) : cs = [.string (bs l)] := by
  obtain ⟨s, e1, e2, _⟩ := DataW.trod_string ht h
  simp only [Prod.mk.injEq, DataW.lit.injEq, Lit.string.injEq] at e2
  rw [e1, e2.1]
  rw [show s.data.toList = toL s from rfl, bs_toL]
theorem rd_struct {fs : Array Field} {ds : List (DataW H)} {p : List MemPlace} (ht : P.underlying t = some (.struct fs)) (h : DataW.trod enc P w base spare held fuel t cs = some (.agg ds, p)) {i : Nat} {f : Field} {d : DataW H} (hf : fs[i]? = some f) (hd : ds[i]? = some d) {ft : TypeId} {fo c : Nat} (e1 : f.type = ft) (e2 : f.offset = fo) (e3 : P.cellsOf ft = c) :
    ∃ m q, DataW.trod enc P w base spare held m ft ((cs.drop fo).take c) = some (d, q) := by
  subst e1 e2 e3
  obtain ⟨xs, n, _, e, _, _, hx⟩ := DataW.trod_struct ht h
  simp only [Prod.mk.injEq, DataW.agg.injEq] at e
  have h1 := hx i f hf
  rw [e.1, List.getElem?_map] at hd
  cases hxi : xs[i]? with
  | none => rw [hxi] at hd; simp at hd
  | some x =>
    rw [hxi] at hd h1
    simp only [Option.map_some, Option.some.injEq] at hd
    exact ⟨n, x.2, by rw [h1, ← hd]⟩
theorem rd_array {n : Nat} {e : TypeId} {ds : List (DataW H)} {p : List MemPlace} (ht : P.underlying t = some (.array n e)) (h : DataW.trod enc P w base spare held fuel t cs = some (.agg ds, p)) {i : Nat} {d : DataW H} (hi : i < n) (hd : ds[i]? = some d) :
    ∃ m q, DataW.trod enc P w base spare held m e ((cs.drop (i * P.cellsOf e)).take (P.cellsOf e)) = some (d, q) := by
  obtain ⟨xs, m, _, e, _, _, hx⟩ := DataW.trod_array ht h
  simp only [Prod.mk.injEq, DataW.agg.injEq] at e
  have h1 := hx i hi
  rw [e.1, List.getElem?_map] at hd
  cases hxi : xs[i]? with
  | none => rw [hxi] at hd; simp at hd
  | some x =>
    rw [hxi] at hd h1
    simp only [Option.map_some, Option.some.injEq] at hd
    exact ⟨m, x.2, by rw [h1, ← hd]⟩
theorem at_of_one {l : List Value} {a n k : Nat} {v : Value} (h : (((l.drop a).take n).drop k).take 1 = [v]) (hk : k < n) : l[a + k]? = some v := by
  have e : ((((l.drop a).take n).drop k).take 1)[0]? = some v := by rw [h]; rfl
  rw [List.getElem?_take, if_pos (by omega), List.getElem?_drop, List.getElem?_take, if_pos (by omega), List.getElem?_drop] at e
  simpa using e
theorem drop_take (l : List Value) (a n b m : Nat) (h : b + m ≤ n) : (((l.drop a).take n).drop b).take m = (l.drop (a + b)).take m := by
  apply List.ext_getElem?
  intro i
  simp only [List.getElem?_take, List.getElem?_drop]
  by_cases hi : i < m
  · rw [if_pos hi, if_pos hi, if_pos (by omega), Nat.add_assoc]
  · rw [if_neg hi, if_neg hi]
end
end Go.Proofs.YtmondgcehgmamaaGreatDoor

namespace Go.Proofs.YtmondgcehgmamaaGreatDoor
set_option linter.unusedSimpArgs false
set_option linter.unusedVariables false

/-- a byte is a letter of a word -/
def wdC (c : UInt8) : Bool := c == 108 || c == 114
theorem wdC_iff (c : UInt8) : wdC c = true ↔ c.toNat = 108 ∨ c.toNat = 114 := by
  unfold wdC
  rw [Bool.or_eq_true, beq_iff_eq, beq_iff_eq, ← UInt8.toNat_inj, ← UInt8.toNat_inj]
  rfl
theorem wdC_or {c : UInt8} (h : wdC c = true) : c = 108 ∨ c = 114 := by
  unfold wdC at h
  rw [Bool.or_eq_true, beq_iff_eq, beq_iff_eq] at h
  exact h
/-- the other letter -/
def oth (c : UInt8) : UInt8 := if c = 108 then 114 else 108
theorem oth_wd (c : UInt8) : wdC (oth c) = true := by unfold oth; split <;> rfl
theorem oth_oth {c : UInt8} (h : wdC c = true) : oth (oth c) = c := by
  rcases wdC_or h with rfl | rfl <;> rfl
theorem oth_ne {c : UInt8} (h : wdC c = true) : oth c ≠ c := by
  rcases wdC_or h with rfl | rfl <;> decide
def onlyW (s : ByteArray) : Bool := (toL s).all wdC
theorem onlyW_bad {s : ByteArray} (k : Nat) (hk : k < s.size) (h : ¬ (s[k].toNat = 108 ∨ s[k].toNat = 114)) : onlyW s = false := by
  rw [← Bool.not_eq_true]
  intro e
  exact h ((wdC_iff _).1 (List.all_eq_true.1 e _ (List.mem_of_getElem? (toL_get s k hk))))
theorem onlyW_good {s : ByteArray} (h : ∀ c ∈ toL s, wdC c = true) : onlyW s = true := List.all_eq_true.2 h
theorem onlyW_all {s : ByteArray} (h : onlyW s = true) : ∀ c ∈ toL s, wdC c = true := List.all_eq_true.1 h
/-- a word of at most so many letters -/
def wdB (n : Nat) (s : ByteArray) : Bool := decide (s.size ≤ n) && onlyW s
theorem wdB_len {n : Nat} {s : ByteArray} (h : wdB n s = true) : s.size ≤ n := by simp [wdB] at h; exact h.1
theorem wdB_only {n : Nat} {s : ByteArray} (h : wdB n s = true) : onlyW s = true := by simp [wdB] at h; exact h.2
theorem wdB_all {n : Nat} {s : ByteArray} (h : wdB n s = true) : ∀ c ∈ toL s, wdC c = true := onlyW_all (wdB_only h)
theorem wdB_long {n : Nat} {s : ByteArray} (h : n < s.size) : wdB n s = false := by simp [wdB]; omega
theorem wdB_of {n : Nat} {s : ByteArray} (h : s.size ≤ n) : wdB n s = onlyW s := by simp [wdB, h]
theorem wdB_at {n : Nat} {s : ByteArray} (h : wdB n s = true) (k : Nat) (hk : k < s.size) : s[k].toNat = 108 ∨ s[k].toNat = 114 :=
  (wdC_iff _).1 (wdB_all h _ (List.mem_of_getElem? (toL_get s k hk)))

/-! ### turned back -/
def backL (l : List UInt8) : List UInt8 := (l.map oth).reverse
theorem backL_len (l : List UInt8) : (backL l).length = l.length := by simp [backL]
theorem backL_append (a b : List UInt8) : backL (a ++ b) = backL b ++ backL a := by simp [backL]
theorem backL_one (c : UInt8) : backL [c] = [oth c] := rfl
theorem backL_cons (c : UInt8) (l : List UInt8) : backL (c :: l) = backL l ++ [oth c] := by simp [backL]
theorem backL_snoc (c : UInt8) (l : List UInt8) : backL (l ++ [c]) = oth c :: backL l := by simp [backL]
theorem backL_back {l : List UInt8} (h : ∀ c ∈ l, wdC c = true) : backL (backL l) = l := by
  induction l with
  | nil => rfl
  | cons a r ih =>
    rw [backL_cons, backL_append, ih (fun c hc => h c (by simp [hc])), backL_one, oth_oth (h a (by simp))]; rfl
theorem backL_wd (l : List UInt8) : ∀ c ∈ backL l, wdC c = true := by
  intro c hc
  simp [backL] at hc
  obtain ⟨a, _, rfl⟩ := hc
  exact oth_wd a
theorem backL_get (l : List UInt8) (k : Nat) (h : k < l.length) : (backL l)[k]? = (l[l.length - 1 - k]?).map oth := by
  have h1 : k < (l.map oth).length := by simpa using h
  unfold backL
  rw [List.getElem?_reverse h1, List.length_map, List.getElem?_map]

/-! ### words of turns -/
def turnsL (l : List UInt8) : List UInt8 := l.foldl (fun o c => o ++ [c] ++ backL o) []
theorem turnsL_nil : turnsL [] = [] := rfl
theorem turnsL_snoc (l : List UInt8) (c : UInt8) : turnsL (l ++ [c]) = turnsL l ++ [c] ++ backL (turnsL l) := by simp [turnsL]
theorem turnsL_len (l : List UInt8) : (turnsL l).length + 1 = 2 ^ l.length := by
  induction l using rev_ind with
  | h0 => rfl
  | h1 l c ih =>
    rw [turnsL_snoc, List.length_append, List.length_append, backL_len, List.length_append]
    simp only [List.length_singleton, Nat.pow_succ]
    omega
theorem turnsL_wd (l : List UInt8) (h : ∀ c ∈ l, wdC c = true) : ∀ c ∈ turnsL l, wdC c = true := by
  induction l using rev_ind with
  | h0 => intro c hc; simp [turnsL] at hc
  | h1 l c ih =>
    intro d hd
    rw [turnsL_snoc] at hd
    simp only [List.mem_append, List.mem_singleton] at hd
    rcases hd with (hd | hd) | hd
    · exact ih (fun c hc => h c (by simp [hc])) d hd
    · exact h d (by simp [hd])
    · exact backL_wd _ d hd
/-- the letter at 2 to the power of j times the odd number o -/
def turnV (cs : List UInt8) (j o : Nat) : UInt8 := if o % 4 = 1 then cs[j]?.getD 0 else oth (cs[j]?.getD 0)
theorem turnV_ext {cs : List UInt8} {c : UInt8} {j o : Nat} (h : j < cs.length) : turnV (cs ++ [c]) j o = turnV cs j o := by
  unfold turnV; rw [List.getElem?_append_left h]
theorem pow_dvd4 {k : Nat} (h : 2 ≤ k) : ∃ q, 2 ^ k = 4 * q := ⟨2 ^ (k - 2), by
  have : k = 2 + (k - 2) := by omega
  rw [this, Nat.pow_add]; simp⟩
theorem pow_even {k : Nat} (h : 1 ≤ k) : 2 ^ k % 2 = 0 := by
  obtain ⟨m, rfl⟩ : ∃ m, k = m + 1 := ⟨k - 1, by omega⟩
  rw [Nat.pow_succ]; omega
theorem two_pos (k : Nat) : 0 < 2 ^ k := Nat.pow_pos (by omega)
theorem exp_lt {j n o : Nat} (ho : o % 2 = 1) (h : 2 ^ j * o < 2 ^ n) : j < n := by
  have h1 : 2 ^ j ≤ 2 ^ j * o := Nat.le_mul_of_pos_right _ (by omega)
  exact (Nat.pow_lt_pow_iff_right (by omega : 1 < 2)).1 (Nat.lt_of_le_of_lt h1 h)
/-- what is left up to the power n is odd, too, and 3 where the one is 1 -/
theorem exp_left {j n o : Nat} (ho : o % 2 = 1) (hj : j < n) (h : 2 ^ j * o < 2 ^ n) : 2 ^ n - 2 ^ j * o = 2 ^ j * (2 ^ (n - j) - o) ∧ (2 ^ (n - j) - o) % 2 = 1 ∧ o < 2 ^ (n - j) := by
  have e : 2 ^ n = 2 ^ j * 2 ^ (n - j) := by rw [← Nat.pow_add]; congr 1; omega
  have hlt : o < 2 ^ (n - j) := by rw [e] at h; exact Nat.lt_of_mul_lt_mul_left h
  refine ⟨by rw [e, Nat.mul_sub], ?_, hlt⟩
  have := pow_even (show 1 ≤ n - j by omega)
  omega
theorem turn_at (cs : List UInt8) : ∀ j o, o % 2 = 1 → 2 ^ j * o < 2 ^ cs.length → (∀ c ∈ cs, wdC c = true) → (turnsL cs)[2 ^ j * o - 1]? = some (turnV cs j o) := by
  induction cs using rev_ind with
  | h0 =>
    intro j o ho h
    have := Nat.mul_pos (two_pos j) (show 0 < o by omega)
    simp at h; omega
  | h1 l c ih =>
    intro j o ho h hw
    have ih := fun j o ho h => ih j o ho h (fun c hc => hw c (by simp [hc]))
    rw [List.length_append, List.length_singleton] at h
    have hlen := turnsL_len l
    have hpos := Nat.mul_pos (two_pos j) (show 0 < o by omega)
    have hsucc : 2 ^ (l.length + 1) = 2 * 2 ^ l.length := by rw [Nat.pow_succ]; omega
    have hj := exp_lt ho h
    rw [turnsL_snoc]
    rcases Nat.lt_trichotomy (2 ^ j * o) (2 ^ l.length) with hc | hc | hc
    · rw [List.append_assoc, List.getElem?_append_left (by omega), ih j o ho hc, turnV_ext (exp_lt ho hc)]
    · have hjl : j = l.length := by
        rcases Nat.lt_or_ge j l.length with hlt | hge
        · exfalso
          have e : 2 ^ l.length = 2 ^ j * 2 ^ (l.length - j) := by rw [← Nat.pow_add]; congr 1; omega
          rw [e] at hc
          have := Nat.eq_of_mul_eq_mul_left (two_pos j) hc
          have := pow_even (show 1 ≤ l.length - j by omega)
          omega
        · omega
      have ho1 : o = 1 := by
        rw [← hjl] at hc
        exact Nat.eq_of_mul_eq_mul_left (two_pos j) (by omega)
      subst ho1
      rw [List.append_assoc, List.getElem?_append_right (by omega), hc, show 2 ^ l.length - 1 - (turnsL l).length = 0 by omega]
      simp [turnV, hjl]
    · have hjl : j < l.length := by
        rcases Nat.lt_or_ge j l.length with hlt | hge
        · exact hlt
        · exfalso
          obtain rfl : j = l.length := by omega
          have : o < 2 := by
            rw [Nat.pow_succ] at h
            exact Nat.lt_of_mul_lt_mul_left h
          obtain rfl : o = 1 := by omega
          omega
      obtain ⟨e1, e2, e3⟩ := exp_left ho hj h
      have h4 := pow_dvd4 (show 2 ≤ l.length + 1 - j by omega)
      obtain ⟨q, hq⟩ := h4
      have hlo : 2 ^ j * (2 ^ (l.length + 1 - j) - o) < 2 ^ l.length := by rw [← e1]; omega
      have ihx := ih j _ e2 hlo
      rw [← e1] at ihx
      have hk : 2 ^ j * o - 1 - (turnsL l ++ [c]).length < (turnsL l).length := by
        rw [List.length_append, List.length_singleton]; omega
      rw [List.getElem?_append_right (by rw [List.length_append, List.length_singleton]; omega), backL_get _ _ hk]
      rw [List.length_append, List.length_singleton] at hk ⊢
      rw [show (turnsL l).length - 1 - (2 ^ j * o - 1 - ((turnsL l).length + 1)) = 2 ^ (l.length + 1) - 2 ^ j * o - 1 by omega, ihx, turnV_ext hjl]
      have hwj : wdC (l[j]?.getD 0) = true := by
        rw [List.getElem?_eq_getElem hjl]
        exact hw _ (by simp)
      rw [hq]
      rw [hq] at e3
      simp only [Option.map_some, Option.some.injEq, turnV]
      rcases (show o % 4 = 1 ∨ o % 4 = 3 by omega) with h1 | h1
      · have h5 : ¬ (4 * q - o) % 4 = 1 := by omega
        rw [if_pos h1, if_neg h5, oth_oth hwj]
      · have h5 : (4 * q - o) % 4 = 1 := by omega
        have h6 : ¬ o % 4 = 1 := by omega
        rw [if_neg h6, if_pos h5]
/-- the opposite end of a word of turns -/
theorem turn_opp {cs : List UInt8} {j o : Nat} (ho : o % 2 = 1) (h : 2 ^ j * o < 2 ^ cs.length) (hw : ∀ c ∈ cs, wdC c = true) (hm : 2 * (2 ^ j * o) ≠ 2 ^ cs.length) :
    ∃ o', 2 ^ cs.length - 2 ^ j * o = 2 ^ j * o' ∧ o' % 2 = 1 ∧ turnV cs j o' ≠ turnV cs j o := by
  have hj := exp_lt ho h
  obtain ⟨e1, e2, e3⟩ := exp_left ho hj h
  refine ⟨_, e1, e2, ?_⟩
  have h2 : 2 ≤ cs.length - j := by
    rcases Nat.lt_or_ge (cs.length - j) 2 with hlt | hge
    · exfalso
      have e : cs.length - j = 1 := by omega
      rw [e] at e3
      obtain rfl : o = 1 := by omega
      apply hm
      rw [show cs.length = j + 1 by omega, Nat.pow_succ]
      omega
    · exact hge
  obtain ⟨q, hq⟩ := pow_dvd4 h2
  have hwj : wdC (cs[j]?.getD 0) = true := by
    rw [List.getElem?_eq_getElem hj]
    exact hw _ (by simp)
  rw [hq] at e3 ⊢
  unfold turnV
  rcases (show o % 4 = 1 ∨ o % 4 = 3 by omega) with h1 | h1
  · have h5 : ¬ (4 * q - o) % 4 = 1 := by omega
    rw [if_pos h1, if_neg h5]; exact oth_ne hwj
  · have h5 : (4 * q - o) % 4 = 1 := by omega
    have h6 : ¬ o % 4 = 1 := by omega
    rw [if_neg h6, if_pos h5]; exact fun e => oth_ne hwj e.symm

/-! ### folded again -/
/-- the letters at the first powers of 2 -/
def powL (l : List UInt8) (k : Nat) : List UInt8 := (List.range k).map fun j => l[2 ^ j - 1]?.getD 0
theorem powL_succ (l : List UInt8) (k : Nat) : powL l (k + 1) = powL l k ++ [l[2 ^ k - 1]?.getD 0] := by simp [powL, List.range_succ]
theorem powL_len (l : List UInt8) (k : Nat) : (powL l k).length = k := by simp [powL]
theorem powL_turns {cs : List UInt8} (hw : ∀ c ∈ cs, wdC c = true) : powL (turnsL cs) cs.length = cs := by
  apply List.ext_getElem?
  intro j
  by_cases hj : j < cs.length
  · have h := turn_at cs j 1 rfl (by rw [Nat.mul_one]; exact (Nat.pow_lt_pow_iff_right (by omega)).2 hj) hw
    rw [Nat.mul_one] at h
    simp [powL, hj, h, turnV]
  · rw [List.getElem?_eq_none (by rw [powL_len]; omega), List.getElem?_eq_none (by omega)]
/-- the creases of a list, if it is a word of turns -/
def foldO (l : List UInt8) : Option (List UInt8) := if turnsL (powL l (Nat.log2 (l.length + 1))) = l then some (powL l (Nat.log2 (l.length + 1))) else none
theorem foldO_some {cs : List UInt8} (hw : ∀ c ∈ cs, wdC c = true) : foldO (turnsL cs) = some cs := by
  have e : Nat.log2 ((turnsL cs).length + 1) = cs.length := by rw [turnsL_len, Nat.log2_two_pow]
  unfold foldO
  rw [e, powL_turns hw, if_pos rfl]
theorem foldO_turns {l cs : List UInt8} (h : foldO l = some cs) : turnsL cs = l := by
  unfold foldO at h
  split at h
  · next e => rw [← Option.some.inj h]; exact e
  · cases h
theorem foldO_none {l : List UInt8} (hw : ∀ c ∈ l, wdC c = true) (h : ∀ cs : List UInt8, (∀ c ∈ cs, wdC c = true) → turnsL cs ≠ l) : foldO l = none := by
  unfold foldO
  split
  · next e =>
    exfalso
    refine h _ ?_ e
    intro c hc
    simp only [powL, List.mem_map, List.mem_range] at hc
    obtain ⟨j, hj, rfl⟩ := hc
    have hlt : 2 ^ j - 1 < l.length := by
      have h1 : 2 ^ (j + 1) ≤ l.length + 1 := (Nat.le_log2 (by omega)).1 hj
      rw [Nat.pow_succ] at h1
      have := two_pos j
      omega
    rw [List.getElem?_eq_getElem hlt]
    exact hw _ (by simp)
  · rfl
theorem take_snocL {w : List UInt8} {n : Nat} {c : UInt8} (h : w[n]? = some c) : w.take (n + 1) = w.take n ++ [c] := by
  rw [List.take_add_one, h]; rfl
/-- the halving goes on: what is a word of turns is turned back about its middle -/
theorem half_up {w : List UInt8} {n : Nat} {c : UInt8} (h1 : w.length = 2 * n + 1) (hc : w[n]? = some c) (h2 : w.drop (n + 1) = backL (w.take n)) {cs : List UInt8} (h : w.take n = turnsL cs) : w = turnsL (cs ++ [c]) := by
  rw [turnsL_snoc, ← h, ← h2, ← take_snocL hc, List.take_append_drop]
theorem half_down {w : List UInt8} {cs : List UInt8} (h : w = turnsL cs) (h0 : w ≠ []) : ∃ cs' c, cs = cs' ++ [c] ∧ w.length = 2 * (w.length / 2) + 1 ∧ w[w.length / 2]? = some c ∧ w.drop (w.length / 2 + 1) = backL (w.take (w.length / 2)) ∧ w.take (w.length / 2) = turnsL cs' := by
  induction cs using rev_ind with
  | h0 => exact absurd h h0
  | h1 l c _ =>
    refine ⟨l, c, rfl, ?_⟩
    rw [turnsL_snoc] at h
    have hl : w.length = 2 * (turnsL l).length + 1 := by rw [h]; simp [backL_len]; omega
    have hh : w.length / 2 = (turnsL l).length := by omega
    rw [hh]
    refine ⟨by omega, ?_, ?_, ?_⟩
    · rw [h]; simp
    · rw [h, List.append_assoc, List.take_left]
      rw [← List.append_assoc]
      exact List.drop_left' (by simp)
    · rw [h, List.append_assoc, List.take_left]

theorem turnsL_wd_of (o : List UInt8) : (∀ c ∈ turnsL o, wdC c = true) → ∀ c ∈ o, wdC c = true := by
  induction o using rev_ind with
  | h0 => intro _ c hc; simp at hc
  | h1 l a ih =>
    intro h c hc
    rw [turnsL_snoc] at h
    simp only [List.mem_append, List.mem_singleton] at hc
    rcases hc with hc | rfl
    · exact ih (fun d hd => h d (by simp [hd])) c hc
    · exact h c (by simp)
/-- what the halving keeps: the list is the word of turns of what is left and what has come -/
def Half (l t o : List UInt8) : Prop := (∀ cs, t = turnsL cs → l = turnsL (cs ++ o)) ∧ ∀ ds, l = turnsL ds → ∃ cs, ds = cs ++ o ∧ t = turnsL cs
theorem Half.start (l : List UInt8) : Half l l [] := ⟨fun cs h => by rw [List.append_nil]; exact h, fun ds h => ⟨ds, by simp, h⟩⟩
theorem Half.step {l t o : List UInt8} {n : Nat} {c : UInt8} (h : Half l t o) (h1 : t.length = 2 * n + 1) (hc : t[n]? = some c) (h2 : t.drop (n + 1) = backL (t.take n)) : Half l (t.take n) (c :: o) := by
  refine ⟨fun cs hcs => ?_, fun ds hds => ?_⟩
  · have := h.1 _ (half_up h1 hc h2 hcs)
    rw [this]; simp
  · obtain ⟨cs, e, ht⟩ := h.2 ds hds
    obtain ⟨cs', c', e1, e2, e3, e4, e5⟩ := half_down ht (by intro e; rw [e] at h1; simp at h1)
    have hn : t.length / 2 = n := by omega
    rw [hn] at e3 e5
    obtain rfl : c' = c := Option.some.inj (e3.symm.trans hc)
    exact ⟨cs', by rw [e, e1]; simp, e5⟩
theorem Half.bad {l t o : List UInt8} (h : Half l t o) (h0 : t ≠ []) (hb : t.length % 2 = 0 ∨ t.drop (t.length / 2 + 1) ≠ backL (t.take (t.length / 2))) (cs : List UInt8) : turnsL cs ≠ l := by
  intro e
  obtain ⟨cs', e1, ht⟩ := h.2 cs e.symm
  obtain ⟨_, _, _, e2, _, e4, _⟩ := half_down ht h0
  rcases hb with hb | hb
  · omega
  · exact hb e4
theorem Half.done {l o : List UInt8} (h : Half l [] o) : turnsL o = l := by
  have := h.1 [] rfl
  rw [this]; simp

/-! ### sums -/
def sgn (c : UInt8) : Int := if c = 108 then 1 else -1
def sumL (l : List UInt8) : Int := l.foldl (fun n c => n + sgn c) 0
theorem sumL_snoc (l : List UInt8) (c : UInt8) : sumL (l ++ [c]) = sumL l + sgn c := by simp [sumL]
theorem sumL_append (a b : List UInt8) : sumL (a ++ b) = sumL a + sumL b := by
  induction b using rev_ind with
  | h0 => simp [sumL]
  | h1 l c ih => rw [← List.append_assoc, sumL_snoc, sumL_snoc, ih]; omega
theorem sgn_oth {c : UInt8} (h : wdC c = true) : sgn (oth c) = - sgn c := by
  rcases wdC_or h with rfl | rfl <;> rfl
theorem sumL_back {l : List UInt8} (h : ∀ c ∈ l, wdC c = true) : sumL (backL l) = - sumL l := by
  induction l using rev_ind with
  | h0 => rfl
  | h1 l c ih =>
    rw [backL_snoc, show oth c :: backL l = [oth c] ++ backL l from rfl, sumL_append, sumL_snoc, ih (fun c hc => h c (by simp [hc])), show sumL [oth c] = sgn (oth c) by simp [sumL], sgn_oth (h c (by simp))]
    omega
theorem sgn_one (c : UInt8) : sgn c = 1 ∨ sgn c = -1 := by unfold sgn; split; exact Or.inl rfl; exact Or.inr rfl
theorem sumL_in (l : List UInt8) : -(l.length : Int) ≤ sumL l ∧ sumL l ≤ l.length ∧ (sumL l - l.length) % 2 = 0 := by
  induction l using rev_ind with
  | h0 => simp [sumL]
  | h1 l c ih =>
    rw [sumL_snoc, List.length_append, List.length_singleton]
    rcases sgn_one c with h | h <;> rw [h] <;> omega
theorem sumL_unfold {l : List UInt8} (h : ∀ c ∈ l, wdC c = true) (c : UInt8) : sumL (l ++ [c] ++ backL l) = sgn c := by
  rw [sumL_append, sumL_snoc, sumL_back h]; omega
theorem sumL_turns {l : List UInt8} (h : ∀ c ∈ l, wdC c = true) (c : UInt8) : sumL (turnsL (l ++ [c])) = sgn c := by
  rw [turnsL_snoc, sumL_unfold (turnsL_wd l h)]
end Go.Proofs.YtmondgcehgmamaaGreatDoor

namespace Go.Proofs.YtmondgcehgmamaaGreatDoor
set_option linter.unusedSimpArgs false
set_option linter.unusedVariables false
open Go.RowKit

theorem onlyW_XY (s : ByteArray) : onlyXY 108 114 s = onlyW s := by
  unfold onlyXY onlyW
  congr 1
  funext c
  rw [Bool.eq_iff_iff, isXY_iff, wdC_iff]
  omega
theorem letters_c (s : ByteArray) (w : World) : Calls Tryz.prog 75 #[.string s] w fun e w' => e = .returned (.bool (onlyW s)) ∧ Below w.heap.size w w' := by
  have H := Lib.hid (onlyW_XY s)
  go_enter Tryz.func75, Tryz.ntmps75
  go_wp2_with (go_at_call 117; refine (onlyOf_c 108 114 _ _ (by decide) (by decide)).mono ?_; rintro e w1 ⟨rfl, hb⟩; obtain ⟨hc, hf⟩ := bcell hb; have hz := bsize hb; have hs := hb.size; try simp at hs)
  go_ret
  exact ⟨by rw [← H.out]; rfl, by (first | ((repeat' with_reducible first | assumption | exact Below.refl _ _ | apply Blw.alloc | apply Blw.drew | apply Blw.drewN | (refine Blw.after ?_ (by assumption)) | (refine Blw.set ?_ (by first | (dsimp only; omega) | (simp; omega)) _)); done) | (repeat' (first | assumption | exact Below.refl _ _ | apply Blw.alloc | apply Blw.drew | apply Blw.drewN | (refine Blw.after ?_ (by assumption)) | (refine Blw.set ?_ (by first | (dsimp only; omega) | (simp; done) | (simp; omega)) _))))⟩
theorem isWord_c (s : ByteArray) (w : World) : Calls Tryz.prog 188 #[.string s] w fun e w' => e = .returned (.bool (wdB 1023 s)) ∧ Below w.heap.size w w' := by
  by_cases h : s.size ≤ 1023
  · have H := Lib.hid (wdB_of h)
    go_enter Tryz.func188, Tryz.ntmps188
    go_wp2_with (go_at_call 75; refine (letters_c _ _).mono ?_; rintro e w1 ⟨rfl, hb⟩; obtain ⟨hc, hf⟩ := bcell hb; have hz := bsize hb; have hs := hb.size; try simp at hs)
    go_ret
    exact ⟨by rw [H.out]; rfl, by (first | ((repeat' with_reducible first | assumption | exact Below.refl _ _ | apply Blw.alloc | apply Blw.drew | apply Blw.drewN | (refine Blw.after ?_ (by assumption)) | (refine Blw.set ?_ (by first | (dsimp only; omega) | (simp; omega)) _)); done) | (repeat' (first | assumption | exact Below.refl _ _ | apply Blw.alloc | apply Blw.drew | apply Blw.drewN | (refine Blw.after ?_ (by assumption)) | (refine Blw.set ?_ (by first | (dsimp only; omega) | (simp; done) | (simp; omega)) _))))⟩
  · have H := Lib.hid (wdB_long (n := 1023) (s := s) (by omega))
    go_enter Tryz.func188, Tryz.ntmps188
    go_wp2_with (go_at_call 75; refine (letters_c _ _).mono ?_; rintro e w1 ⟨rfl, hb⟩; obtain ⟨hc, hf⟩ := bcell hb; have hz := bsize hb; have hs := hb.size; try simp at hs)
    go_ret
    exact ⟨by rw [H.out]; rfl, by (first | ((repeat' with_reducible first | assumption | exact Below.refl _ _ | apply Blw.alloc | apply Blw.drew | apply Blw.drewN | (refine Blw.after ?_ (by assumption)) | (refine Blw.set ?_ (by first | (dsimp only; omega) | (simp; omega)) _)); done) | (repeat' (first | assumption | exact Below.refl _ _ | apply Blw.alloc | apply Blw.drew | apply Blw.drewN | (refine Blw.after ?_ (by assumption)) | (refine Blw.set ?_ (by first | (dsimp only; omega) | (simp; done) | (simp; omega)) _))))⟩
theorem areCreases_c (s : ByteArray) (w : World) : Calls Tryz.prog 50 #[.string s] w fun e w' => e = .returned (.bool (wdB 10 s)) ∧ Below w.heap.size w w' := by
  by_cases h : s.size ≤ 10
  · have H := Lib.hid (wdB_of h)
    go_enter Tryz.func50, Tryz.ntmps50
    go_wp2_with (go_at_call 75; refine (letters_c _ _).mono ?_; rintro e w1 ⟨rfl, hb⟩; obtain ⟨hc, hf⟩ := bcell hb; have hz := bsize hb; have hs := hb.size; try simp at hs)
    go_ret
    exact ⟨by rw [H.out]; rfl, by (first | ((repeat' with_reducible first | assumption | exact Below.refl _ _ | apply Blw.alloc | apply Blw.drew | apply Blw.drewN | (refine Blw.after ?_ (by assumption)) | (refine Blw.set ?_ (by first | (dsimp only; omega) | (simp; omega)) _)); done) | (repeat' (first | assumption | exact Below.refl _ _ | apply Blw.alloc | apply Blw.drew | apply Blw.drewN | (refine Blw.after ?_ (by assumption)) | (refine Blw.set ?_ (by first | (dsimp only; omega) | (simp; done) | (simp; omega)) _))))⟩
  · have H := Lib.hid (wdB_long (n := 10) (s := s) (by omega))
    go_enter Tryz.func50, Tryz.ntmps50
    go_wp2_with (go_at_call 75; refine (letters_c _ _).mono ?_; rintro e w1 ⟨rfl, hb⟩; obtain ⟨hc, hf⟩ := bcell hb; have hz := bsize hb; have hs := hb.size; try simp at hs)
    go_ret
    exact ⟨by rw [H.out]; rfl, by (first | ((repeat' with_reducible first | assumption | exact Below.refl _ _ | apply Blw.alloc | apply Blw.drew | apply Blw.drewN | (refine Blw.after ?_ (by assumption)) | (refine Blw.set ?_ (by first | (dsimp only; omega) | (simp; omega)) _)); done) | (repeat' (first | assumption | exact Below.refl _ _ | apply Blw.alloc | apply Blw.drew | apply Blw.drewN | (refine Blw.after ?_ (by assumption)) | (refine Blw.set ?_ (by first | (dsimp only; omega) | (simp; done) | (simp; omega)) _))))⟩

def WdRel (s : ByteArray) (w : World) (m : Nat) (i : Value) (wr : World) : Prop := ∃ k : Nat, k + m = s.size ∧ i = .int .i64 k ∧ wr = w ∧ ∀ c ∈ (toL s).take k, wdC c = true
theorem WdRel.step {s : ByteArray} {k : Nat} (hk : k < s.size) (h : ∀ c ∈ (toL s).take k, wdC c = true) (hc : s[k].toNat = 108 ∨ s[k].toNat = 114) : ∀ c ∈ (toL s).take (k + 1), wdC c = true := by
  rw [take_snocB s k hk]
  intro c hm
  rcases List.mem_append.1 hm with hm | hm
  · exact h c hm
  · rw [List.mem_singleton] at hm; rw [hm]; exact (wdC_iff _).2 hc
set_option maxHeartbeats 1000000 in
theorem l4Word_c (s : ByteArray) (n : Nat) (w : World) (hn : n ≤ 100000) : Calls Tryz.prog 52 #[.string s, .int .i64 n] w fun e w' => e = .returned (.bool (wdB n s)) ∧ w = w' := by
  by_cases h : n < s.size
  · have H := Lib.hid (wdB_long h)
    go_enter Tryz.func52, Tryz.ntmps52
    go_wp2
    go_ret
    exact ⟨by rw [H.out]; rfl, rfl⟩
  · have HG := Lib.hid (show onlyW s = wdB n s from (wdB_of (by omega)).symm)
    go_enter Tryz.func52, Tryz.ntmps52
    go_wp2
    go_loopg [5] s.size (fun m i wr => WdRel s w m i wr)
    case atStart => exact ⟨0, by omega, rfl, rfl, by simp⟩
    case round =>
      obtain ⟨k, hk, rfl, rfl, hb⟩ := hrel
      have HB := Lib.hid hb
      clear hb
      by_cases hlt : k < s.size
      · by_cases e8 : s[k].toNat = 108
        · have HS := Lib.hid (WdRel.step hlt HB.out (Or.inl e8))
          have a1 : ((s[k].toNat : Int) != 108) = false := by simp [e8]
          clear e8
          go_wp2
          go_roundg (gk - 1)
          case measure => omega
          case rel => exact ⟨k + 1, by omega, by go_num, rfl, HS.out⟩
        · by_cases e9 : s[k].toNat = 114
          · have HS := Lib.hid (WdRel.step hlt HB.out (Or.inr e9))
            have a1 : ((s[k].toNat : Int) != 108) = true := by simp [e9]
            have a2 : ((s[k].toNat : Int) != 114) = false := by simp [e9]
            clear e8 e9
            go_wp2
            go_roundg (gk - 1)
            case measure => omega
            case rel => exact ⟨k + 1, by omega, by go_num, rfl, HS.out⟩
          · have H := Lib.hid (HG.out.symm.trans (onlyW_bad k hlt (by omega)))
            have a1 : ((s[k].toNat : Int) != 108) = true := by simp; omega
            have a2 : ((s[k].toNat : Int) != 114) = true := by simp; omega
            clear e8 e9
            go_wp2
            go_ret
            exact ⟨by rw [H.out]; rfl, rfl⟩
      · have H := Lib.hid (HG.out.symm.trans (onlyW_good (by rw [← take_allB s k (by omega)]; exact HB.out)))
        go_wp2
        go_ret
        exact ⟨by rw [H.out]; rfl, rfl⟩

/-! ### letters -/
theorem oth_108 : oth 108 = 114 := rfl
theorem oth_else {c : UInt8} (h : c.toNat ≠ 108) : oth c = 108 := by
  unfold oth; rw [if_neg (fun e => h (by rw [e]; rfl))]
theorem other_c (c : UInt8) (w : World) : Calls Tryz.prog 216 #[.int .u8 (c.toNat : Int)] w fun e w' => e = .returned (.int .u8 ((oth c).toNat : Int)) ∧ w = w' := by
  by_cases h : c.toNat = 108
  · obtain rfl : c = 108 := UInt8.toNat_inj.1 (by rw [h]; rfl)
    go_enter Tryz.func216, Tryz.ntmps216
    go_wp2
    go_ret
    exact ⟨rfl, rfl⟩
  · have H := Lib.hid (oth_else h)
    have a1 : ((c.toNat : Int) == 108) = false := by simp; omega
    clear h
    go_enter Tryz.func216, Tryz.ntmps216
    go_wp2
    go_ret
    exact ⟨by rw [H.out]; rfl, rfl⟩
theorem sOther_c (t : ByteArray) (c : UInt8) (w : World) (ht : toL t = [c]) : Calls Tryz.prog 158 #[.string t] w fun e w' => e = .returned (.string (bs [oth c])) ∧ w = w' := by
  by_cases h : c.toNat = 108
  · obtain rfl : c = 108 := UInt8.toNat_inj.1 (by rw [h]; rfl)
    have a1 : (t.toList == [108]) = true := by rw [toList_toL, ht]; rfl
    clear ht h
    go_enter Tryz.func158, Tryz.ntmps158
    go_wp2
    go_ret
    exact ⟨rfl, rfl⟩
  · have H := Lib.hid (oth_else h)
    have a1 : (t.toList == [108]) = false := by
      rw [toList_toL, ht]; simp; intro e; apply h; rw [e]; rfl
    clear ht h
    go_enter Tryz.func158, Tryz.ntmps158
    go_wp2
    go_ret
    exact ⟨by rw [H.out]; rfl, rfl⟩
theorem toL_extract (s : ByteArray) (i j : Nat) : toL (s.extract i j) = ((toL s).take j).drop i := by
  rw [← bs_toL s]
  generalize toL s = l
  show toL ((ByteArray.mk l.toArray).extract i j) = _
  rw [ByteArray.extract_mk]
  simp [toL, bs, List.drop_take]
theorem extract_one (s : ByteArray) (k : Nat) (h : k < s.size) : toL (s.extract k (k + 1)) = [s[k]] := by
  rw [toL_extract, take_snocB s k h, List.drop_append_of_le_length (by rw [List.length_take, toL_len]; omega), List.drop_of_length_le (by rw [List.length_take]; omega)]
  rfl

/-! ### turned back -/
theorem backL_at (s : ByteArray) (k : Nat) (h : k < s.size) : (backL (toL s))[k]? = some (oth (s[s.size - 1 - k])) := by
  rw [backL_get _ _ (by rw [toL_len]; exact h), toL_len, toL_get s (s.size - 1 - k) (by omega)]; rfl
theorem backL_take {s : ByteArray} {k : Nat} (h : k < s.size) : (backL (toL s)).take (k + 1) = (backL (toL s)).take k ++ [oth (s[s.size - 1 - k])] := by
  rw [List.take_add_one, backL_at s k h]; rfl
def SBkRel (s : ByteArray) (w : World) (m : Nat) (v i : Value) (wr : World) : Prop :=
  ∃ k : Nat, k + m = s.size ∧ i = .int .i64 ((m : Int) - 1) ∧ wr.ownsRow w.heap.size 5 1 v k (((backL (toL s)).take k).map encB) ∧ Below w.heap.size w wr
set_option maxRecDepth 100000 in
set_option maxHeartbeats 4000000 in
theorem sBack_c (s : ByteArray) (w : World) (hs : s.size ≤ 1000000) : Calls Tryz.prog 151 #[.string s] w fun e w' => e = .returned (.string (bs (backL (toL s)))) ∧ Below w.heap.size w w' := by
  obtain ⟨i0, hi, hz0, hz1, hz2⟩ := info_parts infoB
  go_enter Tryz.func151, Tryz.ntmps151
  go_wp2_with fail
  have S0 := Lib.hid (show SBkRel s w s.size (.slice (some ⟨w.heap.size, 0, none⟩) 0 0) (.int .i64 ((s.size : Int) - 1)) (w.alloc (.cells #[] 5)) from
    ⟨0, by omega, rfl, by
      have h := World.ownsRow_lit (base := w.heap.size) (e := 5) (size := 1) w #[] 0 (Nat.le_refl _) (by unfold maxLen; omega) rfl
      exact h, by (first | ((repeat' with_reducible first | assumption | exact Below.refl _ _ | apply Blw.alloc | apply Blw.drew | apply Blw.drewN | (refine Blw.after ?_ (by assumption)) | (refine Blw.set ?_ (by first | (dsimp only; omega) | (simp; omega)) _)); done) | (repeat' (first | assumption | exact Below.refl _ _ | apply Blw.alloc | apply Blw.drew | apply Blw.drewN | (refine Blw.after ?_ (by assumption)) | (refine Blw.set ?_ (by first | (dsimp only; omega) | (simp; done) | (simp; omega)) _))))⟩)
  go_loopg [3, 4] s.size (fun m v i wr => SBkRel s w m v i wr)
  case atStart => exact S0.out
  case round =>
    clear S0
    obtain ⟨k, hk, rfl, hown, hB⟩ := hrel
    have HO := Lib.hid hown
    clear hown
    by_cases h0 : gk = 0
    · subst h0
      have HS := Lib.hid (show (backL (toL s)).take k = backL (toL s) from List.take_of_length_le (by rw [backL_len, toL_len]; omega))
      have hcv := conv_row HO.out
      rw [HS.out] at hcv
      go_wp2_with fail
      go_ret
      exact ⟨rfl, hB⟩
    · obtain ⟨m, rfl⟩ : ∃ m, gk = m + 1 := ⟨gk - 1, by omega⟩
      have e1 : ((m + 1 : Nat) : Int) - 1 = (m : Int) := by omega
      rw [e1]
      have hm : m < s.size := by omega
      have HE := Lib.hid (extract_one s m hm)
      have HT := Lib.hid (show (backL (toL s)).take (k + 1) = (backL (toL s)).take k ++ [oth s[m]] by
        have h := backL_take (s := s) (k := k) (by omega)
        rw [h]
        congr 3
        have : s.size - 1 - k = m := by omega
        simp [this])
      have hsz : (bs [oth s[m]]).size = 1 := rfl
      clear e1 h0
      go_wp2_with (first | (go_at_call 158; refine (sOther_c _ _ _ HE.out).mono ?_; rintro e w1 ⟨rfl, rfl⟩) | (at_builtin; refine wpList_append_own _ rfl _ _ 22 rfl w.heap.size 5 i0 (.int .u8 0) 1 1 Tryz.underlying22 hi hz0 hz1 hz2 rfl (by decide) _ _ _ rfl (HO.out.alloc _) ⟨wr.heap.size, 0, none⟩ 1 1 [encB (oth s[m])] rfl rfl (cells1 _ _ _) (one1 _ rfl) (by unfold maxLen; omega) (by omega) (by have := hB.size; simp; omega) ?_))
      intro v' W1 hown' hgrow _
      have hB1 : Below w.heap.size w W1 := Below.grown (by (first | ((repeat' with_reducible first | assumption | exact Below.refl _ _ | apply Blw.alloc | apply Blw.drew | apply Blw.drewN | (refine Blw.after ?_ (by assumption)) | (refine Blw.set ?_ (by first | (dsimp only; omega) | (simp; omega)) _)); done) | (repeat' (first | assumption | exact Below.refl _ _ | apply Blw.alloc | apply Blw.drew | apply Blw.drewN | (refine Blw.after ?_ (by assumption)) | (refine Blw.set ?_ (by first | (dsimp only; omega) | (simp; done) | (simp; omega)) _))))) hgrow (by have := hB.size; simp; omega) (fun k hk => (HO.out.lt k hk).1)
      have HO1 := Lib.hid hown'
      clear hgrow hown' HO
      go_wp2_with fail
      go_roundg m
      case measure => omega
      case rel => exact ⟨k + 1, by omega, by go_num, by rw [HT.out, List.map_append, List.map_take]; exact HO1.out, hB1⟩

/-- what stands of a word turned back when so many letters have been read -/
def bkL (s : ByteArray) (k : Nat) : List UInt8 := List.replicate (s.size - k) 0 ++ backL ((toL s).take k)
theorem bkL_zero (s : ByteArray) : bkL s 0 = List.replicate s.size 0 := by simp [bkL, backL]
theorem bkL_all (s : ByteArray) : bkL s s.size = backL (toL s) := by
  unfold bkL; rw [take_allB s s.size (Nat.le_refl _)]; simp
theorem bkL_step {s : ByteArray} {k : Nat} (h : k < s.size) : (bkL s k).set (s.size - 1 - k) (oth s[k]) = bkL s (k + 1) := by
  unfold bkL
  rw [take_snocB s k h, backL_snoc]
  obtain ⟨m, hm⟩ : ∃ m, s.size - k = m + 1 := ⟨s.size - k - 1, by omega⟩
  rw [hm, show s.size - 1 - k = m by omega, show s.size - (k + 1) = m by omega, List.replicate_succ', List.append_assoc, List.set_append_right _ _ (by simp)]
  simp
def IBkRel (s : ByteArray) (w : World) (ib : Nat) (m : Nat) (wr : World) : Prop :=
  ∃ k : Nat, k + m = s.size ∧ wr.heap[ib]? = some (.stringIter s k) ∧ wr.ownsRow w.heap.size 5 1 (.slice (some ⟨w.heap.size, 0, none⟩) s.size s.size) s.size ((bkL s k).map encB) ∧ Below w.heap.size w wr
end Go.Proofs.YtmondgcehgmamaaGreatDoor

namespace Go.Proofs.YtmondgcehgmamaaGreatDoor
set_option linter.unusedSimpArgs false
set_option linter.unusedVariables false
open Go.ChangeShapes Go.WideShapes Go.ChangeAt Go.RowKit Go.Joins

/-- the table's place for so many noughts -/
def tzC : Nat → Nat
  | 0 => 0
  | 1 => 1
  | 2 => 3
  | 3 => 7
  | 4 => 15
  | 5 => 31
  | 6 => 63
  | 7 => 62
  | 8 => 61
  | 9 => 59
  | _ => 0
/-- ten cells of the library's table -/
def Tz (w : World) : Prop := ∀ k, k < 10 → w.cell? ⟨7, tzC k, none⟩ = some (.int .u8 (k : Nat))
theorem Tz.pos {w : World} (h : Tz w) : 7 < w.heap.size := World.block_lt_of_cell? w _ (h 0 (by decide))
theorem Tz.keep {w w' : World} (h : Tz w) {B : Nat} (hB : 7 < B) (hb : Below B w w') : Tz w' := fun k hk => (hb.cell (p := ⟨7, tzC k, none⟩) hB).trans (h k hk)
theorem d64At : Tryz.prog.globalNamed "math/bits.deBruijn64tab" = some 7 := by kernel_rfl
theorem d64Type : (Tryz.prog.globals[7]?).map (·.type) = some 245 := by kernel_rfl
theorem cellsU8 : Tryz.prog.cellsOf 5 = 1 := by kernel_rfl
theorem lt10 {k : Nat} (h : k < 10) : k = 0 ∨ k = 1 ∨ k = 2 ∨ k = 3 ∨ k = 4 ∨ k = 5 ∨ k = 6 ∨ k = 7 ∨ k = 8 ∨ k = 9 := by omega
set_option maxRecDepth 10000 in
theorem tz_second {W : World} {x : String × DataW Unit} {r : List (String × DataW Unit)} (h : laidMetH Tryz.prog (x :: ("math/bits.deBruijn64tab", Rows.laid_math_bits_deBruijn64tab) :: r) W) (hp : ∀ W, laidMetH Tryz.prog (x :: ("math/bits.deBruijn64tab", Rows.laid_math_bits_deBruijn64tab) :: r) W = laidMet Tryz.prog (x :: ("math/bits.deBruijn64tab", Rows.laid_math_bits_deBruijn64tab) :: r) W) : Tz W := by
  rw [hp] at h
  have h2 := h.tail
  obtain ⟨ps, ⟨g, t, cs, fuel, p, q, hg, ht, hv, hd, _, _⟩, _, _⟩ := h2
  obtain rfl := Option.some.inj (d64At.symm.trans hg)
  obtain rfl := Option.some.inj (d64Type.symm.trans ht)
  have hds : ∃ ds, (Rows.laid_math_bits_deBruijn64tab : DataW Unit) = .agg ds ∧ ∀ k, k < 10 → tzC k < 64 ∧ ds[tzC k]? = some (.lit (.int .u8 (k : Nat))) := ⟨_, rfl, fun k hk => by
    rcases lt10 hk with rfl | rfl | rfl | rfl | rfl | rfl | rfl | rfl | rfl | rfl <;> exact ⟨by decide, by kernel_rfl⟩⟩
  obtain ⟨ds, e, e1⟩ := hds
  rw [e] at hd
  intro k hk
  obtain ⟨k1, k2⟩ := e1 k hk
  obtain ⟨m, q, h1⟩ := rd_array Tryz.underlying245 hd (i := tzC k) k1 k2
  rw [cellsU8] at h1
  have a := rd_int Tryz.underlying5 h1
  have a1 : cs.toList[tzC k]? = some (.int .u8 (k : Nat)) := by
    have e : ((cs.toList.drop (tzC k * 1)).take 1)[0]? = some (.int .u8 (k : Nat)) := by rw [a]; rfl
    rw [List.getElem?_take, if_pos (by omega), List.getElem?_drop] at e
    simpa using e
  rw [World.var?_cell d64At hv (tzC k)]; simpa using a1

def tzChk (j k : Nat) : Bool := let n := 2 ^ j * (2 * k + 1); n ≥ 1024 || Nat.land n (18446744073709551616 - n) * 285870213051353865 % 18446744073709551616 / 288230376151711744 == tzC j
theorem tz_all : ((List.range 10).all fun j => (List.range 512).all fun k => tzChk j k) = true := by decide +kernel
theorem tz_key (j o : Nat) (hj : j < 10) (ho : o % 2 = 1) (h : 2 ^ j * o < 1024) :
    IntKind.u64.wrap (bits BinOp.and IntKind.u64 ((2 ^ j * o : Nat) : Int) (IntKind.u64.wrap (-((2 ^ j * o : Nat) : Int))) * 285870213051353865) / 288230376151711744 = ((tzC j : Nat) : Int) := by
  have hpos : 0 < 2 ^ j * o := Nat.mul_pos (two_pos j) (by omega)
  have hk : o / 2 < 512 := by have := Nat.le_mul_of_pos_left o (two_pos j); omega
  have h1 := List.all_eq_true.1 (List.all_eq_true.1 tz_all j (List.mem_range.2 hj)) (o / 2) (List.mem_range.2 hk)
  unfold tzChk at h1
  rw [show 2 * (o / 2) + 1 = o by omega] at h1
  generalize hN : 2 ^ j * o = N at *
  have h2 : Nat.land N (18446744073709551616 - N) * 285870213051353865 % 18446744073709551616 / 288230376151711744 = tzC j := by
    simp only [Bool.or_eq_true, decide_eq_true_eq, beq_iff_eq] at h1
    rcases h1 with h1 | h1
    · omega
    · exact h1
  have hw : IntKind.u64.wrap (-(N : Int)) = ((18446744073709551616 - N : Nat) : Int) := by rw [IntKind.wrap_u64]; omega
  rw [hw, u64_and_nat N (18446744073709551616 - N) (by omega) (by omega), IntKind.wrap_u64, ← h2]
  show (((N &&& (18446744073709551616 - N) : Nat) : Int) * 285870213051353865) % 18446744073709551616 / 288230376151711744 = (((N &&& (18446744073709551616 - N)) * 285870213051353865 % 18446744073709551616 / 288230376151711744 : Nat) : Int)
  generalize (N &&& (18446744073709551616 - N)) = M
  omega
set_option maxHeartbeats 1000000 in
theorem tz64_c (n j o : Nat) (w : World) (h : Tz w) (hn : n = 2 ^ j * o) (ho : o % 2 = 1) (hlt : n < 1024) : Calls Tryz.prog 232 #[.int .u64 n] w fun e w' => e = .returned (.int .i64 (j : Nat)) ∧ w = w' := by
  have hpos : 0 < n := by rw [hn]; exact Nat.mul_pos (two_pos j) (by omega)
  have hj : j < 10 := exp_lt ho (by rw [← hn]; exact hlt)
  have h1 := tz_key j o hj ho (by omega)
  rw [← hn] at h1
  have hc := h j hj
  have hC : tzC j < 64 := by rcases lt10 hj with rfl | rfl | rfl | rfl | rfl | rfl | rfl | rfl | rfl | rfl <;> decide
  clear h hn ho
  generalize tzC j = C at *
  go_enter Tryz.func232, Tryz.ntmps232
  go_wp2_with (simp only [h1])
  go_ret
  exact ⟨rfl, rfl⟩
theorem tz_c (n j o : Nat) (w : World) (h : Tz w) (hn : n = 2 ^ j * o) (ho : o % 2 = 1) (hlt : n < 1024) : Calls Tryz.prog 202 #[.int .u64 n] w fun e w' => e = .returned (.int .i64 (j : Nat)) ∧ w = w' := by
  have H := Lib.hid (tz64_c n j o w h hn ho hlt)
  clear h hn ho
  go_enter Tryz.func202, Tryz.ntmps202
  go_wp2_with (go_at_call 232; refine H.out.mono ?_; rintro e w' ⟨rfl, rfl⟩)
  go_ret
  exact ⟨rfl, rfl⟩

/-- the letter at an index of the word of turns -/
theorem pow_shr (n j o : Nat) (hn : n = 2 ^ j * o) : n / 2 ^ j = o := by
  rw [hn, Nat.mul_div_cancel_left _ (two_pos j)]
set_option maxHeartbeats 1000000 in
theorem turnOf_c (cs : ByteArray) (n j o : Nat) (w : World) (h : Tz w) (hn : n = 2 ^ j * o) (ho : o % 2 = 1) (hlt : n < 2 ^ cs.size) (hc : cs.size ≤ 10) : Calls Tryz.prog 178 #[.string cs, .int .i64 n] w fun e w' => e = .returned (.int .u8 ((turnV (toL cs) j o).toNat : Int)) ∧ w = w' := by
  have hj : j < cs.size := exp_lt ho (by rw [← hn]; exact hlt)
  have hn2 : n < 1024 := Nat.lt_of_lt_of_le hlt (Nat.pow_le_pow_right (by omega) hc : 2 ^ cs.size ≤ 2 ^ 10)
  have H := Lib.hid (tz_c n j o w h hn ho hn2)
  have hsh := pow_shr n j o hn
  have hg : (toL cs)[j]?.getD 0 = cs[j] := by rw [toL_get cs j hj]; rfl
  have ho2 : o < 1024 := by have := Nat.le_mul_of_pos_left o (two_pos j); omega
  have e1 : ((n : Int) / (2 : Int) ^ j) = (o : Int) := by rw [← hsh]; push_cast; rfl
  have e2 : ((o : Int).tmod 4) = ((o % 4 : Nat) : Int) := by rw [Int.tmod_eq_emod_of_nonneg (by omega)]; omega
  rcases (show o % 4 = 1 ∨ o % 4 = 3 by omega) with h4 | h4
  · have HT := Lib.hid (show turnV (toL cs) j o = cs[j] by unfold turnV; rw [if_pos h4, hg])
    rw [h4] at e2
    clear h hn ho hsh hg h4
    go_enter Tryz.func178, Tryz.ntmps178
    go_wp2_with (first | (go_at_call 202; refine H.out.mono ?_; rintro e w' ⟨rfl, rfl⟩))
    go_ret
    exact ⟨by rw [HT.out]; rfl, rfl⟩
  · have HT := Lib.hid (show turnV (toL cs) j o = oth cs[j] by unfold turnV; rw [if_neg (by omega), hg])
    rw [h4] at e2
    clear h hn ho hsh hg h4
    go_enter Tryz.func178, Tryz.ntmps178
    go_wp2_with (first | (go_at_call 202; refine H.out.mono ?_; rintro e w' ⟨rfl, rfl⟩) | (go_at_call 216; refine (other_c cs[j] _).mono ?_; rintro e w1 ⟨rfl, rfl⟩))
    go_ret
    exact ⟨by rw [HT.out]; rfl, rfl⟩
end Go.Proofs.YtmondgcehgmamaaGreatDoor

namespace Go.Proofs.YtmondgcehgmamaaGreatDoor
set_option linter.unusedSimpArgs false
set_option linter.unusedVariables false
open Go.RowKit

structure Sess (b : Nat) (d c : ByteArray) (w : World) : Prop where
  c0 : w.cell? ⟨b, 0, none⟩ = some (.string d)
  c1 : w.cell? ⟨b, 1, none⟩ = some (.string c)
  z0 : w.frozen? ⟨b, 0, none⟩ = false
  z1 : w.frozen? ⟨b, 1, none⟩ = false
theorem Sess.lt {b : Nat} {d c : ByteArray} {w : World} (h : Sess b d c w) : b < w.heap.size := World.block_lt_of_cell? w _ h.c0
theorem Sess.same {b : Nat} {d c : ByteArray} {w w' : World} (h : Sess b d c w) (e : w'.heap[b]? = w.heap[b]?) : Sess b d c w' :=
  ⟨(World.cell?_of_block (a := ⟨b, 0, none⟩) e).trans h.c0, (World.cell?_of_block (a := ⟨b, 1, none⟩) e).trans h.c1, (World.frozen?_of_block (a := ⟨b, 0, none⟩) e).trans h.z0, (World.frozen?_of_block (a := ⟨b, 1, none⟩) e).trans h.z1⟩
theorem Sess.keep {b : Nat} {d c : ByteArray} {w w' : World} (h : Sess b d c w) (hb : Below w.heap.size w w') : Sess b d c w' := h.same (hb.block b h.lt)
theorem Sess.alloc {b : Nat} {d c : ByteArray} {w : World} (h : Sess b d c w) (o : Obj) : Sess b d c (w.alloc o) := h.keep ((Below.refl _ w).alloc (Nat.le_refl _) o)
/-- all stands but the session's block -/
abbrev Grw (b : Nat) (w w' : World) : Prop := w.grownBy w' (some b)
theorem grw_below {b : Nat} {w w' : World} (h : Below w.heap.size w w') : Grw b w w' := ⟨h.os, h.tape, h.output, h.size, fun k hk _ => h.block k hk⟩
theorem grw_trans {b : Nat} {u v w : World} (h : Grw b u v) (k : Grw b v w) : Grw b u w :=
  ⟨k.os.trans h.os, k.tape.trans h.tape, k.output.trans h.output, Nat.le_trans h.size k.size, fun i hi hn => (k.block i (Nat.lt_of_lt_of_le hi h.size) hn).trans (h.block i hi hn)⟩
theorem grw_below_to {b B : Nat} {w w' : World} (h : Grw b w w') (hb : B ≤ b) (hB : B ≤ w.heap.size) : Below B w w' := ⟨h.os, h.tape, h.output, h.size, fun k hk => h.block k (Nat.lt_of_lt_of_le hk hB) (by simp; omega)⟩
theorem grw_set {b o : Nat} {w : World} {v : Value} : Grw b w (w.setCell ⟨b, o, none⟩ v) :=
  ⟨rfl, rfl, rfl, by simp, fun k _ hn => Below.heap_setCell w _ v k (fun e => hn (by rw [e]))⟩
theorem Sess.set0 {b : Nat} {d c x : ByteArray} {w : World} (h : Sess b d c w) : Sess b x c (w.setCell ⟨b, 0, none⟩ (.string x)) := by
  obtain ⟨c0, c1, z0, z1⟩ := h
  exact ⟨by go_simp, by go_simp, by go_simp, by go_simp⟩
theorem Sess.set1 {b : Nat} {d c x : ByteArray} {w : World} (h : Sess b d c w) : Sess b d x (w.setCell ⟨b, 1, none⟩ (.string x)) := by
  obtain ⟨c0, c1, z0, z1⟩ := h
  exact ⟨by go_simp, by go_simp, by go_simp, by go_simp⟩
/-- what the callees want of the variables -/
def GIf (g : Nat) (w : World) : Prop := ∃ ev, w.cell? ⟨g, 0, none⟩ = some ev ∧ (ev = .nilIface ∨ ∃ te pe, ev = .iface te pe)
structure Gx (w : World) : Prop where
  tab : Tab w
  two : Two w
  tz : Tz w
  mlen : ∃ m : Int, w.cell? ⟨2, 0, none⟩ = some (.int .i64 m)
  syn : GIf 8 w
  rng : GIf 9 w
  pow : Lib.TabIs Tryz.prog w "internal/strconv.uint64pow10" .u64 Lib.pow10Tab
  big : 10 ≤ w.heap.size
theorem GIf.keep {g B : Nat} {w w' : World} (h : GIf g w) (hB : Below B w w') (hg : g < B) : GIf g w' := by
  obtain ⟨ev, h1, h2⟩ := h
  exact ⟨ev, (hB.cell (p := ⟨g, 0, none⟩) hg).trans h1, h2⟩
theorem Gx.keep {w w' : World} (h : Gx w) (hB : Below 10 w w') : Gx w' where
  tab := h.tab.keep (by decide) hB
  two := h.two.keep (by decide) hB
  tz := h.tz.keep (by decide) hB
  mlen := by
    obtain ⟨m, hm⟩ := h.mlen
    exact ⟨m, (hB.cell (p := ⟨2, 0, none⟩) (by decide)).trans hm⟩
  syn := h.syn.keep hB (by decide)
  rng := h.rng.keep hB (by decide)
  pow := var?_below hB (g := 3) (by kernel_rfl) (by decide) h.pow
  big := Nat.le_trans h.big hB.size
theorem Gx.below {w w' : World} (h : Gx w) (hB : Below w.heap.size w w') : Gx w' := h.keep (hB.mono h.big)
theorem Gx.grw {b : Nat} {w w' : World} (h : Gx w) (hb : 10 ≤ b) (hg : Grw b w w') : Gx w' := h.keep (grw_below_to hg hb h.big)
def resE : Option ByteArray → Ending
  | some s => .returned (.string s)
  | none => refE noB
def CmdPost (b : Nat) (o : Option ByteArray) (d c : ByteArray) (w : World) (e : Ending) (w' : World) : Prop := e = resE o ∧ Sess b d c w' ∧ Grw b w w'
def AnsPost (b : Nat) (out d c : ByteArray) (w : World) (e : Ending) (w' : World) : Prop := e = .returned (.string out) ∧ Sess b d c w' ∧ Grw b w w'
end Go.Proofs.YtmondgcehgmamaaGreatDoor

namespace Go.Proofs.YtmondgcehgmamaaGreatDoor
set_option linter.unusedSimpArgs false
set_option linter.unusedVariables false
open Go.RowKit

theorem cut32 (s : ByteArray) (w : World) (hs : s.size < 4294967281) (h : Gx w) : Calls Tryz.prog 59 #[.string s, .string ⟨#[32]⟩] w fun e w' => e = .returned (.tuple #[.string (bs (Lib.cut (toL s) [32]).1), .string (bs (Lib.cut (toL s) [32]).2.1), .bool (Lib.cut (toL s) [32]).2.2]) ∧ Below w.heap.size w w' := by
  obtain ⟨m, hm⟩ := h.mlen
  exact (Tryz.strings_Cut s ⟨#[32]⟩ m w hs hm).mono fun e w' ⟨he, n, hw⟩ => ⟨he, by rw [hw]; exact Blw.drewN n (Below.refl _ _)⟩
/-- the output's own block -/
structure OutC (k : Nat) (x : ByteArray) (w : World) : Prop where
  c : w.cell? ⟨k, 0, none⟩ = some (.string x)
  z : w.frozen? ⟨k, 0, none⟩ = false
theorem OutC.lt {k : Nat} {x : ByteArray} {w : World} (h : OutC k x w) : k < w.heap.size := World.block_lt_of_cell? w _ h.c
theorem OutC.same {k : Nat} {x : ByteArray} {w w' : World} (h : OutC k x w) (e : w'.heap[k]? = w.heap[k]?) : OutC k x w' :=
  ⟨(World.cell?_of_block (a := ⟨k, 0, none⟩) e).trans h.c, (World.frozen?_of_block (a := ⟨k, 0, none⟩) e).trans h.z⟩
theorem OutC.keep {k : Nat} {x : ByteArray} {w w' : World} (h : OutC k x w) (hb : Below w.heap.size w w') : OutC k x w' := h.same (hb.block k h.lt)
theorem OutC.grw {k b : Nat} {x : ByteArray} {w w' : World} (h : OutC k x w) (hb : Grw b w w') (hne : k ≠ b) : OutC k x w' := h.same (hb.block k h.lt (by simpa using hne))
theorem grw_new {b k o : Nat} {w W : World} {v : Value} (h : Grw b w W) (hk : w.heap.size ≤ k) : Grw b w (W.setCell ⟨k, o, none⟩ v) :=
  ⟨h.os, h.tape, h.output, by simpa using h.size, fun i hi hn => (Below.heap_setCell W ⟨k, o, none⟩ v i (by simp; omega)).trans (h.block i hi hn)⟩
theorem below_stS (E : List EnS) (w : World) : Below w.heap.size w (stS E w) := (Below.refl _ w).alloc (Nat.le_refl _) _
theorem look_stS {M el : TypeId} (hM : Tryz.prog.underlying M = some (.map 9 el)) (hz : ∀ w, (zeroValue el).run Tryz.prog w = .ok .nilFunc w) (E : List EnS) (s : ByteArray) (w : World) :
    (Instr.lookup M (.map (some w.heap.size)) (.string s) false).run Tryz.prog (stS E w) = .ok ((getS s E).getD .nilFunc) (stS E w) :=
  lookS hM Tryz.underlying9 (stS E w) (hz _) (heap_alloc_new w _) s
theorem eqfR (m n : Nat) (w : World) : (Op.equalIn (m + 1) 85 (.func (.func n) #[] #[]) .nilFunc).run Tryz.prog w = .ok false w ∧ (Op.equalIn (m + 1) 85 .nilFunc .nilFunc).run Tryz.prog w = .ok true w := by
  constructor <;> simp [Op.equalIn, run_underlying Tryz.underlying85]
theorem neq_fnR (n : Nat) (w : World) : (binOp .neq 85 (.func (.func n) #[] #[]) .nilFunc).run Tryz.prog w = .ok (.bool true) w := by
  simp only [binOp]
  simp [show Op.equal 85 (.func (.func n) #[] #[]) .nilFunc = Op.equalIn (9999 + 1) 85 (.func (.func n) #[] #[]) .nilFunc from rfl, (eqfR 9999 n w).1]
theorem neq_nilR (w : World) : (binOp .neq 85 .nilFunc .nilFunc).run Tryz.prog w = .ok (.bool false) w := by
  simp only [binOp]
  simp [show Op.equal 85 .nilFunc .nilFunc = Op.equalIn (9999 + 1) 85 .nilFunc .nilFunc from rfl, (eqfR 9999 0 w).2]
theorem eqfA (m n : Nat) (w : World) : (Op.equalIn (m + 1) 88 (.func (.func n) #[] #[]) .nilFunc).run Tryz.prog w = .ok false w ∧ (Op.equalIn (m + 1) 88 .nilFunc .nilFunc).run Tryz.prog w = .ok true w := by
  constructor <;> simp [Op.equalIn, run_underlying Tryz.underlying88]
theorem neq_fnA (n : Nat) (w : World) : (binOp .neq 88 (.func (.func n) #[] #[]) .nilFunc).run Tryz.prog w = .ok (.bool true) w := by
  simp only [binOp]
  simp [show Op.equal 88 (.func (.func n) #[] #[]) .nilFunc = Op.equalIn (9999 + 1) 88 (.func (.func n) #[] #[]) .nilFunc from rfl, (eqfA 9999 n w).1]
theorem neq_nilA (w : World) : (binOp .neq 88 .nilFunc .nilFunc).run Tryz.prog w = .ok (.bool false) w := by
  simp only [binOp]
  simp [show Op.equal 88 .nilFunc .nilFunc = Op.equalIn (9999 + 1) 88 .nilFunc .nilFunc from rfl, (eqfA 9999 0 w).2]
set_option maxRecDepth 100000 in
set_option maxHeartbeats 1000000 in
/-- a word with a rest -/
theorem answer_rest (b n : Nat) (d c line word rest d' c' : ByteArray) (o : Option ByteArray) (w : World) (hb : 10 ≤ b) (hs : line.size < 4294967281) (hG : Gx w) (hS : Sess b d c w)
    (hcut : Lib.cut (toL line) [32] = (toL word, toL rest, true)) (hget : getS word tabR = some (fnV n)) (hent : ∀ args w, (callFunc n args).run Tryz.prog w = .ok (.enter n args) w)
    (H : ∀ w', Gx w' → Sess b d c w' → Calls Tryz.prog n #[.pointer (some ⟨b, 0, none⟩), .string rest] w' (CmdPost b o d' c' w')) :
    Calls Tryz.prog 33 #[.pointer (some ⟨b, 0, none⟩), .string line] w (AnsPost b (o.getD noB) d' c' w) := by
  have hmf : ∀ (fn : Fn) (first cap : Array Value) (w : World), (Instr.makeFunc fn first cap).run Tryz.prog w = .ok (.func fn first cap) w := fun _ _ _ _ => rfl
  have HS := Lib.hid hS
  have HG := Lib.hid hG
  have Lb := hS.lt
  have HC := Lib.hid (cut32 line)
  have HN := neq_fnR n
  clear hS hG
  go_enter_defers Tryz.func33, Tryz.ntmps33
  go_wp2_with fail
  generalize hW : World.alloc _ _ = W0
  have hB0 : Below w.heap.size w W0 := by rw [← hW]; (first | ((repeat' with_reducible first | assumption | exact Below.refl _ _ | apply Blw.alloc | apply Blw.drew | apply Blw.drewN | (refine Blw.after ?_ (by assumption)) | (refine Blw.set ?_ (by first | (dsimp only; omega) | (simp; omega)) _)); done) | (repeat' (first | assumption | exact Below.refl _ _ | apply Blw.alloc | apply Blw.drew | apply Blw.drewN | (refine Blw.after ?_ (by assumption)) | (refine Blw.set ?_ (by first | (dsimp only; omega) | (simp; done) | (simp; omega)) _))))
  have HO0 := Lib.hid (show OutC w.heap.size ⟨#[]⟩ W0 from ⟨by rw [← hW]; clear hW hB0; go_simp, by rw [← hW]; clear hW hB0; go_simp⟩)
  have HS0 := Lib.hid (HS.out.keep hB0)
  have HG0 := Lib.hid (HG.out.below hB0)
  have HB0 := Lib.hid (grw_below (b := b) hB0)
  clear hW hB0
  generalize hk : w.heap.size = k at *
  refine (HC.out W0 hs HG0.out).mono ?_
  rw [hcut]
  simp only [bs_toL]
  rintro e W1 ⟨rfl, hb1⟩
  have HO1 := Lib.hid (HO0.out.keep hb1)
  have HS1 := Lib.hid (HS0.out.keep hb1)
  have HG1 := Lib.hid (HG0.out.below hb1)
  have HB1 := Lib.hid (grw_trans HB0.out (grw_below (b := b) hb1))
  clear hb1
  go_wp2_with fail
  refine (wordsWithRest_c W1).mono ?_
  rintro e W2 ⟨rfl, rfl⟩
  have hb2 := below_stS tabR W1
  have HO2 := Lib.hid (HO1.out.keep hb2)
  have HS2 := Lib.hid (HS1.out.keep hb2)
  have HG2 := Lib.hid (HG1.out.below hb2)
  have HB2 := Lib.hid (grw_trans HB1.out (grw_below (b := b) hb2))
  clear hb2
  have hl := look_stS Tryz.underlying86 (fun w => Tryz.zeroValue85 w) tabR word W1
  rw [hget] at hl
  simp only [Option.getD_some, fnV] at hl
  generalize stS tabR W1 = W2 at *
  go_wp2_with fail
  refine (H W2 HG2.out HS2.out).mono ?_
  rintro e W3 ⟨rfl, hS3, hg3⟩
  have HO3 := HO2.out.grw hg3 (by omega)
  have c3 := HO3.c
  have z3 := HO3.z
  have HB3 := Lib.hid (grw_trans HB2.out hg3)
  have HS3 := Lib.hid hS3
  clear hS3 hg3 HO3
  cases o with
  | some s =>
    dsimp only [resE]
    go_wp2_with fail
    refine leaves_cons (f := 58) (args := #[.pointer (some ⟨k, 0, none⟩)]) (by simp) (by simp [go_sem]) ?_
    refine (ans1_idle ⟨k, 0, none⟩ _).mono ?_
    rintro e u' w'' ⟨rfl, rfl, rfl⟩
    refine ⟨.string s, ?_, rfl, HS3.out.same (Below.heap_setCell _ _ _ _ (by simp; omega)), grw_new HB3.out (by omega)⟩
    simp [results, Tryz.results33, go_sem, c3]
  | none =>
    dsimp only [resE, refE]
    refine leaves_cons (f := 58) (args := #[.pointer (some ⟨k, 0, none⟩)]) (by simp) (by simp [go_sem]) ?_
    refine (ans1_panicking ⟨k, 0, none⟩ _ noB _ c3 z3).mono ?_
    rintro e u' w'' ⟨rfl, rfl, rfl⟩
    refine ⟨.string noB, ?_, rfl, HS3.out.same (Below.heap_setCell _ _ _ _ (by simp; omega)), grw_new HB3.out (by omega)⟩
    simp [results, Tryz.results33, go_sem, c3]
end Go.Proofs.YtmondgcehgmamaaGreatDoor

namespace Go.Proofs.YtmondgcehgmamaaGreatDoor
set_option linter.unusedSimpArgs false
set_option linter.unusedVariables false
open Go.RowKit

set_option maxRecDepth 100000 in
set_option maxHeartbeats 1000000 in
/-- a word that is none of those with a rest, and has one -/
theorem answer_whatR (b : Nat) (d c line word rest : ByteArray) (w : World) (hb : 10 ≤ b) (hs : line.size < 4294967281) (hG : Gx w) (hS : Sess b d c w)
    (hcut : Lib.cut (toL line) [32] = (toL word, toL rest, true)) (hget : getS word tabR = none) :
    Calls Tryz.prog 33 #[.pointer (some ⟨b, 0, none⟩), .string line] w (AnsPost b whatB d c w) := by
  have hmf : ∀ (fn : Fn) (first cap : Array Value) (w : World), (Instr.makeFunc fn first cap).run Tryz.prog w = .ok (.func fn first cap) w := fun _ _ _ _ => rfl
  have HS := Lib.hid hS
  have HG := Lib.hid hG
  have Lb := hS.lt
  have HC := Lib.hid (cut32 line)
  have HN := neq_nilR
  clear hS hG
  go_enter_defers Tryz.func33, Tryz.ntmps33
  go_wp2_with fail
  generalize hW : World.alloc _ _ = W0
  have hB0 : Below w.heap.size w W0 := by rw [← hW]; (first | ((repeat' with_reducible first | assumption | exact Below.refl _ _ | apply Blw.alloc | apply Blw.drew | apply Blw.drewN | (refine Blw.after ?_ (by assumption)) | (refine Blw.set ?_ (by first | (dsimp only; omega) | (simp; omega)) _)); done) | (repeat' (first | assumption | exact Below.refl _ _ | apply Blw.alloc | apply Blw.drew | apply Blw.drewN | (refine Blw.after ?_ (by assumption)) | (refine Blw.set ?_ (by first | (dsimp only; omega) | (simp; done) | (simp; omega)) _))))
  have HO0 := Lib.hid (show OutC w.heap.size ⟨#[]⟩ W0 from ⟨by rw [← hW]; clear hW hB0; go_simp, by rw [← hW]; clear hW hB0; go_simp⟩)
  have HS0 := Lib.hid (HS.out.keep hB0)
  have HG0 := Lib.hid (HG.out.below hB0)
  have HB0 := Lib.hid (grw_below (b := b) hB0)
  clear hW hB0
  generalize hk : w.heap.size = k at *
  refine (HC.out W0 hs HG0.out).mono ?_
  rw [hcut]
  simp only [bs_toL]
  rintro e W1 ⟨rfl, hb1⟩
  have HO1 := Lib.hid (HO0.out.keep hb1)
  have HS1 := Lib.hid (HS0.out.keep hb1)
  have HG1 := Lib.hid (HG0.out.below hb1)
  have HB1 := Lib.hid (grw_trans HB0.out (grw_below (b := b) hb1))
  clear hb1
  go_wp2_with fail
  refine (wordsWithRest_c W1).mono ?_
  rintro e W2 ⟨rfl, rfl⟩
  have hb2 := below_stS tabR W1
  have HO2 := Lib.hid (HO1.out.keep hb2)
  have HS2 := Lib.hid (HS1.out.keep hb2)
  have HG2 := Lib.hid (HG1.out.below hb2)
  have HB2 := Lib.hid (grw_trans HB1.out (grw_below (b := b) hb2))
  clear hb2
  have hl := look_stS Tryz.underlying86 (fun w => Tryz.zeroValue85 w) tabR word W1
  rw [hget] at hl
  simp only [Option.getD_none] at hl
  generalize stS tabR W1 = W2 at *
  go_wp2_with fail
  refine (wordsAlone_c W2).mono ?_
  rintro e W3 ⟨rfl, rfl⟩
  have hb3 := below_stS tabA W2
  have HO3 := Lib.hid (HO2.out.keep hb3)
  have HS3 := Lib.hid (HS2.out.keep hb3)
  have HG3 := Lib.hid (HG2.out.below hb3)
  have HB3 := Lib.hid (grw_trans HB2.out (grw_below (b := b) hb3))
  clear hb3
  have hlA := look_stS Tryz.underlying89 (fun w => Tryz.zeroValue88 w) tabA word W2
  generalize (getS word tabA).getD .nilFunc = fa at hlA
  generalize stS tabA W2 = W3 at *
  have c3 := HO3.out.c
  have z3 := HO3.out.z
  go_wp2_with fail
  refine leaves_cons (f := 58) (args := #[.pointer (some ⟨k, 0, none⟩)]) (by simp) (by simp [go_sem]) ?_
  refine (ans1_panicking ⟨k, 0, none⟩ _ whatB _ c3 z3).mono ?_
  rintro e u' w'' ⟨rfl, rfl, rfl⟩
  refine ⟨.string whatB, ?_, rfl, HS3.out.same (Below.heap_setCell _ _ _ _ (by simp; omega)), grw_new HB3.out (by omega)⟩
  simp [results, Tryz.results33, go_sem, c3]
set_option maxRecDepth 100000 in
set_option maxHeartbeats 1000000 in
/-- a word that is none of those alone, and is alone -/
theorem answer_whatA (b : Nat) (d c line word : ByteArray) (w : World) (hb : 10 ≤ b) (hs : line.size < 4294967281) (hG : Gx w) (hS : Sess b d c w)
    (hcut : Lib.cut (toL line) [32] = (toL word, [], false)) (hget : getS word tabA = none) :
    Calls Tryz.prog 33 #[.pointer (some ⟨b, 0, none⟩), .string line] w (AnsPost b whatB d c w) := by
  have hmf : ∀ (fn : Fn) (first cap : Array Value) (w : World), (Instr.makeFunc fn first cap).run Tryz.prog w = .ok (.func fn first cap) w := fun _ _ _ _ => rfl
  have HS := Lib.hid hS
  have HG := Lib.hid hG
  have Lb := hS.lt
  have HC := Lib.hid (cut32 line)
  have HN := neq_nilA
  clear hS hG
  go_enter_defers Tryz.func33, Tryz.ntmps33
  go_wp2_with fail
  generalize hW : World.alloc _ _ = W0
  have hB0 : Below w.heap.size w W0 := by rw [← hW]; (first | ((repeat' with_reducible first | assumption | exact Below.refl _ _ | apply Blw.alloc | apply Blw.drew | apply Blw.drewN | (refine Blw.after ?_ (by assumption)) | (refine Blw.set ?_ (by first | (dsimp only; omega) | (simp; omega)) _)); done) | (repeat' (first | assumption | exact Below.refl _ _ | apply Blw.alloc | apply Blw.drew | apply Blw.drewN | (refine Blw.after ?_ (by assumption)) | (refine Blw.set ?_ (by first | (dsimp only; omega) | (simp; done) | (simp; omega)) _))))
  have HO0 := Lib.hid (show OutC w.heap.size ⟨#[]⟩ W0 from ⟨by rw [← hW]; clear hW hB0; go_simp, by rw [← hW]; clear hW hB0; go_simp⟩)
  have HS0 := Lib.hid (HS.out.keep hB0)
  have HG0 := Lib.hid (HG.out.below hB0)
  have HB0 := Lib.hid (grw_below (b := b) hB0)
  clear hW hB0
  generalize hk : w.heap.size = k at *
  refine (HC.out W0 hs HG0.out).mono ?_
  rw [hcut]
  simp only [bs_toL]
  rintro e W1 ⟨rfl, hb1⟩
  have HO1 := Lib.hid (HO0.out.keep hb1)
  have HS1 := Lib.hid (HS0.out.keep hb1)
  have HG1 := Lib.hid (HG0.out.below hb1)
  have HB1 := Lib.hid (grw_trans HB0.out (grw_below (b := b) hb1))
  clear hb1
  go_wp2_with fail
  refine (wordsWithRest_c W1).mono ?_
  rintro e W2 ⟨rfl, rfl⟩
  have hb2 := below_stS tabR W1
  have HO2 := Lib.hid (HO1.out.keep hb2)
  have HS2 := Lib.hid (HS1.out.keep hb2)
  have HG2 := Lib.hid (HG1.out.below hb2)
  have HB2 := Lib.hid (grw_trans HB1.out (grw_below (b := b) hb2))
  clear hb2
  have hl := look_stS Tryz.underlying86 (fun w => Tryz.zeroValue85 w) tabR word W1
  generalize (getS word tabR).getD .nilFunc = fr at hl
  generalize stS tabR W1 = W2 at *
  go_wp2_with fail
  refine (wordsAlone_c W2).mono ?_
  rintro e W3 ⟨rfl, rfl⟩
  have hb3 := below_stS tabA W2
  have HO3 := Lib.hid (HO2.out.keep hb3)
  have HS3 := Lib.hid (HS2.out.keep hb3)
  have HG3 := Lib.hid (HG2.out.below hb3)
  have HB3 := Lib.hid (grw_trans HB2.out (grw_below (b := b) hb3))
  clear hb3
  have hlA := look_stS Tryz.underlying89 (fun w => Tryz.zeroValue88 w) tabA word W2
  rw [hget] at hlA
  simp only [Option.getD_none] at hlA
  generalize stS tabA W2 = W3 at *
  have c3 := HO3.out.c
  have z3 := HO3.out.z
  go_wp2_with fail
  refine leaves_cons (f := 58) (args := #[.pointer (some ⟨k, 0, none⟩)]) (by simp) (by simp [go_sem]) ?_
  refine (ans1_panicking ⟨k, 0, none⟩ _ whatB _ c3 z3).mono ?_
  rintro e u' w'' ⟨rfl, rfl, rfl⟩
  refine ⟨.string whatB, ?_, rfl, HS3.out.same (Below.heap_setCell _ _ _ _ (by simp; omega)), grw_new HB3.out (by omega)⟩
  simp [results, Tryz.results33, go_sem, c3]
set_option maxRecDepth 100000 in
set_option maxHeartbeats 1000000 in
/-- a word alone -/
theorem answer_alone (b n : Nat) (d c line word d' c' : ByteArray) (o : Option ByteArray) (w : World) (hb : 10 ≤ b) (hs : line.size < 4294967281) (hG : Gx w) (hS : Sess b d c w)
    (hcut : Lib.cut (toL line) [32] = (toL word, [], false)) (hget : getS word tabA = some (fnV n)) (hent : ∀ args w, (callFunc n args).run Tryz.prog w = .ok (.enter n args) w)
    (H : ∀ w', Gx w' → Sess b d c w' → Calls Tryz.prog n #[.pointer (some ⟨b, 0, none⟩)] w' (CmdPost b o d' c' w')) :
    Calls Tryz.prog 33 #[.pointer (some ⟨b, 0, none⟩), .string line] w (AnsPost b (o.getD noB) d' c' w) := by
  have hmf : ∀ (fn : Fn) (first cap : Array Value) (w : World), (Instr.makeFunc fn first cap).run Tryz.prog w = .ok (.func fn first cap) w := fun _ _ _ _ => rfl
  have HS := Lib.hid hS
  have HG := Lib.hid hG
  have Lb := hS.lt
  have HC := Lib.hid (cut32 line)
  have HN := neq_fnA n
  clear hS hG
  go_enter_defers Tryz.func33, Tryz.ntmps33
  go_wp2_with fail
  generalize hW : World.alloc _ _ = W0
  have hB0 : Below w.heap.size w W0 := by rw [← hW]; (first | ((repeat' with_reducible first | assumption | exact Below.refl _ _ | apply Blw.alloc | apply Blw.drew | apply Blw.drewN | (refine Blw.after ?_ (by assumption)) | (refine Blw.set ?_ (by first | (dsimp only; omega) | (simp; omega)) _)); done) | (repeat' (first | assumption | exact Below.refl _ _ | apply Blw.alloc | apply Blw.drew | apply Blw.drewN | (refine Blw.after ?_ (by assumption)) | (refine Blw.set ?_ (by first | (dsimp only; omega) | (simp; done) | (simp; omega)) _))))
  have HO0 := Lib.hid (show OutC w.heap.size ⟨#[]⟩ W0 from ⟨by rw [← hW]; clear hW hB0; go_simp, by rw [← hW]; clear hW hB0; go_simp⟩)
  have HS0 := Lib.hid (HS.out.keep hB0)
  have HG0 := Lib.hid (HG.out.below hB0)
  have HB0 := Lib.hid (grw_below (b := b) hB0)
  clear hW hB0
  generalize hk : w.heap.size = k at *
  refine (HC.out W0 hs HG0.out).mono ?_
  rw [hcut]
  simp only [bs_toL]
  rintro e W1 ⟨rfl, hb1⟩
  have HO1 := Lib.hid (HO0.out.keep hb1)
  have HS1 := Lib.hid (HS0.out.keep hb1)
  have HG1 := Lib.hid (HG0.out.below hb1)
  have HB1 := Lib.hid (grw_trans HB0.out (grw_below (b := b) hb1))
  clear hb1
  go_wp2_with fail
  refine (wordsWithRest_c W1).mono ?_
  rintro e W2 ⟨rfl, rfl⟩
  have hb2 := below_stS tabR W1
  have HO2 := Lib.hid (HO1.out.keep hb2)
  have HS2 := Lib.hid (HS1.out.keep hb2)
  have HG2 := Lib.hid (HG1.out.below hb2)
  have HB2 := Lib.hid (grw_trans HB1.out (grw_below (b := b) hb2))
  clear hb2
  have hl := look_stS Tryz.underlying86 (fun w => Tryz.zeroValue85 w) tabR word W1
  generalize (getS word tabR).getD .nilFunc = fr at hl
  generalize stS tabR W1 = W2 at *
  go_wp2_with fail
  refine (wordsAlone_c W2).mono ?_
  rintro e W3 ⟨rfl, rfl⟩
  have hb3 := below_stS tabA W2
  have HO3 := Lib.hid (HO2.out.keep hb3)
  have HS3 := Lib.hid (HS2.out.keep hb3)
  have HG3 := Lib.hid (HG2.out.below hb3)
  have HB3 := Lib.hid (grw_trans HB2.out (grw_below (b := b) hb3))
  clear hb3
  have hlA := look_stS Tryz.underlying89 (fun w => Tryz.zeroValue88 w) tabA word W2
  rw [hget] at hlA
  simp only [Option.getD_some, fnV] at hlA
  generalize stS tabA W2 = W3 at *
  go_wp2_with fail
  refine (H W3 HG3.out HS3.out).mono ?_
  rintro e W4 ⟨rfl, hS4, hg4⟩
  have HO4 := HO3.out.grw hg4 (by omega)
  have c3 := HO4.c
  have z3 := HO4.z
  have HB4 := Lib.hid (grw_trans HB3.out hg4)
  have HS4 := Lib.hid hS4
  clear hS4 hg4 HO4
  cases o with
  | some s =>
    dsimp only [resE]
    go_wp2_with fail
    refine leaves_cons (f := 58) (args := #[.pointer (some ⟨k, 0, none⟩)]) (by simp) (by simp [go_sem]) ?_
    refine (ans1_idle ⟨k, 0, none⟩ _).mono ?_
    rintro e u' w'' ⟨rfl, rfl, rfl⟩
    refine ⟨.string s, ?_, rfl, HS4.out.same (Below.heap_setCell _ _ _ _ (by simp; omega)), grw_new HB4.out (by omega)⟩
    simp [results, Tryz.results33, go_sem, c3]
  | none =>
    dsimp only [resE, refE]
    refine leaves_cons (f := 58) (args := #[.pointer (some ⟨k, 0, none⟩)]) (by simp) (by simp [go_sem]) ?_
    refine (ans1_panicking ⟨k, 0, none⟩ _ noB _ c3 z3).mono ?_
    rintro e u' w'' ⟨rfl, rfl, rfl⟩
    refine ⟨.string noB, ?_, rfl, HS4.out.same (Below.heap_setCell _ _ _ _ (by simp; omega)), grw_new HB4.out (by omega)⟩
    simp [results, Tryz.results33, go_sem, c3]
end Go.Proofs.YtmondgcehgmamaaGreatDoor

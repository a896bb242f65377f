/- Chapter 2, the model's side: the expansion of a number. -/
import Derived.Test.YtlcafjdinjdllabDoorDe2
namespace Go.Proofs.YtlcafjdinjdllabDoor
set_option linter.unusedSimpArgs false
set_option linter.unusedVariables false
open Go.RowKit

def ofV (x y : Int) : Value := if inB 1000000 x y then resD (dgs1 x y).reverse else .tuple #[.string ⟨#[]⟩, .bool false]
theorem ms_le {x y : Int} (hx : -1000000 ≤ x ∧ x ≤ 1000000) (hy : -1000000 ≤ y ∧ y ≤ 1000000) : ms x y ≤ 3000000000000 := by
  have key : ∀ a : Int, -1000000 ≤ a ∧ a ≤ 1000000 → a * a ≤ 1000000000000 := by
    intro a h
    have : 0 ≤ (1000000 - a) * (1000000 + a) := Int.mul_nonneg (by omega) (by omega)
    have e : (1000000 - a) * (1000000 + a) = 1000000000000 - a * a := by grind
    omega
  have h1 := key x hx
  have h2 := key y hy
  unfold ms
  split
  · unfold nm; omega
  · have := cntS_le 20 x y; omega
theorem toL_cons (d : Int) (t : ByteArray) : toL (bs [bitc d] ++ t) = bitc d :: toL t := by
  simp [toL, bs, ByteArray.data_append]

/-- the digits that have come up, from the last one on: with those that are left they are all -/
def Came (x0 y0 : Int) (pre : List UInt8) (x y : Int) : Prop := (pre = [] ∧ x = x0 ∧ y = y0) ∨ (pre ≠ [] ∧ pre ++ dgs x y = dgs1 x0 y0)
theorem Came.step {x0 y0 x y : Int} {pre : List UInt8} (h : Came x0 y0 pre x y) (hz : pre = [] ∨ ¬ (x = 0 ∧ y = 0)) : Came x0 y0 (pre ++ [bitc (lastD x y)]) (nX x y) (nY x y) := by
  right
  refine ⟨by simp, ?_⟩
  rcases h with ⟨rfl, rfl, rfl⟩ | ⟨hp, h⟩
  · rw [dgs1_step]; rfl
  · rw [dgs_step (hz.resolve_left hp)] at h
    rw [← h]; simp
theorem Came.done {x0 y0 : Int} {pre : List UInt8} (h : Came x0 y0 pre 0 0) (hp : pre ≠ []) : pre = dgs1 x0 y0 := by
  rcases h with ⟨rfl, _⟩ | ⟨_, h⟩
  · exact absurd rfl hp
  · rw [dgs_zero, List.append_nil] at h; exact h
def SOfRel (x0 y0 : Int) (w : World) (m : Nat) (v : Value) (wr : World) : Prop :=
  ∃ (x y : Int) (pre : List UInt8) (t : ByteArray), v = .string t ∧ toL t = pre.reverse ∧ (-1000000 ≤ x ∧ x ≤ 1000000) ∧ (-1000000 ≤ y ∧ y ≤ 1000000) ∧ Came x0 y0 pre x y ∧ pre.length + ms x y ≤ 3000000000001 ∧ m = ms x y + (if pre = [] then 1 else 0) ∧
    Below w.heap.size w wr ∧ wr.cell? ⟨w.heap.size, 0, none⟩ = some (.int .i64 x) ∧ wr.cell? ⟨w.heap.size, 1, none⟩ = some (.int .i64 y) ∧ wr.frozen? ⟨w.heap.size, 0, none⟩ = false ∧ wr.frozen? ⟨w.heap.size, 1, none⟩ = false

/-- one round's end -/
theorem SOfRel.step {x0 y0 x y : Int} {pre : List UInt8} {t : ByteArray} {w wr : World} (ht : toL t = pre.reverse) (hx : -1000000 ≤ x ∧ x ≤ 1000000) (hy : -1000000 ≤ y ∧ y ≤ 1000000) (hc : Came x0 y0 pre x y) (hl : pre.length + ms x y ≤ 3000000000001) (hz : pre = [] ∨ ¬ (x = 0 ∧ y = 0))
    (hB : Below w.heap.size w wr) (c0 : wr.cell? ⟨w.heap.size, 0, none⟩ = some (.int .i64 (nX x y))) (c1 : wr.cell? ⟨w.heap.size, 1, none⟩ = some (.int .i64 (nY x y))) (f0 : wr.frozen? ⟨w.heap.size, 0, none⟩ = false) (f1 : wr.frozen? ⟨w.heap.size, 1, none⟩ = false) :
    SOfRel x0 y0 w (ms (nX x y) (nY x y)) (.string (bs [bitc (lastD x y)] ++ t)) wr := by
  obtain ⟨hx', hy'⟩ := next_in hx hy
  have hm : ms (nX x y) (nY x y) ≤ ms x y ∧ (pre ≠ [] → ms (nX x y) (nY x y) < ms x y) := by
    by_cases h : x = 0 ∧ y = 0
    · obtain ⟨rfl, rfl⟩ := h
      exact ⟨by decide, fun hp => absurd (hz.resolve_left hp) (by simp)⟩
    · have := ms_less h; exact ⟨by omega, fun _ => this⟩
  refine ⟨nX x y, nY x y, pre ++ [bitc (lastD x y)], _, rfl, by rw [toL_cons, ht]; simp, hx', hy', hc.step hz, ?_, by simp, hB, c0, c1, f0, f1⟩
  rw [List.length_append, List.length_singleton]
  by_cases hp : pre = []
  · subst hp; have := ms_le hx' hy'; simp; omega
  · have := hm.2 hp; omega

set_option maxHeartbeats 2000000 in
theorem sDigitsOf_c (x0 y0 : Int) (w : World) : Calls Tryd.prog 31 #[pr x0 y0] w fun e w' => e = .returned (ofV x0 y0) ∧ Below w.heap.size w w' := by
  rcases Bool.eq_false_or_eq_true (inB 1000000 x0 y0) with hi | hi
  · have H := Lib.hid (show ofV x0 y0 = resD (dgs1 x0 y0).reverse by unfold ofV; rw [hi]; rfl)
    obtain ⟨x1, x2, y1, y2⟩ := inB_le hi
    go_enter Tryd.func31, Tryd.ntmps31
    go_wp2_with fail
    generalize hW : World.alloc _ _ = W0
    have kW0_13 : W0.cell? ⟨w.heap.size, 0, none⟩ = some (.int .i64 (x0)) := by rw [← hW]; clear hW; first | (go_simp; done) | ((repeat refine keepcell ((Below.refl _ _).alloc (Nat.le_refl _) _) ?_); go_simp; done) | (simp only [frozen?_alloc_cells]; go_simp; done)
    have zW0_13 : W0.frozen? ⟨w.heap.size, 0, none⟩ = false := by rw [← hW]; clear hW; first | (go_simp; done) | ((repeat refine keepcell ((Below.refl _ _).alloc (Nat.le_refl _) _) ?_); go_simp; done) | (simp only [frozen?_alloc_cells]; go_simp; done)
    have kW0_14 : W0.cell? ⟨w.heap.size, 1, none⟩ = some (.int .i64 (y0)) := by rw [← hW]; clear hW; first | (go_simp; done) | ((repeat refine keepcell ((Below.refl _ _).alloc (Nat.le_refl _) _) ?_); go_simp; done) | (simp only [frozen?_alloc_cells]; go_simp; done)
    have zW0_14 : W0.frozen? ⟨w.heap.size, 1, none⟩ = false := by rw [← hW]; clear hW; first | (go_simp; done) | ((repeat refine keepcell ((Below.refl _ _).alloc (Nat.le_refl _) _) ?_); go_simp; done) | (simp only [frozen?_alloc_cells]; go_simp; done)
    have : w.heap.size < W0.heap.size := World.block_lt_of_cell? W0 ⟨w.heap.size, 0, none⟩ (by assumption)
    have hBW0 : Below w.heap.size w W0 := by rw [← hW]; (repeat' (first | assumption | exact Below.refl _ _ | apply Blw.alloc | apply Blw.drew | apply Blw.drewN | (refine Blw.after ?_ (by assumption)) | (refine Blw.set ?_ (by first | (dsimp only; omega) | (simp; done) | (simp; omega)) _)))
    have hsW0 := hBW0.size
    clear hW
    go_wp2_with (first | (go_at_call 58; refine (sGaussSmall_c _ _ _).mono ?_; rintro e w1 ⟨rfl, hb⟩; have hk : Hld W0 w1 := heldM (by (repeat' (first | assumption | exact Below.refl _ _ | apply Blw.alloc | apply Blw.drew | apply Blw.drewN | (refine Blw.after ?_ (by assumption)) | (refine Blw.set ?_ (by first | (dsimp only; omega) | (simp; done) | (simp; omega)) _)))); have hk1 := hk.1))
    have S0 := Lib.hid (show SOfRel x0 y0 w (ms x0 y0 + 1) (.string ⟨#[]⟩) w1 from ⟨x0, y0, [], ⟨#[]⟩, rfl, rfl, ⟨by omega, by omega⟩, ⟨by omega, by omega⟩, Or.inl ⟨rfl, rfl, rfl⟩, by have := ms_le (x := x0) (y := y0) ⟨by omega, by omega⟩ ⟨by omega, by omega⟩; simp; omega, by simp, by (repeat' (first | assumption | exact Below.refl _ _ | apply Blw.alloc | apply Blw.drew | apply Blw.drewN | (refine Blw.after ?_ (by assumption)) | (refine Blw.set ?_ (by first | (dsimp only; omega) | (simp; done) | (simp; omega)) _))), by go_simp, by go_simp, by go_simp, by go_simp⟩)
    clear hi x1 x2 y1 y2 hb hk hk1
    try clear kW0_13; try clear zW0_13; try clear kW0_14; try clear zW0_14
    go_loopg [4] (ms x0 y0 + 1) (fun m v wr => SOfRel x0 y0 w m v wr)
    case atStart => exact S0.out
    case round =>
      clear S0
      obtain ⟨x, y, pre, t, rfl, ht, ⟨x1, x2⟩, ⟨y1, y2⟩, hc, hl, hm, hB, c0, c1, f0, f1⟩ := hrel
      have L0 : w.heap.size < wr.heap.size := World.block_lt_of_cell? wr _ c0
      have ST := Lib.hid (fun (hz : pre = [] ∨ ¬ (x = 0 ∧ y = 0)) (W : World) => SOfRel.step (w := w) (wr := W) ht ⟨x1, x2⟩ ⟨y1, y2⟩ hc hl hz)
      have HT := Lib.hid ht
      have HM := Lib.hid hm
      have hsz : t.size ≤ 3000000000001 := by rw [← toL_len, ht, List.length_reverse]; omega
      have HC := Lib.hid hc
      clear ht hm hc
      by_cases hz : x = 0 ∧ y = 0
      · obtain ⟨rfl, rfl⟩ := hz
        by_cases hp : pre = []
        · subst hp
          obtain rfl : t = ⟨#[]⟩ := toL_ext (by rw [HT.out]; rfl)
          have hb1 : (bs [bitc (lastD 0 0)]).size = 1 := rfl
          go_wp2_with (fail)
          refine (l2Last_c 0 0 _ ⟨⟨by omega, by omega⟩, ⟨by omega, by omega⟩⟩).mono ?_
          rintro e wA ⟨rfl, hbwA⟩
          have hkwA : Hld wr wA := heldM (by (repeat' (first | assumption | exact Below.refl _ _ | apply Blw.alloc | apply Blw.drew | apply Blw.drewN | (refine Blw.after ?_ (by assumption)) | (refine Blw.set ?_ (by first | (dsimp only; omega) | (simp; done) | (simp; omega)) _))))
          have hlwA := hkwA.1
          have hswA := hkwA.2.2.2
          try (have : w.heap.size < wA.heap.size := by omega)
          have LA : w.heap.size < wA.heap.size := by omega
          go_wp2_with (first | (go_at_call 60; refine (l2Bit_c _ _ (lastD_01 0 0)).mono ?_; rintro e w1 ⟨rfl, rfl⟩))
          go_roundg (ms (nX 0 0) (nY 0 0))
          case measure => rw [HM.out]; simp; decide
          case rel => exact ST.out (by first | exact Or.inl rfl | exact Or.inl trivial | exact trivial) _ (by (repeat' (first | assumption | exact Below.refl _ _ | apply Blw.alloc | apply Blw.drew | apply Blw.drewN | (refine Blw.after ?_ (by assumption)) | (refine Blw.set ?_ (by first | (dsimp only; omega) | (simp; done) | (simp; omega)) _)))) (by go_simp) (by go_simp) (by go_simp) (by go_simp)
        · have HP := Lib.hid hp
          have e1 : ¬ t.toList = [] := by rw [toList_toL, HT.out]; simpa using hp
          have e2 : t.toList.isEmpty = false := by rw [toList_toL, HT.out]; simpa using hp
          have HR := Lib.hid (show resD (toL t) = resD (dgs1 x0 y0).reverse by rw [HT.out, HC.out.done hp])
          clear hp
          go_wp2_with (first | (go_at_call 43; refine (l2Done_c _ _).mono ?_; rintro e w1 ⟨rfl, rfl⟩))
          go_ret2
          exact ⟨by rw [H.out, ← HR.out]; rfl, by (repeat' (first | assumption | exact Below.refl _ _ | apply Blw.alloc | apply Blw.drew | apply Blw.drewN | (refine Blw.after ?_ (by assumption)) | (refine Blw.set ?_ (by first | (dsimp only; omega) | (simp; done) | (simp; omega)) _)))⟩
      · have T : ¬ x = 0 ∨ (x = 0 ∧ ¬ y = 0) := by omega
        have HZ := Lib.hid hz
        clear hz
        rcases T with T | ⟨rfl, T⟩
        · have HQ := Lib.hid (ms_less HZ.out)
          have hb1 : (bs [bitc (lastD x y)]).size = 1 := rfl
          go_wp2_with (fail)
          refine (l2Last_c x y _ ⟨⟨by omega, by omega⟩, ⟨by omega, by omega⟩⟩).mono ?_
          rintro e wA ⟨rfl, hbwA⟩
          have hkwA : Hld wr wA := heldM (by (repeat' (first | assumption | exact Below.refl _ _ | apply Blw.alloc | apply Blw.drew | apply Blw.drewN | (refine Blw.after ?_ (by assumption)) | (refine Blw.set ?_ (by first | (dsimp only; omega) | (simp; done) | (simp; omega)) _))))
          have hlwA := hkwA.1
          have hswA := hkwA.2.2.2
          try (have : w.heap.size < wA.heap.size := by omega)
          have LA : w.heap.size < wA.heap.size := by omega
          go_wp2_with (first | (go_at_call 60; refine (l2Bit_c _ _ (lastD_01 x y)).mono ?_; rintro e w1 ⟨rfl, rfl⟩))
          go_roundg (ms (nX x y) (nY x y))
          case measure => rw [HM.out]; have := HQ.out; omega
          case rel => exact ST.out (Or.inr HZ.out) _ (by (repeat' (first | assumption | exact Below.refl _ _ | apply Blw.alloc | apply Blw.drew | apply Blw.drewN | (refine Blw.after ?_ (by assumption)) | (refine Blw.set ?_ (by first | (dsimp only; omega) | (simp; done) | (simp; omega)) _)))) (by go_simp) (by go_simp) (by go_simp) (by go_simp)
        · have HQ := Lib.hid (ms_less HZ.out)
          have hb1 : (bs [bitc (lastD 0 y)]).size = 1 := rfl
          go_wp2_with (fail)
          refine (l2Last_c 0 y _ ⟨⟨by omega, by omega⟩, ⟨by omega, by omega⟩⟩).mono ?_
          rintro e wA ⟨rfl, hbwA⟩
          have hkwA : Hld wr wA := heldM (by (repeat' (first | assumption | exact Below.refl _ _ | apply Blw.alloc | apply Blw.drew | apply Blw.drewN | (refine Blw.after ?_ (by assumption)) | (refine Blw.set ?_ (by first | (dsimp only; omega) | (simp; done) | (simp; omega)) _))))
          have hlwA := hkwA.1
          have hswA := hkwA.2.2.2
          try (have : w.heap.size < wA.heap.size := by omega)
          have LA : w.heap.size < wA.heap.size := by omega
          go_wp2_with (first | (go_at_call 60; refine (l2Bit_c _ _ (lastD_01 0 y)).mono ?_; rintro e w1 ⟨rfl, rfl⟩))
          go_roundg (ms (nX 0 y) (nY 0 y))
          case measure => rw [HM.out]; have := HQ.out; omega
          case rel => exact ST.out (Or.inr HZ.out) _ (by (repeat' (first | assumption | exact Below.refl _ _ | apply Blw.alloc | apply Blw.drew | apply Blw.drewN | (refine Blw.after ?_ (by assumption)) | (refine Blw.set ?_ (by first | (dsimp only; omega) | (simp; done) | (simp; omega)) _)))) (by go_simp) (by go_simp) (by go_simp) (by go_simp)
  · have H := Lib.hid (show ofV x0 y0 = .tuple #[.string ⟨#[]⟩, .bool false] by unfold ofV; rw [hi]; rfl)
    go_enter Tryd.func31, Tryd.ntmps31
    go_wp2_with fail
    generalize hW : World.alloc _ _ = W0
    have kW0_15 : W0.cell? ⟨w.heap.size, 0, none⟩ = some (.int .i64 (x0)) := by rw [← hW]; clear hW; first | (go_simp; done) | ((repeat refine keepcell ((Below.refl _ _).alloc (Nat.le_refl _) _) ?_); go_simp; done) | (simp only [frozen?_alloc_cells]; go_simp; done)
    have zW0_15 : W0.frozen? ⟨w.heap.size, 0, none⟩ = false := by rw [← hW]; clear hW; first | (go_simp; done) | ((repeat refine keepcell ((Below.refl _ _).alloc (Nat.le_refl _) _) ?_); go_simp; done) | (simp only [frozen?_alloc_cells]; go_simp; done)
    have kW0_16 : W0.cell? ⟨w.heap.size, 1, none⟩ = some (.int .i64 (y0)) := by rw [← hW]; clear hW; first | (go_simp; done) | ((repeat refine keepcell ((Below.refl _ _).alloc (Nat.le_refl _) _) ?_); go_simp; done) | (simp only [frozen?_alloc_cells]; go_simp; done)
    have zW0_16 : W0.frozen? ⟨w.heap.size, 1, none⟩ = false := by rw [← hW]; clear hW; first | (go_simp; done) | ((repeat refine keepcell ((Below.refl _ _).alloc (Nat.le_refl _) _) ?_); go_simp; done) | (simp only [frozen?_alloc_cells]; go_simp; done)
    have : w.heap.size < W0.heap.size := World.block_lt_of_cell? W0 ⟨w.heap.size, 0, none⟩ (by assumption)
    have hBW0 : Below w.heap.size w W0 := by rw [← hW]; (repeat' (first | assumption | exact Below.refl _ _ | apply Blw.alloc | apply Blw.drew | apply Blw.drewN | (refine Blw.after ?_ (by assumption)) | (refine Blw.set ?_ (by first | (dsimp only; omega) | (simp; done) | (simp; omega)) _)))
    have hsW0 := hBW0.size
    clear hW
    go_wp2_with (first | (go_at_call 58; refine (sGaussSmall_c _ _ _).mono ?_; rintro e w1 ⟨rfl, hb⟩; have hk : Hld W0 w1 := heldM (by (repeat' (first | assumption | exact Below.refl _ _ | apply Blw.alloc | apply Blw.drew | apply Blw.drewN | (refine Blw.after ?_ (by assumption)) | (refine Blw.set ?_ (by first | (dsimp only; omega) | (simp; done) | (simp; omega)) _)))); have hk1 := hk.1))
    go_ret2
    exact ⟨by rw [H.out]; rfl, by (repeat' (first | assumption | exact Below.refl _ _ | apply Blw.alloc | apply Blw.drew | apply Blw.drewN | (refine Blw.after ?_ (by assumption)) | (refine Blw.set ?_ (by first | (dsimp only; omega) | (simp; done) | (simp; omega)) _)))⟩
end Go.Proofs.YtlcafjdinjdllabDoor

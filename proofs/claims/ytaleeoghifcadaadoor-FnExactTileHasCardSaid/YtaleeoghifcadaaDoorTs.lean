/- Chapter 6, the model's side: what stands behind the last digits and ahead of them. No law is stated here. -/
import Derived.Test.YtaleeoghifcadaaDoorTl
import Derived.Test.YtaleeoghifcadaaDoorDe
import Derived.Test.YtaleeoghifcadaaDoorEq
import Derived.Test.YtaleeoghifcadaaDoorOw
namespace Go.Proofs.YtaleeoghifcadaaDoor
set_option linter.unusedSimpArgs false
set_option linter.unusedVariables false
open Go.RowKit

def TailRel (x y : Int) (n : Nat) (w : World) (m : Nat) (i : Value) (wr : World) : Prop :=
  ∃ k : Nat, k + m = n ∧ i = .int .i64 k ∧ Below w.heap.size w wr ∧ Own2 wr w.heap.size (qn k (x, y)).1 (qn k (x, y)).2 ∧ Own2 wr (w.heap.size + 1) 0 0 ∧ Own2 wr (w.heap.size + 2) 0 0 ∧
    Own2 wr (w.heap.size + 3) (rn k (x, y)).1 (rn k (x, y)).2 ∧ Own2 wr (w.heap.size + 4) (bpw k).1 (bpw k).2
theorem rn_step0 {n : Nat} {z : ZZ} (h : ld (qn n z) = 0) : rn (n + 1) z = ((rn n z).1, (rn n z).2) := by
  show ((rn n z).1 + ld (qn n z) * (bpw n).1, (rn n z).2 + ld (qn n z) * (bpw n).2) = _
  rw [h]; simp
theorem rn_step1 {n : Nat} {z : ZZ} (h : ld (qn n z) = 1) : rn (n + 1) z = ((rn n z).1 + (bpw n).1, (rn n z).2 + (bpw n).2) := by
  show ((rn n z).1 + ld (qn n z) * (bpw n).1, (rn n z).2 + ld (qn n z) * (bpw n).2) = _
  rw [h]; simp
set_option maxRecDepth 100000 in
set_option maxHeartbeats 4000000 in
theorem l6tTail_c (x y : Int) (n : Nat) (w : World) (hn : n ≤ 13) (h : (-1000000 ≤ x ∧ x ≤ 1000000) ∧ (-1000000 ≤ y ∧ y ≤ 1000000)) : Calls Tryd.prog 50 #[pr x y, .int .i64 n] w fun e w' => e = .returned (.tuple #[pr (qn n (x, y)).1 (qn n (x, y)).2, pr (rn n (x, y)).1 (rn n (x, y)).2]) ∧ Below w.heap.size w w' := by
  have HQ := Lib.hid (fun k => qn_in (k := 1000000) (z := (x, y)) h.1 h.2 k)
  clear h
  go_enter Tryd.func50, Tryd.ntmps50
  go_wp2
  generalize hW : World.alloc _ _ = W0
  have kW0_1 : W0.cell? ⟨w.heap.size, 0, none⟩ = some (.int .i64 (x)) := by rw [← hW]; clear hW; first | (go_simp; done) | ((repeat refine keepcell ((Below.refl _ _).alloc (Nat.le_refl _) _) ?_); go_simp; done) | (simp only [frozen?_alloc_cells]; go_simp; done)
  have zW0_1 : W0.frozen? ⟨w.heap.size, 0, none⟩ = false := by rw [← hW]; clear hW; first | (go_simp; done) | ((repeat refine keepcell ((Below.refl _ _).alloc (Nat.le_refl _) _) ?_); go_simp; done) | (simp only [frozen?_alloc_cells]; go_simp; done)
  have kW0_2 : W0.cell? ⟨w.heap.size, 1, none⟩ = some (.int .i64 (y)) := by rw [← hW]; clear hW; first | (go_simp; done) | ((repeat refine keepcell ((Below.refl _ _).alloc (Nat.le_refl _) _) ?_); go_simp; done) | (simp only [frozen?_alloc_cells]; go_simp; done)
  have zW0_2 : W0.frozen? ⟨w.heap.size, 1, none⟩ = false := by rw [← hW]; clear hW; first | (go_simp; done) | ((repeat refine keepcell ((Below.refl _ _).alloc (Nat.le_refl _) _) ?_); go_simp; done) | (simp only [frozen?_alloc_cells]; go_simp; done)
  have : w.heap.size < W0.heap.size := World.block_lt_of_cell? W0 ⟨w.heap.size, 0, none⟩ (by assumption)
  have kW0_3 : W0.cell? ⟨w.heap.size + 1, 0, none⟩ = some (.int .i64 (0)) := by rw [← hW]; clear hW; first | (go_simp; done) | ((repeat refine keepcell ((Below.refl _ _).alloc (Nat.le_refl _) _) ?_); go_simp; done) | (simp only [frozen?_alloc_cells]; go_simp; done)
  have zW0_3 : W0.frozen? ⟨w.heap.size + 1, 0, none⟩ = false := by rw [← hW]; clear hW; first | (go_simp; done) | ((repeat refine keepcell ((Below.refl _ _).alloc (Nat.le_refl _) _) ?_); go_simp; done) | (simp only [frozen?_alloc_cells]; go_simp; done)
  have kW0_4 : W0.cell? ⟨w.heap.size + 1, 1, none⟩ = some (.int .i64 (0)) := by rw [← hW]; clear hW; first | (go_simp; done) | ((repeat refine keepcell ((Below.refl _ _).alloc (Nat.le_refl _) _) ?_); go_simp; done) | (simp only [frozen?_alloc_cells]; go_simp; done)
  have zW0_4 : W0.frozen? ⟨w.heap.size + 1, 1, none⟩ = false := by rw [← hW]; clear hW; first | (go_simp; done) | ((repeat refine keepcell ((Below.refl _ _).alloc (Nat.le_refl _) _) ?_); go_simp; done) | (simp only [frozen?_alloc_cells]; go_simp; done)
  have : w.heap.size + 1 < W0.heap.size := World.block_lt_of_cell? W0 ⟨w.heap.size + 1, 0, none⟩ (by assumption)
  have kW0_5 : W0.cell? ⟨w.heap.size + 2, 0, none⟩ = some (.int .i64 (0)) := by rw [← hW]; clear hW; first | (go_simp; done) | ((repeat refine keepcell ((Below.refl _ _).alloc (Nat.le_refl _) _) ?_); go_simp; done) | (simp only [frozen?_alloc_cells]; go_simp; done)
  have zW0_5 : W0.frozen? ⟨w.heap.size + 2, 0, none⟩ = false := by rw [← hW]; clear hW; first | (go_simp; done) | ((repeat refine keepcell ((Below.refl _ _).alloc (Nat.le_refl _) _) ?_); go_simp; done) | (simp only [frozen?_alloc_cells]; go_simp; done)
  have kW0_6 : W0.cell? ⟨w.heap.size + 2, 1, none⟩ = some (.int .i64 (0)) := by rw [← hW]; clear hW; first | (go_simp; done) | ((repeat refine keepcell ((Below.refl _ _).alloc (Nat.le_refl _) _) ?_); go_simp; done) | (simp only [frozen?_alloc_cells]; go_simp; done)
  have zW0_6 : W0.frozen? ⟨w.heap.size + 2, 1, none⟩ = false := by rw [← hW]; clear hW; first | (go_simp; done) | ((repeat refine keepcell ((Below.refl _ _).alloc (Nat.le_refl _) _) ?_); go_simp; done) | (simp only [frozen?_alloc_cells]; go_simp; done)
  have : w.heap.size + 2 < W0.heap.size := World.block_lt_of_cell? W0 ⟨w.heap.size + 2, 0, none⟩ (by assumption)
  have kW0_7 : W0.cell? ⟨w.heap.size + 3, 0, none⟩ = some (.int .i64 (0)) := by rw [← hW]; clear hW; first | (go_simp; done) | ((repeat refine keepcell ((Below.refl _ _).alloc (Nat.le_refl _) _) ?_); go_simp; done) | (simp only [frozen?_alloc_cells]; go_simp; done)
  have zW0_7 : W0.frozen? ⟨w.heap.size + 3, 0, none⟩ = false := by rw [← hW]; clear hW; first | (go_simp; done) | ((repeat refine keepcell ((Below.refl _ _).alloc (Nat.le_refl _) _) ?_); go_simp; done) | (simp only [frozen?_alloc_cells]; go_simp; done)
  have kW0_8 : W0.cell? ⟨w.heap.size + 3, 1, none⟩ = some (.int .i64 (0)) := by rw [← hW]; clear hW; first | (go_simp; done) | ((repeat refine keepcell ((Below.refl _ _).alloc (Nat.le_refl _) _) ?_); go_simp; done) | (simp only [frozen?_alloc_cells]; go_simp; done)
  have zW0_8 : W0.frozen? ⟨w.heap.size + 3, 1, none⟩ = false := by rw [← hW]; clear hW; first | (go_simp; done) | ((repeat refine keepcell ((Below.refl _ _).alloc (Nat.le_refl _) _) ?_); go_simp; done) | (simp only [frozen?_alloc_cells]; go_simp; done)
  have : w.heap.size + 3 < W0.heap.size := World.block_lt_of_cell? W0 ⟨w.heap.size + 3, 0, none⟩ (by assumption)
  have kW0_9 : W0.cell? ⟨w.heap.size + 4, 0, none⟩ = some (.int .i64 (1)) := by rw [← hW]; clear hW; first | (go_simp; done) | ((repeat refine keepcell ((Below.refl _ _).alloc (Nat.le_refl _) _) ?_); go_simp; done) | (simp only [frozen?_alloc_cells]; go_simp; done)
  have zW0_9 : W0.frozen? ⟨w.heap.size + 4, 0, none⟩ = false := by rw [← hW]; clear hW; first | (go_simp; done) | ((repeat refine keepcell ((Below.refl _ _).alloc (Nat.le_refl _) _) ?_); go_simp; done) | (simp only [frozen?_alloc_cells]; go_simp; done)
  have kW0_10 : W0.cell? ⟨w.heap.size + 4, 1, none⟩ = some (.int .i64 (0)) := by rw [← hW]; clear hW; first | (go_simp; done) | ((repeat refine keepcell ((Below.refl _ _).alloc (Nat.le_refl _) _) ?_); go_simp; done) | (simp only [frozen?_alloc_cells]; go_simp; done)
  have zW0_10 : W0.frozen? ⟨w.heap.size + 4, 1, none⟩ = false := by rw [← hW]; clear hW; first | (go_simp; done) | ((repeat refine keepcell ((Below.refl _ _).alloc (Nat.le_refl _) _) ?_); go_simp; done) | (simp only [frozen?_alloc_cells]; go_simp; done)
  have : w.heap.size + 4 < W0.heap.size := World.block_lt_of_cell? W0 ⟨w.heap.size + 4, 0, none⟩ (by assumption)
  have hBW0 : Below w.heap.size w W0 := by rw [← hW]; (first | ((repeat' with_reducible first | assumption | exact Below.refl _ _ | apply Blw.alloc | apply Blw.drew | apply Blw.drewN | (refine Blw.after ?_ (by assumption)) | (refine Blw.set ?_ (by first | (dsimp only; omega) | (simp; omega)) _)); done) | (repeat' (first | assumption | exact Below.refl _ _ | apply Blw.alloc | apply Blw.drew | apply Blw.drewN | (refine Blw.after ?_ (by assumption)) | (refine Blw.set ?_ (by first | (dsimp only; omega) | (simp; done) | (simp; omega)) _))))
  have hsW0 := hBW0.size
  clear hW
  go_loopg [8] n (fun m i wr => TailRel x y n w m i wr)
  case atStart => exact ⟨0, by omega, rfl, hBW0, ⟨by assumption, by assumption, by assumption, by assumption⟩, ⟨by assumption, by assumption, by assumption, by assumption⟩, ⟨by assumption, by assumption, by assumption, by assumption⟩, ⟨by assumption, by assumption, by assumption, by assumption⟩, ⟨by assumption, by assumption, by assumption, by assumption⟩⟩
  case round =>
    try clear kW0_1; try clear zW0_1; try clear kW0_2; try clear zW0_2; try clear kW0_3; try clear zW0_3; try clear kW0_4; try clear zW0_4; try clear kW0_5; try clear zW0_5; try clear kW0_6; try clear zW0_6; try clear kW0_7; try clear zW0_7; try clear kW0_8; try clear zW0_8; try clear kW0_9; try clear zW0_9; try clear kW0_10; try clear zW0_10
    obtain ⟨k, hk, rfl, hBw, O0, O1, O2, O3, O4⟩ := hrel
    have L4 := O4.lt
    have L0 : w.heap.size < wr.heap.size := by omega
    have L1 : w.heap.size + 1 < wr.heap.size := by omega
    have L2 : w.heap.size + 2 < wr.heap.size := by omega
    have L3 : w.heap.size + 3 < wr.heap.size := by omega
    by_cases hlt : k < n
    · obtain ⟨⟨u1, u2⟩, u3, u4⟩ := HQ.out k
      have hb := bpw_in (n := k) (by omega)
      have hr := rn_in (x, y) k (by omega)
      have hbn : bpw (k + 1) = (-(bpw k).1 - (bpw k).2, (bpw k).1 - (bpw k).2) := by show sd (bpw k) 0 = _; simp [sd]
      have hqn : qn (k + 1) (x, y) = (nX (qn k (x, y)).1 (qn k (x, y)).2, nY (qn k (x, y)).1 (qn k (x, y)).2) := rfl
      have hld : ld (qn k (x, y)) = lastD (qn k (x, y)).1 (qn k (x, y)).2 := rfl
      rcases ld_01 (qn k (x, y)) with hd | hd
      · have hrn := rn_step0 hd
        rw [hld] at hd
        have HN := Lib.hid (And.intro hbn (And.intro hqn hrn))
        clear hbn hqn hrn hld
        generalize (qn k (x, y)).1 = X at *
        generalize (qn k (x, y)).2 = Y at *
        generalize (rn k (x, y)).1 = R at *
        generalize (rn k (x, y)).2 = I at *
        generalize (bpw k).1 = A at *
        generalize (bpw k).2 = C at *
        obtain ⟨q0, q1, f00, f01⟩ := id O0
        obtain ⟨r0, r1, f30, f31⟩ := id O3
        obtain ⟨p0, p1, f40, f41⟩ := id O4
        have HO := Lib.hid (And.intro O0 (And.intro O1 (And.intro O2 (And.intro O3 O4))))
        clear O0 O1 O2 O3 O4
        have n2 : -60000 ≤ R ∧ R ≤ 60000 ∧ -60000 ≤ I ∧ I ≤ 60000 := by omega
        have n1 : -4096 ≤ A ∧ A ≤ 4096 ∧ -4096 ≤ C ∧ C ≤ 4096 := by omega
        clear hb hr
        go_wp2_with (fail)
        refine (l2Last_c X Y _ ⟨⟨by omega, by omega⟩, ⟨by omega, by omega⟩⟩).mono ?_
        rintro e wA ⟨rfl, hbwA⟩
        have hkwA : Hld wr wA := heldM (by (first | ((repeat' with_reducible first | assumption | exact Below.refl _ _ | apply Blw.alloc | apply Blw.drew | apply Blw.drewN | (refine Blw.after ?_ (by assumption)) | (refine Blw.set ?_ (by first | (dsimp only; omega) | (simp; omega)) _)); done) | (repeat' (first | assumption | exact Below.refl _ _ | apply Blw.alloc | apply Blw.drew | apply Blw.drewN | (refine Blw.after ?_ (by assumption)) | (refine Blw.set ?_ (by first | (dsimp only; omega) | (simp; done) | (simp; omega)) _)))))
        have hlwA := hkwA.1
        have hswA := hkwA.2.2.2
        try (have : w.heap.size < wA.heap.size := by omega)
        try (have : w.heap.size + 1 < wA.heap.size := by omega)
        try (have : w.heap.size + 2 < wA.heap.size := by omega)
        try (have : w.heap.size + 3 < wA.heap.size := by omega)
        try (have : w.heap.size + 4 < wA.heap.size := by omega)
        rw [hd]
        go_wp2
        go_roundg (gk - 1)
        case measure => omega
        case rel =>
          obtain ⟨hbn, hqn, hrn⟩ := HN.out
          obtain ⟨O0, O1, O2, O3, O4⟩ := HO.out
          replace O0 := O0.below hbwA L0
          replace O1 := O1.below hbwA L1
          replace O2 := O2.below hbwA L2
          replace O3 := O3.below hbwA L3
          replace O4 := O4.below hbwA L4
          refine ⟨k + 1, by omega, by go_num, by (first | ((repeat' with_reducible first | assumption | exact Below.refl _ _ | apply Blw.alloc | apply Blw.drew | apply Blw.drewN | (refine Blw.after ?_ (by assumption)) | (refine Blw.set ?_ (by first | (dsimp only; omega) | (simp; omega)) _)); done) | (repeat' (first | assumption | exact Below.refl _ _ | apply Blw.alloc | apply Blw.drew | apply Blw.drewN | (refine Blw.after ?_ (by assumption)) | (refine Blw.set ?_ (by first | (dsimp only; omega) | (simp; done) | (simp; omega)) _)))), ?_, ?_, ?_, ?_, ?_⟩
          · rw [hqn]; dsimp only; ((try simp only [Nat.add_assoc, Nat.reduceAdd]) <;> (repeat with_reducible first | assumption | exact Own2.x (by assumption) | apply Own2X.put | (refine Own2.set ?_ (by omega)) | (refine Own2.alloc ?_ _) | (refine Own2X.set ?_ (by omega)) | (refine Own2X.alloc ?_ _)))
          · ((try simp only [Nat.add_assoc, Nat.reduceAdd]) <;> (repeat with_reducible first | assumption | exact Own2.x (by assumption) | apply Own2X.put | (refine Own2.set ?_ (by omega)) | (refine Own2.alloc ?_ _) | (refine Own2X.set ?_ (by omega)) | (refine Own2X.alloc ?_ _)))
          · ((try simp only [Nat.add_assoc, Nat.reduceAdd]) <;> (repeat with_reducible first | assumption | exact Own2.x (by assumption) | apply Own2X.put | (refine Own2.set ?_ (by omega)) | (refine Own2.alloc ?_ _) | (refine Own2X.set ?_ (by omega)) | (refine Own2X.alloc ?_ _)))
          · rw [hrn]; dsimp only; ((try simp only [Nat.add_assoc, Nat.reduceAdd]) <;> (repeat with_reducible first | assumption | exact Own2.x (by assumption) | apply Own2X.put | (refine Own2.set ?_ (by omega)) | (refine Own2.alloc ?_ _) | (refine Own2X.set ?_ (by omega)) | (refine Own2X.alloc ?_ _)))
          · rw [hbn]; dsimp only; ((try simp only [Nat.add_assoc, Nat.reduceAdd]) <;> (repeat with_reducible first | assumption | exact Own2.x (by assumption) | apply Own2X.put | (refine Own2.set ?_ (by omega)) | (refine Own2.alloc ?_ _) | (refine Own2X.set ?_ (by omega)) | (refine Own2X.alloc ?_ _)))
      · have hrn := rn_step1 hd
        rw [hld] at hd
        have HN := Lib.hid (And.intro hbn (And.intro hqn hrn))
        clear hbn hqn hrn hld
        generalize (qn k (x, y)).1 = X at *
        generalize (qn k (x, y)).2 = Y at *
        generalize (rn k (x, y)).1 = R at *
        generalize (rn k (x, y)).2 = I at *
        generalize (bpw k).1 = A at *
        generalize (bpw k).2 = C at *
        obtain ⟨q0, q1, f00, f01⟩ := id O0
        obtain ⟨r0, r1, f30, f31⟩ := id O3
        obtain ⟨p0, p1, f40, f41⟩ := id O4
        have HO := Lib.hid (And.intro O0 (And.intro O1 (And.intro O2 (And.intro O3 O4))))
        clear O0 O1 O2 O3 O4
        have n2 : -60000 ≤ R ∧ R ≤ 60000 ∧ -60000 ≤ I ∧ I ≤ 60000 := by omega
        have n1 : -4096 ≤ A ∧ A ≤ 4096 ∧ -4096 ≤ C ∧ C ≤ 4096 := by omega
        clear hb hr
        go_wp2_with (fail)
        refine (l2Last_c X Y _ ⟨⟨by omega, by omega⟩, ⟨by omega, by omega⟩⟩).mono ?_
        rintro e wA ⟨rfl, hbwA⟩
        have hkwA : Hld wr wA := heldM (by (first | ((repeat' with_reducible first | assumption | exact Below.refl _ _ | apply Blw.alloc | apply Blw.drew | apply Blw.drewN | (refine Blw.after ?_ (by assumption)) | (refine Blw.set ?_ (by first | (dsimp only; omega) | (simp; omega)) _)); done) | (repeat' (first | assumption | exact Below.refl _ _ | apply Blw.alloc | apply Blw.drew | apply Blw.drewN | (refine Blw.after ?_ (by assumption)) | (refine Blw.set ?_ (by first | (dsimp only; omega) | (simp; done) | (simp; omega)) _)))))
        have hlwA := hkwA.1
        have hswA := hkwA.2.2.2
        try (have : w.heap.size < wA.heap.size := by omega)
        try (have : w.heap.size + 1 < wA.heap.size := by omega)
        try (have : w.heap.size + 2 < wA.heap.size := by omega)
        try (have : w.heap.size + 3 < wA.heap.size := by omega)
        try (have : w.heap.size + 4 < wA.heap.size := by omega)
        rw [hd]
        go_wp2
        go_roundg (gk - 1)
        case measure => omega
        case rel =>
          obtain ⟨hbn, hqn, hrn⟩ := HN.out
          obtain ⟨O0, O1, O2, O3, O4⟩ := HO.out
          replace O0 := O0.below hbwA L0
          replace O1 := O1.below hbwA L1
          replace O2 := O2.below hbwA L2
          replace O3 := O3.below hbwA L3
          replace O4 := O4.below hbwA L4
          refine ⟨k + 1, by omega, by go_num, by (first | ((repeat' with_reducible first | assumption | exact Below.refl _ _ | apply Blw.alloc | apply Blw.drew | apply Blw.drewN | (refine Blw.after ?_ (by assumption)) | (refine Blw.set ?_ (by first | (dsimp only; omega) | (simp; omega)) _)); done) | (repeat' (first | assumption | exact Below.refl _ _ | apply Blw.alloc | apply Blw.drew | apply Blw.drewN | (refine Blw.after ?_ (by assumption)) | (refine Blw.set ?_ (by first | (dsimp only; omega) | (simp; done) | (simp; omega)) _)))), ?_, ?_, ?_, ?_, ?_⟩
          · rw [hqn]; dsimp only; ((try simp only [Nat.add_assoc, Nat.reduceAdd]) <;> (repeat with_reducible first | assumption | exact Own2.x (by assumption) | apply Own2X.put | (refine Own2.set ?_ (by omega)) | (refine Own2.alloc ?_ _) | (refine Own2X.set ?_ (by omega)) | (refine Own2X.alloc ?_ _)))
          · ((try simp only [Nat.add_assoc, Nat.reduceAdd]) <;> (repeat with_reducible first | assumption | exact Own2.x (by assumption) | apply Own2X.put | (refine Own2.set ?_ (by omega)) | (refine Own2.alloc ?_ _) | (refine Own2X.set ?_ (by omega)) | (refine Own2X.alloc ?_ _)))
          · ((try simp only [Nat.add_assoc, Nat.reduceAdd]) <;> (repeat with_reducible first | assumption | exact Own2.x (by assumption) | apply Own2X.put | (refine Own2.set ?_ (by omega)) | (refine Own2.alloc ?_ _) | (refine Own2X.set ?_ (by omega)) | (refine Own2X.alloc ?_ _)))
          · rw [hrn]; dsimp only; ((try simp only [Nat.add_assoc, Nat.reduceAdd]) <;> (repeat with_reducible first | assumption | exact Own2.x (by assumption) | apply Own2X.put | (refine Own2.set ?_ (by omega)) | (refine Own2.alloc ?_ _) | (refine Own2X.set ?_ (by omega)) | (refine Own2X.alloc ?_ _)))
          · rw [hbn]; dsimp only; ((try simp only [Nat.add_assoc, Nat.reduceAdd]) <;> (repeat with_reducible first | assumption | exact Own2.x (by assumption) | apply Own2X.put | (refine Own2.set ?_ (by omega)) | (refine Own2.alloc ?_ _) | (refine Own2X.set ?_ (by omega)) | (refine Own2X.alloc ?_ _)))
    · obtain rfl : k = n := by omega
      obtain ⟨q0, q1, f00, f01⟩ := O0
      obtain ⟨r0, r1, f30, f31⟩ := O3
      obtain ⟨a0, a1, f10, f11⟩ := O1
      obtain ⟨b0, b1, f20, f21⟩ := O2
      clear O4 HQ
      go_wp2_with fail
      refine region_slots (fun w' => w'.cell? ⟨w.heap.size + 3, 0, none⟩ = some (.int .i64 ((rn k (x, y)).1)) ∧ w'.cell? ⟨w.heap.size + 3, 1, none⟩ = some (.int .i64 ((rn k (x, y)).2))) [1] [(49, .is (pr (qn k (x, y)).1 (qn k (x, y)).2)), (50, .is (pr (rn k (x, y)).1 (rn k (x, y)).2))] (by kernel_rfl) (by kernel_rfl) (by kernel_rfl) (fun w' hH => by go_simp) (fun _ _ _ _ _ _ h => h) ?_
      simp only [Steps, List.contains_cons, List.contains_nil, Nat.reduceBEq, Nat.reduceAdd, Bool.or_false, Bool.false_or, Bool.or_true, Bool.true_or, Bool.false_eq_true, if_false, if_true]
      refine ⟨?_, ?_, ?_⟩
      · intro u w2 hH hd K hK
        simp only [setU, upd, List.map_cons, List.map_nil, List.contains_cons, List.contains_nil, Nat.reduceBEq, Nat.reduceAdd, Bool.or_false, Bool.false_or, Bool.or_true, Bool.true_or, Bool.false_eq_true, if_false, if_true, ite_true, ite_false, Nat.reduceEqDiff, beq_self_eq_true] at hK ⊢
        go_wp2_with (fail)
        exact hK _ _ (by (first | ((repeat' with_reducible first | assumption | exact Below.refl _ _ | apply Blw.alloc | apply Blw.drew | apply Blw.drewN | (refine Blw.after ?_ (by assumption)) | (refine Blw.set ?_ (by first | (dsimp only; omega) | (simp; omega)) _)); done) | (repeat' (first | assumption | exact Below.refl _ _ | apply Blw.alloc | apply Blw.drew | apply Blw.drewN | (refine Blw.after ?_ (by assumption)) | (refine Blw.set ?_ (by first | (dsimp only; omega) | (simp; done) | (simp; omega)) _))))) rfl
      · intro u w2 hH hd
        simp only [setU, upd, List.map_cons, List.map_nil, List.contains_cons, List.contains_nil, Nat.reduceBEq, Nat.reduceAdd, Bool.or_false, Bool.false_or, Bool.or_true, Bool.true_or, Bool.false_eq_true, if_false, if_true, ite_true, ite_false, Nat.reduceEqDiff, beq_self_eq_true]
        refine ⟨(pr (rn k (x, y)).1 (rn k (x, y)).2), fun w hS => ?_, by first | rfl | trivial, by first | rfl | trivial, by first | rfl | trivial⟩
        first | (go_simp; done) | (go_simp; exact IntWalk.i64_in _ (by omega))
      intro u w2 hH hF hne
      have hH1 := hH.1
      have hH2 := hH.2.2.2
      simp only [allFacts, SlotFact.h] at hF
      obtain ⟨f49, f50, -⟩ := hF
      simp only [setU, upd, List.map_cons, List.map_nil, List.contains_cons, List.contains_nil, Nat.reduceBEq, Nat.reduceAdd, Bool.or_false, Bool.false_or, Bool.or_true, Bool.true_or, Bool.false_eq_true, if_false, if_true, ite_true, ite_false, Nat.reduceEqDiff, beq_self_eq_true]
      rw [f49, f50]
      clear f49 f50 hne
      refine wpListS_step fun K hK => ?_
      go_wp2_with (fail)
      refine hK _ _ (by go_simp) ?_
      clear hK
      refine wpListS_step fun K hK => ?_
      go_wp2_with (fail)
      refine hK _ _ (by go_simp) ?_
      clear hK
      refine wpListS_nil ?_
      go_wp2_with fail
      exact bodyPost_ret (v := .tuple #[pr (qn k (x, y)).1 (qn k (x, y)).2, pr (rn k (x, y)).1 (rn k (x, y)).2]) (by simp [results, Tryd.results50, go_sem, *]) rfl ⟨rfl, by (first | ((repeat' with_reducible first | assumption | exact Below.refl _ _ | apply Blw.alloc | apply Blw.drew | apply Blw.drewN | (refine Blw.after ?_ (by assumption)) | (refine Blw.set ?_ (by first | (dsimp only; omega) | (simp; omega)) _)); done) | (repeat' (first | assumption | exact Below.refl _ _ | apply Blw.alloc | apply Blw.drew | apply Blw.drewN | (refine Blw.after ?_ (by assumption)) | (refine Blw.set ?_ (by first | (dsimp only; omega) | (simp; done) | (simp; omega)) _))))⟩
end Go.Proofs.YtaleeoghifcadaaDoor

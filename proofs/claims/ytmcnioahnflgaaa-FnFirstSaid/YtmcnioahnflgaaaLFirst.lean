/- FnFirst: whatever the code draws, the first turn of both sides is the same, is a turn's too, is its own, and has the norm. -/
import Derived.Test.YtmcnioahnflgaaaGi
import Derived.Test.YtmcnioahnflgaaaDrawB
import Derived.Test.YtmcnioahnflgaaaBaseP
namespace Go.Proofs.Ytmcnioahnflgaaa
set_option linter.unusedSimpArgs false
set_option linter.unusedVariables false
open Go.ChangeShapes Go.WideShapes Go.ChangeAt Go.RowKit Go.Joins

theorem first_turned (a b : Int) : firstX (-b) a = firstX a b ∧ firstY (-b) a = firstY a b := by
  unfold firstX firstY
  constructor <;> (repeat' split) <;> omega
theorem first_first (a b : Int) : firstX (firstX a b) (firstY a b) = firstX a b ∧ firstY (firstX a b) (firstY a b) = firstY a b := by
  have h : (0 < firstX a b ∧ 0 ≤ firstY a b) ∨ (firstX a b = 0 ∧ firstY a b = 0) := by
    unfold firstX firstY
    (repeat' split) <;> omega
  rcases h with h | ⟨h1, h2⟩
  · exact first_stop h
  · rw [h1, h2]; exact first_zero
theorem first_nrm (a b : Int) : nrm (firstX a b) (firstY a b) = nrm a b := by
  unfold firstX firstY nrm
  (repeat' split) <;> simp only [Int.neg_mul_neg] <;> omega

theorem drawFirst_c (v : Value) (w : World) (h : Code v w) : Calls Try.prog 33 #[v] w (One w) := by
  go_enter Try.func33, Try.ntmps33
  go_wp2_with fail
  generalize hW : World.alloc _ _ = W0
  have c0 : W0.cell? ⟨w.heap.size, 0, none⟩ = some (.int .i64 0) := by rw [← hW]; clear hW; go_simp
  have c1 : W0.cell? ⟨w.heap.size, 1, none⟩ = some (.int .i64 0) := by rw [← hW]; clear hW; go_simp
  have f0 : W0.frozen? ⟨w.heap.size, 0, none⟩ = false := by rw [← hW]; clear hW; go_simp
  have f1 : W0.frozen? ⟨w.heap.size, 1, none⟩ = false := by rw [← hW]; clear hW; go_simp
  have hB : Below w.heap.size w W0 := by rw [← hW]; (repeat' (first | assumption | exact Below.refl _ _ | apply Blw.alloc | apply Blw.drew | apply Blw.drewN | (refine Blw.after ?_ (by assumption)) | (refine Blw.set ?_ (by first | (dsimp only; omega) | (simp; done) | (simp; omega)) _)))
  have h0 : Code v W0 := by rw [← hW]; exact h.keep ((Below.refl _ _).alloc (Nat.le_refl _) _)
  have z0 : w.heap.size < W0.heap.size := World.block_lt_of_cell? W0 _ c0
  clear hW
  go_wp2_with fail
  refine (l6Open_c v W0 h0).mono ?_
  rintro e W1 ⟨sv, rfl, hr, hs, hz, hb⟩
  go_wp2_with fail
  refine (l91Gauss_c W0.heap.size sv 0 W1 hs hr ⟨by omega, by omega⟩).mono ?_
  rintro e W2 ⟨v', p', ⟨x, y, rfl, hx, hy⟩, rfl, -, -, -, -, m⟩
  have d0 := m.cell (by omega) (by omega) (keepcell hb c0)
  have d1 := m.cell (by omega) (by omega) (keepcell hb c1)
  have e0 := m.froz (by omega) (by omega) (((bcell hb).2 _ _ z0).trans f0)
  have e1 := m.froz (by omega) (by omega) (((bcell hb).2 _ _ z0).trans f1)
  have hB2 : Below w.heap.size w W2 := m.2.2.2 w (Blw.after hB hb) (by omega)
  go_wp2_with fail
  exact bodyPost_ret (v := .agg #[.int .i64 x, .int .i64 y]) (by simp [results, Try.results33, go_sem, *]) rfl ⟨x, y, rfl, hx, hy, by (repeat' (first | assumption | exact Below.refl _ _ | apply Blw.alloc | apply Blw.drew | apply Blw.drewN | (refine Blw.after ?_ (by assumption)) | (refine Blw.set ?_ (by first | (dsimp only; omega) | (simp; done) | (simp; omega)) _)))⟩

set_option maxHeartbeats 4000000 in
set_option maxRecDepth 10000 in
theorem lawFirst_c (a : Option Addr) (len cap : Nat) (w : World) (hc : len ≤ 1048576 → Code (.slice a len cap) w) : Calls Try.prog 9 #[.slice a len cap] w fun e w' => e = .returned (.bool true) ∧ Below w.heap.size w w' := by
  by_cases hl : 1048576 < len
  · go_enter Try.func9, Try.ntmps9
    go_wp2_with fail
    go_ret
    exact ⟨rfl, by (repeat' (first | assumption | exact Below.refl _ _ | apply Blw.alloc | apply Blw.drew | apply Blw.drewN | (refine Blw.after ?_ (by assumption)) | (refine Blw.set ?_ (by first | (dsimp only; omega) | (simp; done) | (simp; omega)) _)))⟩
  · have hc' := hc (by omega)
    clear hc
    go_enter Try.func9, Try.ntmps9
    go_wp2_with fail
    refine (drawFirst_c _ w hc').mono ?_
    rintro e W1 ⟨x, y, rfl, ⟨x0, x1⟩, ⟨y0, y1⟩, hb1⟩
    go_wp2_with fail
    generalize hW : World.alloc _ _ = W0
    have kW0_1 : W0.cell? ⟨W1.heap.size, 0, none⟩ = some (.int .i64 (x)) := by rw [← hW]; clear hW; first | (go_simp; done) | ((repeat refine keepcell ((Below.refl _ _).alloc (Nat.le_refl _) _) ?_); go_simp; done) | (simp only [frozen?_alloc_cells]; go_simp; done)
    have kW0_2 : W0.cell? ⟨W1.heap.size, 1, none⟩ = some (.int .i64 (y)) := by rw [← hW]; clear hW; first | (go_simp; done) | ((repeat refine keepcell ((Below.refl _ _).alloc (Nat.le_refl _) _) ?_); go_simp; done) | (simp only [frozen?_alloc_cells]; go_simp; done)
    have : W1.heap.size < W0.heap.size := World.block_lt_of_cell? W0 ⟨W1.heap.size, 0, none⟩ (by assumption)
    have hBW0 : Below w.heap.size w W0 := by rw [← hW]; (repeat' (first | assumption | exact Below.refl _ _ | apply Blw.alloc | apply Blw.drew | apply Blw.drewN | (refine Blw.after ?_ (by assumption)) | (refine Blw.set ?_ (by first | (dsimp only; omega) | (simp; done) | (simp; omega)) _)))
    have hsW0 := hBW0.size
    clear hW
    rcases Bool.eq_false_or_eq_true (inB 1000000 x y) with hi | hi
    · have hi1 : inB 1000000 (-y) x = true := by simp [inB, inR] at hi ⊢; omega
      have hi2 : inB 1000000 (firstX x y) (firstY x y) = true := inB_of (first_in (inB_le hi))
      obtain ⟨t1, t2⟩ := first_turned x y
      obtain ⟨t3, t4⟩ := first_first x y
      obtain ⟨n, n1⟩ : ∃ n, normV x y = n := ⟨_, rfl⟩
      have n2 : normV (firstX x y) (firstY x y) = n := by
        have := first_nrm x y
        simp only [nrm] at this
        rw [← n1]; simp only [normV, hi, hi2, if_true, this]
      obtain ⟨fx, g1⟩ : ∃ fx, firstX x y = fx := ⟨_, rfl⟩
      obtain ⟨fy, g2⟩ : ∃ fy, firstY x y = fy := ⟨_, rfl⟩
      rw [g1] at t1 t3 t4 n2 hi2
      rw [g2] at t2 t3 t4 n2 hi2
      have C1 : ∀ w, Calls Try.prog 32 #[pr x y] w fun e w' => e = .returned (.tuple #[pr fx fy, .bool true]) ∧ Below w.heap.size w w' := fun w => by
        have h := iGaussFirst_c x y w; simpa only [res2, hi, sel_t, g1, g2] using h
      have C2 : ∀ w, Calls Try.prog 34 #[pr x y] w fun e w' => e = .returned (.tuple #[pr fx fy, .bool true]) ∧ Below w.heap.size w w' := fun w => by
        have h := sGaussFirst_c x y w; simpa only [res2, hi, sel_t, g1, g2] using h
      have C3 : ∀ w, Calls Try.prog 32 #[pr (-y) x] w fun e w' => e = .returned (.tuple #[pr fx fy, .bool true]) ∧ Below w.heap.size w w' := fun w => by
        have h := iGaussFirst_c (-y) x w; simpa only [res2, hi1, sel_t, t1, t2, g2] using h
      have C4 : ∀ w, Calls Try.prog 32 #[pr fx fy] w fun e w' => e = .returned (.tuple #[pr fx fy, .bool true]) ∧ Below w.heap.size w w' := fun w => by
        have h := iGaussFirst_c fx fy w; simpa only [res2, hi2, sel_t, t3, t4] using h
      have C5 : ∀ w, Calls Try.prog 16 #[pr fx fy] w fun e w' => e = .returned (.int .i64 n) ∧ Below w.heap.size w w' := fun w => by
        have h := iGaussNorm_c fx fy w; rwa [n2] at h
      have C6 : ∀ w, Calls Try.prog 16 #[pr x y] w fun e w' => e = .returned (.int .i64 n) ∧ Below w.heap.size w w' := fun w => by
        have h := iGaussNorm_c x y w; rwa [n1] at h
      clear hi hi1 hi2 t1 t2 t3 t4 n1 n2 g1 g2
      go_wp2_with (fail)
      refine (C1 _).mono ?_
      rintro e wA ⟨rfl, hbwA⟩
      have hkwA : Hld W0 wA := heldM (by (repeat' (first | assumption | exact Below.refl _ _ | apply Blw.alloc | apply Blw.drew | apply Blw.drewN | (refine Blw.after ?_ (by assumption)) | (refine Blw.set ?_ (by first | (dsimp only; omega) | (simp; done) | (simp; omega)) _))))
      have hlwA := hkwA.1
      have hswA := hkwA.2.2.2
      try (have : W1.heap.size < wA.heap.size := by omega)
      go_wp2_with fail
      generalize hW : World.alloc _ _ = W2
      have kW2_3 : W2.cell? ⟨W1.heap.size, 0, none⟩ = some (.int .i64 (x)) := by rw [← hW]; clear hW; first | (go_simp; done) | ((repeat refine keepcell ((Below.refl _ _).alloc (Nat.le_refl _) _) ?_); go_simp; done) | (simp only [frozen?_alloc_cells]; go_simp; done)
      have kW2_4 : W2.cell? ⟨W1.heap.size, 1, none⟩ = some (.int .i64 (y)) := by rw [← hW]; clear hW; first | (go_simp; done) | ((repeat refine keepcell ((Below.refl _ _).alloc (Nat.le_refl _) _) ?_); go_simp; done) | (simp only [frozen?_alloc_cells]; go_simp; done)
      have : W1.heap.size < W2.heap.size := World.block_lt_of_cell? W2 ⟨W1.heap.size, 0, none⟩ (by assumption)
      have kW2_5 : W2.cell? ⟨wA.heap.size, 0, none⟩ = some (.int .i64 (fx)) := by rw [← hW]; clear hW; first | (go_simp; done) | ((repeat refine keepcell ((Below.refl _ _).alloc (Nat.le_refl _) _) ?_); go_simp; done) | (simp only [frozen?_alloc_cells]; go_simp; done)
      have kW2_6 : W2.cell? ⟨wA.heap.size, 1, none⟩ = some (.int .i64 (fy)) := by rw [← hW]; clear hW; first | (go_simp; done) | ((repeat refine keepcell ((Below.refl _ _).alloc (Nat.le_refl _) _) ?_); go_simp; done) | (simp only [frozen?_alloc_cells]; go_simp; done)
      have : wA.heap.size < W2.heap.size := World.block_lt_of_cell? W2 ⟨wA.heap.size, 0, none⟩ (by assumption)
      have hBW2 : Below w.heap.size w W2 := by rw [← hW]; (repeat' (first | assumption | exact Below.refl _ _ | apply Blw.alloc | apply Blw.drew | apply Blw.drewN | (refine Blw.after ?_ (by assumption)) | (refine Blw.set ?_ (by first | (dsimp only; omega) | (simp; done) | (simp; omega)) _)))
      have hsW2 := hBW2.size
      clear hW
      try clear kW0_1; try clear kW0_2; try clear hbwA; try clear hkwA; try clear hlwA
      go_wp2_with (fail)
      refine (C2 _).mono ?_
      rintro e wB ⟨rfl, hbwB⟩
      have hkwB : Hld W2 wB := heldM (by (repeat' (first | assumption | exact Below.refl _ _ | apply Blw.alloc | apply Blw.drew | apply Blw.drewN | (refine Blw.after ?_ (by assumption)) | (refine Blw.set ?_ (by first | (dsimp only; omega) | (simp; done) | (simp; omega)) _))))
      have hlwB := hkwB.1
      have hswB := hkwB.2.2.2
      try (have : W1.heap.size < wB.heap.size := by omega)
      try (have : wA.heap.size < wB.heap.size := by omega)
      go_wp2_with fail
      generalize hW : World.alloc _ _ = W3
      have kW3_7 : W3.cell? ⟨W1.heap.size, 0, none⟩ = some (.int .i64 (x)) := by rw [← hW]; clear hW; first | (go_simp; done) | ((repeat refine keepcell ((Below.refl _ _).alloc (Nat.le_refl _) _) ?_); go_simp; done) | (simp only [frozen?_alloc_cells]; go_simp; done)
      have kW3_8 : W3.cell? ⟨W1.heap.size, 1, none⟩ = some (.int .i64 (y)) := by rw [← hW]; clear hW; first | (go_simp; done) | ((repeat refine keepcell ((Below.refl _ _).alloc (Nat.le_refl _) _) ?_); go_simp; done) | (simp only [frozen?_alloc_cells]; go_simp; done)
      have : W1.heap.size < W3.heap.size := World.block_lt_of_cell? W3 ⟨W1.heap.size, 0, none⟩ (by assumption)
      have kW3_9 : W3.cell? ⟨wA.heap.size, 0, none⟩ = some (.int .i64 (fx)) := by rw [← hW]; clear hW; first | (go_simp; done) | ((repeat refine keepcell ((Below.refl _ _).alloc (Nat.le_refl _) _) ?_); go_simp; done) | (simp only [frozen?_alloc_cells]; go_simp; done)
      have kW3_10 : W3.cell? ⟨wA.heap.size, 1, none⟩ = some (.int .i64 (fy)) := by rw [← hW]; clear hW; first | (go_simp; done) | ((repeat refine keepcell ((Below.refl _ _).alloc (Nat.le_refl _) _) ?_); go_simp; done) | (simp only [frozen?_alloc_cells]; go_simp; done)
      have : wA.heap.size < W3.heap.size := World.block_lt_of_cell? W3 ⟨wA.heap.size, 0, none⟩ (by assumption)
      have kW3_11 : W3.cell? ⟨wB.heap.size, 0, none⟩ = some (.int .i64 (fx)) := by rw [← hW]; clear hW; first | (go_simp; done) | ((repeat refine keepcell ((Below.refl _ _).alloc (Nat.le_refl _) _) ?_); go_simp; done) | (simp only [frozen?_alloc_cells]; go_simp; done)
      have kW3_12 : W3.cell? ⟨wB.heap.size, 1, none⟩ = some (.int .i64 (fy)) := by rw [← hW]; clear hW; first | (go_simp; done) | ((repeat refine keepcell ((Below.refl _ _).alloc (Nat.le_refl _) _) ?_); go_simp; done) | (simp only [frozen?_alloc_cells]; go_simp; done)
      have : wB.heap.size < W3.heap.size := World.block_lt_of_cell? W3 ⟨wB.heap.size, 0, none⟩ (by assumption)
      have hBW3 : Below w.heap.size w W3 := by rw [← hW]; (repeat' (first | assumption | exact Below.refl _ _ | apply Blw.alloc | apply Blw.drew | apply Blw.drewN | (refine Blw.after ?_ (by assumption)) | (refine Blw.set ?_ (by first | (dsimp only; omega) | (simp; done) | (simp; omega)) _)))
      have hsW3 := hBW3.size
      clear hW
      try clear kW2_3; try clear kW2_4; try clear kW2_5; try clear kW2_6; try clear hbwB; try clear hkwB; try clear hlwB
      go_wp2_with (fail)
      refine (C3 _).mono ?_
      rintro e wC ⟨rfl, hbwC⟩
      have hkwC : Hld W3 wC := heldM (by (repeat' (first | assumption | exact Below.refl _ _ | apply Blw.alloc | apply Blw.drew | apply Blw.drewN | (refine Blw.after ?_ (by assumption)) | (refine Blw.set ?_ (by first | (dsimp only; omega) | (simp; done) | (simp; omega)) _))))
      have hlwC := hkwC.1
      have hswC := hkwC.2.2.2
      try (have : W1.heap.size < wC.heap.size := by omega)
      try (have : wA.heap.size < wC.heap.size := by omega)
      try (have : wB.heap.size < wC.heap.size := by omega)
      go_wp2_with fail
      generalize hW : World.alloc _ _ = W4
      have kW4_13 : W4.cell? ⟨W1.heap.size, 0, none⟩ = some (.int .i64 (x)) := by rw [← hW]; clear hW; first | (go_simp; done) | ((repeat refine keepcell ((Below.refl _ _).alloc (Nat.le_refl _) _) ?_); go_simp; done) | (simp only [frozen?_alloc_cells]; go_simp; done)
      have kW4_14 : W4.cell? ⟨W1.heap.size, 1, none⟩ = some (.int .i64 (y)) := by rw [← hW]; clear hW; first | (go_simp; done) | ((repeat refine keepcell ((Below.refl _ _).alloc (Nat.le_refl _) _) ?_); go_simp; done) | (simp only [frozen?_alloc_cells]; go_simp; done)
      have : W1.heap.size < W4.heap.size := World.block_lt_of_cell? W4 ⟨W1.heap.size, 0, none⟩ (by assumption)
      have kW4_15 : W4.cell? ⟨wA.heap.size, 0, none⟩ = some (.int .i64 (fx)) := by rw [← hW]; clear hW; first | (go_simp; done) | ((repeat refine keepcell ((Below.refl _ _).alloc (Nat.le_refl _) _) ?_); go_simp; done) | (simp only [frozen?_alloc_cells]; go_simp; done)
      have kW4_16 : W4.cell? ⟨wA.heap.size, 1, none⟩ = some (.int .i64 (fy)) := by rw [← hW]; clear hW; first | (go_simp; done) | ((repeat refine keepcell ((Below.refl _ _).alloc (Nat.le_refl _) _) ?_); go_simp; done) | (simp only [frozen?_alloc_cells]; go_simp; done)
      have : wA.heap.size < W4.heap.size := World.block_lt_of_cell? W4 ⟨wA.heap.size, 0, none⟩ (by assumption)
      have kW4_17 : W4.cell? ⟨wC.heap.size, 0, none⟩ = some (.int .i64 (fx)) := by rw [← hW]; clear hW; first | (go_simp; done) | ((repeat refine keepcell ((Below.refl _ _).alloc (Nat.le_refl _) _) ?_); go_simp; done) | (simp only [frozen?_alloc_cells]; go_simp; done)
      have kW4_18 : W4.cell? ⟨wC.heap.size, 1, none⟩ = some (.int .i64 (fy)) := by rw [← hW]; clear hW; first | (go_simp; done) | ((repeat refine keepcell ((Below.refl _ _).alloc (Nat.le_refl _) _) ?_); go_simp; done) | (simp only [frozen?_alloc_cells]; go_simp; done)
      have : wC.heap.size < W4.heap.size := World.block_lt_of_cell? W4 ⟨wC.heap.size, 0, none⟩ (by assumption)
      have hBW4 : Below w.heap.size w W4 := by rw [← hW]; (repeat' (first | assumption | exact Below.refl _ _ | apply Blw.alloc | apply Blw.drew | apply Blw.drewN | (refine Blw.after ?_ (by assumption)) | (refine Blw.set ?_ (by first | (dsimp only; omega) | (simp; done) | (simp; omega)) _)))
      have hsW4 := hBW4.size
      clear hW
      try clear kW3_7; try clear kW3_8; try clear kW3_9; try clear kW3_10; try clear kW3_11; try clear kW3_12; try clear hbwC; try clear hkwC; try clear hlwC
      go_wp2_with (fail)
      refine (C4 _).mono ?_
      rintro e wD ⟨rfl, hbwD⟩
      have hkwD : Hld W4 wD := heldM (by (repeat' (first | assumption | exact Below.refl _ _ | apply Blw.alloc | apply Blw.drew | apply Blw.drewN | (refine Blw.after ?_ (by assumption)) | (refine Blw.set ?_ (by first | (dsimp only; omega) | (simp; done) | (simp; omega)) _))))
      have hlwD := hkwD.1
      have hswD := hkwD.2.2.2
      try (have : W1.heap.size < wD.heap.size := by omega)
      try (have : wA.heap.size < wD.heap.size := by omega)
      try (have : wC.heap.size < wD.heap.size := by omega)
      go_wp2_with fail
      generalize hW : World.alloc _ _ = W5
      have kW5_19 : W5.cell? ⟨W1.heap.size, 0, none⟩ = some (.int .i64 (x)) := by rw [← hW]; clear hW; first | (go_simp; done) | ((repeat refine keepcell ((Below.refl _ _).alloc (Nat.le_refl _) _) ?_); go_simp; done) | (simp only [frozen?_alloc_cells]; go_simp; done)
      have kW5_20 : W5.cell? ⟨W1.heap.size, 1, none⟩ = some (.int .i64 (y)) := by rw [← hW]; clear hW; first | (go_simp; done) | ((repeat refine keepcell ((Below.refl _ _).alloc (Nat.le_refl _) _) ?_); go_simp; done) | (simp only [frozen?_alloc_cells]; go_simp; done)
      have : W1.heap.size < W5.heap.size := World.block_lt_of_cell? W5 ⟨W1.heap.size, 0, none⟩ (by assumption)
      have kW5_21 : W5.cell? ⟨wA.heap.size, 0, none⟩ = some (.int .i64 (fx)) := by rw [← hW]; clear hW; first | (go_simp; done) | ((repeat refine keepcell ((Below.refl _ _).alloc (Nat.le_refl _) _) ?_); go_simp; done) | (simp only [frozen?_alloc_cells]; go_simp; done)
      have kW5_22 : W5.cell? ⟨wA.heap.size, 1, none⟩ = some (.int .i64 (fy)) := by rw [← hW]; clear hW; first | (go_simp; done) | ((repeat refine keepcell ((Below.refl _ _).alloc (Nat.le_refl _) _) ?_); go_simp; done) | (simp only [frozen?_alloc_cells]; go_simp; done)
      have : wA.heap.size < W5.heap.size := World.block_lt_of_cell? W5 ⟨wA.heap.size, 0, none⟩ (by assumption)
      have kW5_23 : W5.cell? ⟨wC.heap.size, 0, none⟩ = some (.int .i64 (fx)) := by rw [← hW]; clear hW; first | (go_simp; done) | ((repeat refine keepcell ((Below.refl _ _).alloc (Nat.le_refl _) _) ?_); go_simp; done) | (simp only [frozen?_alloc_cells]; go_simp; done)
      have kW5_24 : W5.cell? ⟨wC.heap.size, 1, none⟩ = some (.int .i64 (fy)) := by rw [← hW]; clear hW; first | (go_simp; done) | ((repeat refine keepcell ((Below.refl _ _).alloc (Nat.le_refl _) _) ?_); go_simp; done) | (simp only [frozen?_alloc_cells]; go_simp; done)
      have : wC.heap.size < W5.heap.size := World.block_lt_of_cell? W5 ⟨wC.heap.size, 0, none⟩ (by assumption)
      have kW5_25 : W5.cell? ⟨wD.heap.size, 0, none⟩ = some (.int .i64 (fx)) := by rw [← hW]; clear hW; first | (go_simp; done) | ((repeat refine keepcell ((Below.refl _ _).alloc (Nat.le_refl _) _) ?_); go_simp; done) | (simp only [frozen?_alloc_cells]; go_simp; done)
      have kW5_26 : W5.cell? ⟨wD.heap.size, 1, none⟩ = some (.int .i64 (fy)) := by rw [← hW]; clear hW; first | (go_simp; done) | ((repeat refine keepcell ((Below.refl _ _).alloc (Nat.le_refl _) _) ?_); go_simp; done) | (simp only [frozen?_alloc_cells]; go_simp; done)
      have : wD.heap.size < W5.heap.size := World.block_lt_of_cell? W5 ⟨wD.heap.size, 0, none⟩ (by assumption)
      have hBW5 : Below w.heap.size w W5 := by rw [← hW]; (repeat' (first | assumption | exact Below.refl _ _ | apply Blw.alloc | apply Blw.drew | apply Blw.drewN | (refine Blw.after ?_ (by assumption)) | (refine Blw.set ?_ (by first | (dsimp only; omega) | (simp; done) | (simp; omega)) _)))
      have hsW5 := hBW5.size
      clear hW
      try clear kW4_13; try clear kW4_14; try clear kW4_15; try clear kW4_16; try clear kW4_17; try clear kW4_18; try clear hbwD; try clear hkwD; try clear hlwD
      refine region_slots (fun _ => True) [] [(62, .is (.bool true)), (63, .is (.bool true)), (64, .is (.bool true)), (65, .is (.bool true)), (66, .is (.bool true)), (67, .is (pr fx fy)), (68, .is (pr fx fy)), (69, .is (.bool true)), (70, .is (.bool true)), (71, .is (.bool true)), (72, .is (pr fx fy)), (73, .is (pr fx fy)), (74, .is (.bool true)), (75, .is (.bool true)), (76, .is (.bool true)), (77, .is (pr fx fy)), (78, .is (.int .i64 n)), (79, .is (pr x y)), (80, .is (.int .i64 n)), (81, .is (.bool true)), (82, .is (.bool true))] (by kernel_rfl) (by kernel_rfl) (by kernel_rfl) (fun _ _ => trivial) (fun _ _ _ _ _ _ h => h) ?_
      simp only [Steps, List.contains_cons, List.contains_nil, Nat.reduceBEq, Nat.reduceAdd, Bool.or_false, Bool.false_or, Bool.or_true, Bool.true_or, Bool.false_eq_true, if_false, if_true]
      refine ⟨?_, ?_, ?_, ?_, ?_, ?_, ?_, ?_, ?_, ?_, ?_, ?_, ?_, ?_, ?_, ?_, ?_, ?_, ?_, ?_, ?_, ?_⟩
      · intro u w2 hH hd K hK
        simp only [setU, upd, List.map_cons, List.map_nil, List.contains_cons, List.contains_nil, Nat.reduceBEq, Nat.reduceAdd, Bool.or_false, Bool.false_or, Bool.or_true, Bool.true_or, Bool.false_eq_true, if_false, if_true, ite_true, ite_false, Nat.reduceEqDiff, beq_self_eq_true] at hK ⊢
        go_wp2_with (fail)
        exact hK _ _ (by (repeat' (first | assumption | exact Below.refl _ _ | apply Blw.alloc | apply Blw.drew | apply Blw.drewN | (refine Blw.after ?_ (by assumption)) | (refine Blw.set ?_ (by first | (dsimp only; omega) | (simp; done) | (simp; omega)) _)))) rfl
      · intro u w2 hH hd K hK
        have f62 : u 62 = (.bool true) := hd 62 (by kernel_rfl)
        simp only [setU, upd, List.map_cons, List.map_nil, List.contains_cons, List.contains_nil, Nat.reduceBEq, Nat.reduceAdd, Bool.or_false, Bool.false_or, Bool.or_true, Bool.true_or, Bool.false_eq_true, if_false, if_true, ite_true, ite_false, Nat.reduceEqDiff, beq_self_eq_true] at hK ⊢
        rw [f62] at hK ⊢
        clear f62
        go_wp2_with (fail)
        exact hK _ _ (by (repeat' (first | assumption | exact Below.refl _ _ | apply Blw.alloc | apply Blw.drew | apply Blw.drewN | (refine Blw.after ?_ (by assumption)) | (refine Blw.set ?_ (by first | (dsimp only; omega) | (simp; done) | (simp; omega)) _)))) rfl
      · intro u w2 hH hd K hK
        have f63 : u 63 = (.bool true) := hd 63 (by kernel_rfl)
        simp only [setU, upd, List.map_cons, List.map_nil, List.contains_cons, List.contains_nil, Nat.reduceBEq, Nat.reduceAdd, Bool.or_false, Bool.false_or, Bool.or_true, Bool.true_or, Bool.false_eq_true, if_false, if_true, ite_true, ite_false, Nat.reduceEqDiff, beq_self_eq_true] at hK ⊢
        rw [f63] at hK ⊢
        clear f63
        go_wp2_with (fail)
        exact hK _ _ (by (repeat' (first | assumption | exact Below.refl _ _ | apply Blw.alloc | apply Blw.drew | apply Blw.drewN | (refine Blw.after ?_ (by assumption)) | (refine Blw.set ?_ (by first | (dsimp only; omega) | (simp; done) | (simp; omega)) _)))) rfl
      · intro u w2 hH hd K hK
        have f63 : u 63 = (.bool true) := hd 63 (by kernel_rfl)
        have f64 : u 64 = (.bool true) := hd 64 (by kernel_rfl)
        simp only [setU, upd, List.map_cons, List.map_nil, List.contains_cons, List.contains_nil, Nat.reduceBEq, Nat.reduceAdd, Bool.or_false, Bool.false_or, Bool.or_true, Bool.true_or, Bool.false_eq_true, if_false, if_true, ite_true, ite_false, Nat.reduceEqDiff, beq_self_eq_true] at hK ⊢
        rw [f63, f64] at hK ⊢
        clear f63 f64
        go_wp2_with (fail)
        exact hK _ _ (by (repeat' (first | assumption | exact Below.refl _ _ | apply Blw.alloc | apply Blw.drew | apply Blw.drewN | (refine Blw.after ?_ (by assumption)) | (refine Blw.set ?_ (by first | (dsimp only; omega) | (simp; done) | (simp; omega)) _)))) rfl
      · intro u w2 hH hd K hK
        have f63 : u 63 = (.bool true) := hd 63 (by kernel_rfl)
        have f65 : u 65 = (.bool true) := hd 65 (by kernel_rfl)
        simp only [setU, upd, List.map_cons, List.map_nil, List.contains_cons, List.contains_nil, Nat.reduceBEq, Nat.reduceAdd, Bool.or_false, Bool.false_or, Bool.or_true, Bool.true_or, Bool.false_eq_true, if_false, if_true, ite_true, ite_false, Nat.reduceEqDiff, beq_self_eq_true] at hK ⊢
        rw [f63, f65] at hK ⊢
        clear f63 f65
        go_wp2_with (fail)
        exact hK _ _ (by (repeat' (first | assumption | exact Below.refl _ _ | apply Blw.alloc | apply Blw.drew | apply Blw.drewN | (refine Blw.after ?_ (by assumption)) | (refine Blw.set ?_ (by first | (dsimp only; omega) | (simp; done) | (simp; omega)) _)))) rfl
      · intro u w2 hH hd K hK
        have f66 : u 66 = (.bool true) := hd 66 (by kernel_rfl)
        simp only [setU, upd, List.map_cons, List.map_nil, List.contains_cons, List.contains_nil, Nat.reduceBEq, Nat.reduceAdd, Bool.or_false, Bool.false_or, Bool.or_true, Bool.true_or, Bool.false_eq_true, if_false, if_true, ite_true, ite_false, Nat.reduceEqDiff, beq_self_eq_true] at hK ⊢
        rw [f66] at hK ⊢
        clear f66
        go_wp2_with (fail)
        exact hK _ _ (by (repeat' (first | assumption | exact Below.refl _ _ | apply Blw.alloc | apply Blw.drew | apply Blw.drewN | (refine Blw.after ?_ (by assumption)) | (refine Blw.set ?_ (by first | (dsimp only; omega) | (simp; done) | (simp; omega)) _)))) rfl
      · intro u w2 hH hd K hK
        have f66 : u 66 = (.bool true) := hd 66 (by kernel_rfl)
        simp only [setU, upd, List.map_cons, List.map_nil, List.contains_cons, List.contains_nil, Nat.reduceBEq, Nat.reduceAdd, Bool.or_false, Bool.false_or, Bool.or_true, Bool.true_or, Bool.false_eq_true, if_false, if_true, ite_true, ite_false, Nat.reduceEqDiff, beq_self_eq_true] at hK ⊢
        rw [f66] at hK ⊢
        clear f66
        go_wp2_with (fail)
        exact hK _ _ (by (repeat' (first | assumption | exact Below.refl _ _ | apply Blw.alloc | apply Blw.drew | apply Blw.drewN | (refine Blw.after ?_ (by assumption)) | (refine Blw.set ?_ (by first | (dsimp only; omega) | (simp; done) | (simp; omega)) _)))) rfl
      · intro u w2 hH hd K hK
        have f66 : u 66 = (.bool true) := hd 66 (by kernel_rfl)
        have f67 : u 67 = (pr fx fy) := hd 67 (by kernel_rfl)
        have f68 : u 68 = (pr fx fy) := hd 68 (by kernel_rfl)
        simp only [setU, upd, List.map_cons, List.map_nil, List.contains_cons, List.contains_nil, Nat.reduceBEq, Nat.reduceAdd, Bool.or_false, Bool.false_or, Bool.or_true, Bool.true_or, Bool.false_eq_true, if_false, if_true, ite_true, ite_false, Nat.reduceEqDiff, beq_self_eq_true] at hK ⊢
        rw [f66, f67, f68] at hK ⊢
        clear f66 f67 f68
        go_wp2_with (fail)
        exact hK _ _ (by (repeat' (first | assumption | exact Below.refl _ _ | apply Blw.alloc | apply Blw.drew | apply Blw.drewN | (refine Blw.after ?_ (by assumption)) | (refine Blw.set ?_ (by first | (dsimp only; omega) | (simp; done) | (simp; omega)) _)))) rfl
      · intro u w2 hH hd K hK
        have f66 : u 66 = (.bool true) := hd 66 (by kernel_rfl)
        have f69 : u 69 = (.bool true) := hd 69 (by kernel_rfl)
        simp only [setU, upd, List.map_cons, List.map_nil, List.contains_cons, List.contains_nil, Nat.reduceBEq, Nat.reduceAdd, Bool.or_false, Bool.false_or, Bool.or_true, Bool.true_or, Bool.false_eq_true, if_false, if_true, ite_true, ite_false, Nat.reduceEqDiff, beq_self_eq_true] at hK ⊢
        rw [f66, f69] at hK ⊢
        clear f66 f69
        go_wp2_with (fail)
        exact hK _ _ (by (repeat' (first | assumption | exact Below.refl _ _ | apply Blw.alloc | apply Blw.drew | apply Blw.drewN | (refine Blw.after ?_ (by assumption)) | (refine Blw.set ?_ (by first | (dsimp only; omega) | (simp; done) | (simp; omega)) _)))) rfl
      · intro u w2 hH hd K hK
        have f66 : u 66 = (.bool true) := hd 66 (by kernel_rfl)
        have f70 : u 70 = (.bool true) := hd 70 (by kernel_rfl)
        simp only [setU, upd, List.map_cons, List.map_nil, List.contains_cons, List.contains_nil, Nat.reduceBEq, Nat.reduceAdd, Bool.or_false, Bool.false_or, Bool.or_true, Bool.true_or, Bool.false_eq_true, if_false, if_true, ite_true, ite_false, Nat.reduceEqDiff, beq_self_eq_true] at hK ⊢
        rw [f66, f70] at hK ⊢
        clear f66 f70
        go_wp2_with (fail)
        exact hK _ _ (by (repeat' (first | assumption | exact Below.refl _ _ | apply Blw.alloc | apply Blw.drew | apply Blw.drewN | (refine Blw.after ?_ (by assumption)) | (refine Blw.set ?_ (by first | (dsimp only; omega) | (simp; done) | (simp; omega)) _)))) rfl
      · intro u w2 hH hd K hK
        have f71 : u 71 = (.bool true) := hd 71 (by kernel_rfl)
        simp only [setU, upd, List.map_cons, List.map_nil, List.contains_cons, List.contains_nil, Nat.reduceBEq, Nat.reduceAdd, Bool.or_false, Bool.false_or, Bool.or_true, Bool.true_or, Bool.false_eq_true, if_false, if_true, ite_true, ite_false, Nat.reduceEqDiff, beq_self_eq_true] at hK ⊢
        rw [f71] at hK ⊢
        clear f71
        go_wp2_with (fail)
        exact hK _ _ (by (repeat' (first | assumption | exact Below.refl _ _ | apply Blw.alloc | apply Blw.drew | apply Blw.drewN | (refine Blw.after ?_ (by assumption)) | (refine Blw.set ?_ (by first | (dsimp only; omega) | (simp; done) | (simp; omega)) _)))) rfl
      · intro u w2 hH hd K hK
        have f71 : u 71 = (.bool true) := hd 71 (by kernel_rfl)
        simp only [setU, upd, List.map_cons, List.map_nil, List.contains_cons, List.contains_nil, Nat.reduceBEq, Nat.reduceAdd, Bool.or_false, Bool.false_or, Bool.or_true, Bool.true_or, Bool.false_eq_true, if_false, if_true, ite_true, ite_false, Nat.reduceEqDiff, beq_self_eq_true] at hK ⊢
        rw [f71] at hK ⊢
        clear f71
        go_wp2_with (fail)
        exact hK _ _ (by (repeat' (first | assumption | exact Below.refl _ _ | apply Blw.alloc | apply Blw.drew | apply Blw.drewN | (refine Blw.after ?_ (by assumption)) | (refine Blw.set ?_ (by first | (dsimp only; omega) | (simp; done) | (simp; omega)) _)))) rfl
      · intro u w2 hH hd K hK
        have f71 : u 71 = (.bool true) := hd 71 (by kernel_rfl)
        have f72 : u 72 = (pr fx fy) := hd 72 (by kernel_rfl)
        have f73 : u 73 = (pr fx fy) := hd 73 (by kernel_rfl)
        simp only [setU, upd, List.map_cons, List.map_nil, List.contains_cons, List.contains_nil, Nat.reduceBEq, Nat.reduceAdd, Bool.or_false, Bool.false_or, Bool.or_true, Bool.true_or, Bool.false_eq_true, if_false, if_true, ite_true, ite_false, Nat.reduceEqDiff, beq_self_eq_true] at hK ⊢
        rw [f71, f72, f73] at hK ⊢
        clear f71 f72 f73
        go_wp2_with (fail)
        exact hK _ _ (by (repeat' (first | assumption | exact Below.refl _ _ | apply Blw.alloc | apply Blw.drew | apply Blw.drewN | (refine Blw.after ?_ (by assumption)) | (refine Blw.set ?_ (by first | (dsimp only; omega) | (simp; done) | (simp; omega)) _)))) rfl
      · intro u w2 hH hd K hK
        have f71 : u 71 = (.bool true) := hd 71 (by kernel_rfl)
        have f74 : u 74 = (.bool true) := hd 74 (by kernel_rfl)
        simp only [setU, upd, List.map_cons, List.map_nil, List.contains_cons, List.contains_nil, Nat.reduceBEq, Nat.reduceAdd, Bool.or_false, Bool.false_or, Bool.or_true, Bool.true_or, Bool.false_eq_true, if_false, if_true, ite_true, ite_false, Nat.reduceEqDiff, beq_self_eq_true] at hK ⊢
        rw [f71, f74] at hK ⊢
        clear f71 f74
        go_wp2_with (fail)
        exact hK _ _ (by (repeat' (first | assumption | exact Below.refl _ _ | apply Blw.alloc | apply Blw.drew | apply Blw.drewN | (refine Blw.after ?_ (by assumption)) | (refine Blw.set ?_ (by first | (dsimp only; omega) | (simp; done) | (simp; omega)) _)))) rfl
      · intro u w2 hH hd K hK
        have f71 : u 71 = (.bool true) := hd 71 (by kernel_rfl)
        have f75 : u 75 = (.bool true) := hd 75 (by kernel_rfl)
        simp only [setU, upd, List.map_cons, List.map_nil, List.contains_cons, List.contains_nil, Nat.reduceBEq, Nat.reduceAdd, Bool.or_false, Bool.false_or, Bool.or_true, Bool.true_or, Bool.false_eq_true, if_false, if_true, ite_true, ite_false, Nat.reduceEqDiff, beq_self_eq_true] at hK ⊢
        rw [f71, f75] at hK ⊢
        clear f71 f75
        go_wp2_with (fail)
        exact hK _ _ (by (repeat' (first | assumption | exact Below.refl _ _ | apply Blw.alloc | apply Blw.drew | apply Blw.drewN | (refine Blw.after ?_ (by assumption)) | (refine Blw.set ?_ (by first | (dsimp only; omega) | (simp; done) | (simp; omega)) _)))) rfl
      · intro u w2 hH hd K hK
        have f76 : u 76 = (.bool true) := hd 76 (by kernel_rfl)
        simp only [setU, upd, List.map_cons, List.map_nil, List.contains_cons, List.contains_nil, Nat.reduceBEq, Nat.reduceAdd, Bool.or_false, Bool.false_or, Bool.or_true, Bool.true_or, Bool.false_eq_true, if_false, if_true, ite_true, ite_false, Nat.reduceEqDiff, beq_self_eq_true] at hK ⊢
        rw [f76] at hK ⊢
        clear f76
        go_wp2_with (fail)
        exact hK _ _ (by (repeat' (first | assumption | exact Below.refl _ _ | apply Blw.alloc | apply Blw.drew | apply Blw.drewN | (refine Blw.after ?_ (by assumption)) | (refine Blw.set ?_ (by first | (dsimp only; omega) | (simp; done) | (simp; omega)) _)))) rfl
      · intro u w2 hH hd K hK
        have f76 : u 76 = (.bool true) := hd 76 (by kernel_rfl)
        have f77 : u 77 = (pr fx fy) := hd 77 (by kernel_rfl)
        simp only [setU, upd, List.map_cons, List.map_nil, List.contains_cons, List.contains_nil, Nat.reduceBEq, Nat.reduceAdd, Bool.or_false, Bool.false_or, Bool.or_true, Bool.true_or, Bool.false_eq_true, if_false, if_true, ite_true, ite_false, Nat.reduceEqDiff, beq_self_eq_true] at hK ⊢
        rw [f76, f77] at hK ⊢
        clear f76 f77
        go_wp2_with ((go_at_call 16; refine (C5 _).mono ?_; rintro e w1 ⟨rfl, hb⟩; obtain ⟨hc, hf⟩ := bcell hb; have hz := bsize hb; have hs := hb.size; try simp at hs))
        exact hK _ _ (by (repeat' (first | assumption | exact Below.refl _ _ | apply Blw.alloc | apply Blw.drew | apply Blw.drewN | (refine Blw.after ?_ (by assumption)) | (refine Blw.set ?_ (by first | (dsimp only; omega) | (simp; done) | (simp; omega)) _)))) rfl
      · intro u w2 hH hd K hK
        have f76 : u 76 = (.bool true) := hd 76 (by kernel_rfl)
        simp only [setU, upd, List.map_cons, List.map_nil, List.contains_cons, List.contains_nil, Nat.reduceBEq, Nat.reduceAdd, Bool.or_false, Bool.false_or, Bool.or_true, Bool.true_or, Bool.false_eq_true, if_false, if_true, ite_true, ite_false, Nat.reduceEqDiff, beq_self_eq_true] at hK ⊢
        rw [f76] at hK ⊢
        clear f76
        go_wp2_with (fail)
        exact hK _ _ (by (repeat' (first | assumption | exact Below.refl _ _ | apply Blw.alloc | apply Blw.drew | apply Blw.drewN | (refine Blw.after ?_ (by assumption)) | (refine Blw.set ?_ (by first | (dsimp only; omega) | (simp; done) | (simp; omega)) _)))) rfl
      · intro u w2 hH hd K hK
        have f76 : u 76 = (.bool true) := hd 76 (by kernel_rfl)
        have f78 : u 78 = (.int .i64 n) := hd 78 (by kernel_rfl)
        have f79 : u 79 = (pr x y) := hd 79 (by kernel_rfl)
        simp only [setU, upd, List.map_cons, List.map_nil, List.contains_cons, List.contains_nil, Nat.reduceBEq, Nat.reduceAdd, Bool.or_false, Bool.false_or, Bool.or_true, Bool.true_or, Bool.false_eq_true, if_false, if_true, ite_true, ite_false, Nat.reduceEqDiff, beq_self_eq_true] at hK ⊢
        rw [f76, f78, f79] at hK ⊢
        clear f76 f78 f79
        go_wp2_with ((go_at_call 16; refine (C6 _).mono ?_; rintro e w1 ⟨rfl, hb⟩; obtain ⟨hc, hf⟩ := bcell hb; have hz := bsize hb; have hs := hb.size; try simp at hs))
        exact hK _ _ (by (repeat' (first | assumption | exact Below.refl _ _ | apply Blw.alloc | apply Blw.drew | apply Blw.drewN | (refine Blw.after ?_ (by assumption)) | (refine Blw.set ?_ (by first | (dsimp only; omega) | (simp; done) | (simp; omega)) _)))) rfl
      · intro u w2 hH hd K hK
        have f76 : u 76 = (.bool true) := hd 76 (by kernel_rfl)
        have f78 : u 78 = (.int .i64 n) := hd 78 (by kernel_rfl)
        have f80 : u 80 = (.int .i64 n) := hd 80 (by kernel_rfl)
        simp only [setU, upd, List.map_cons, List.map_nil, List.contains_cons, List.contains_nil, Nat.reduceBEq, Nat.reduceAdd, Bool.or_false, Bool.false_or, Bool.or_true, Bool.true_or, Bool.false_eq_true, if_false, if_true, ite_true, ite_false, Nat.reduceEqDiff, beq_self_eq_true] at hK ⊢
        rw [f76, f78, f80] at hK ⊢
        clear f76 f78 f80
        go_wp2_with (fail)
        exact hK _ _ (by (repeat' (first | assumption | exact Below.refl _ _ | apply Blw.alloc | apply Blw.drew | apply Blw.drewN | (refine Blw.after ?_ (by assumption)) | (refine Blw.set ?_ (by first | (dsimp only; omega) | (simp; done) | (simp; omega)) _)))) rfl
      · intro u w2 hH hd K hK
        have f76 : u 76 = (.bool true) := hd 76 (by kernel_rfl)
        have f81 : u 81 = (.bool true) := hd 81 (by kernel_rfl)
        simp only [setU, upd, List.map_cons, List.map_nil, List.contains_cons, List.contains_nil, Nat.reduceBEq, Nat.reduceAdd, Bool.or_false, Bool.false_or, Bool.or_true, Bool.true_or, Bool.false_eq_true, if_false, if_true, ite_true, ite_false, Nat.reduceEqDiff, beq_self_eq_true] at hK ⊢
        rw [f76, f81] at hK ⊢
        clear f76 f81
        go_wp2_with (fail)
        exact hK _ _ (by (repeat' (first | assumption | exact Below.refl _ _ | apply Blw.alloc | apply Blw.drew | apply Blw.drewN | (refine Blw.after ?_ (by assumption)) | (refine Blw.set ?_ (by first | (dsimp only; omega) | (simp; done) | (simp; omega)) _)))) rfl
      intro u w2 hH hF hne
      have hH1 := hH.1
      have hH2 := hH.2.2.2
      simp only [allFacts, SlotFact.h] at hF
      obtain ⟨f62, f63, f64, f65, f66, f67, f68, f69, f70, f71, f72, f73, f74, f75, f76, f77, f78, f79, f80, f81, f82, -⟩ := hF
      simp only [setU, upd, List.map_cons, List.map_nil, List.contains_cons, List.contains_nil, Nat.reduceBEq, Nat.reduceAdd, Bool.or_false, Bool.false_or, Bool.or_true, Bool.true_or, Bool.false_eq_true, if_false, if_true, ite_true, ite_false, Nat.reduceEqDiff, beq_self_eq_true]
      rw [f62, f63, f64, f65, f66, f67, f68, f69, f70, f71, f72, f73, f74, f75, f76, f77, f78, f79, f80, f81, f82]
      clear f62 f63 f64 f65 f66 f67 f68 f69 f70 f71 f72 f73 f74 f75 f76 f77 f78 f79 f80 f81 f82 hne
      refine wpListS_true ?_
      go_wp2_with fail
      go_ret
      exact ⟨rfl, by (repeat' (first | assumption | exact Below.refl _ _ | apply Blw.alloc | apply Blw.drew | apply Blw.drewN | (refine Blw.after ?_ (by assumption)) | (refine Blw.set ?_ (by first | (dsimp only; omega) | (simp; done) | (simp; omega)) _)))⟩
    · have C1 : ∀ w, Calls Try.prog 32 #[pr x y] w fun e w' => e = .returned (.tuple #[pr 0 0, .bool false]) ∧ Below w.heap.size w w' := fun w => by
        have h := iGaussFirst_c x y w; simpa only [res2, hi, sel_f] using h
      have C2 : ∀ w, Calls Try.prog 34 #[pr x y] w fun e w' => e = .returned (.tuple #[pr 0 0, .bool false]) ∧ Below w.heap.size w w' := fun w => by
        have h := sGaussFirst_c x y w; simpa only [res2, hi, sel_f] using h
      clear hi
      go_wp2_with (fail)
      refine (C1 _).mono ?_
      rintro e wA ⟨rfl, hbwA⟩
      have hkwA : Hld W0 wA := heldM (by (repeat' (first | assumption | exact Below.refl _ _ | apply Blw.alloc | apply Blw.drew | apply Blw.drewN | (refine Blw.after ?_ (by assumption)) | (refine Blw.set ?_ (by first | (dsimp only; omega) | (simp; done) | (simp; omega)) _))))
      have hlwA := hkwA.1
      have hswA := hkwA.2.2.2
      try (have : W1.heap.size < wA.heap.size := by omega)
      try (have : wC.heap.size < wA.heap.size := by omega)
      try (have : wD.heap.size < wA.heap.size := by omega)
      go_wp2_with fail
      generalize hW : World.alloc _ _ = W2
      have kW2_27 : W2.cell? ⟨W1.heap.size, 0, none⟩ = some (.int .i64 (x)) := by rw [← hW]; clear hW; first | (go_simp; done) | ((repeat refine keepcell ((Below.refl _ _).alloc (Nat.le_refl _) _) ?_); go_simp; done) | (simp only [frozen?_alloc_cells]; go_simp; done)
      have kW2_28 : W2.cell? ⟨W1.heap.size, 1, none⟩ = some (.int .i64 (y)) := by rw [← hW]; clear hW; first | (go_simp; done) | ((repeat refine keepcell ((Below.refl _ _).alloc (Nat.le_refl _) _) ?_); go_simp; done) | (simp only [frozen?_alloc_cells]; go_simp; done)
      have : W1.heap.size < W2.heap.size := World.block_lt_of_cell? W2 ⟨W1.heap.size, 0, none⟩ (by assumption)
      have kW2_29 : W2.cell? ⟨wA.heap.size, 0, none⟩ = some (.int .i64 (0)) := by rw [← hW]; clear hW; first | (go_simp; done) | ((repeat refine keepcell ((Below.refl _ _).alloc (Nat.le_refl _) _) ?_); go_simp; done) | (simp only [frozen?_alloc_cells]; go_simp; done)
      have kW2_30 : W2.cell? ⟨wA.heap.size, 1, none⟩ = some (.int .i64 (0)) := by rw [← hW]; clear hW; first | (go_simp; done) | ((repeat refine keepcell ((Below.refl _ _).alloc (Nat.le_refl _) _) ?_); go_simp; done) | (simp only [frozen?_alloc_cells]; go_simp; done)
      have : wA.heap.size < W2.heap.size := World.block_lt_of_cell? W2 ⟨wA.heap.size, 0, none⟩ (by assumption)
      have hBW2 : Below w.heap.size w W2 := by rw [← hW]; (repeat' (first | assumption | exact Below.refl _ _ | apply Blw.alloc | apply Blw.drew | apply Blw.drewN | (refine Blw.after ?_ (by assumption)) | (refine Blw.set ?_ (by first | (dsimp only; omega) | (simp; done) | (simp; omega)) _)))
      have hsW2 := hBW2.size
      clear hW
      try clear kW5_19; try clear kW5_20; try clear kW5_21; try clear kW5_22; try clear kW5_23; try clear kW5_24; try clear kW5_25; try clear kW5_26; try clear hH; try clear hH1; try clear hbwA; try clear hkwA; try clear hlwA
      go_wp2_with (fail)
      refine (C2 _).mono ?_
      rintro e wB ⟨rfl, hbwB⟩
      have hkwB : Hld W2 wB := heldM (by (repeat' (first | assumption | exact Below.refl _ _ | apply Blw.alloc | apply Blw.drew | apply Blw.drewN | (refine Blw.after ?_ (by assumption)) | (refine Blw.set ?_ (by first | (dsimp only; omega) | (simp; done) | (simp; omega)) _))))
      have hlwB := hkwB.1
      have hswB := hkwB.2.2.2
      try (have : W1.heap.size < wB.heap.size := by omega)
      try (have : wA.heap.size < wB.heap.size := by omega)
      go_wp2_with fail
      go_ret
      exact ⟨rfl, by (repeat' (first | assumption | exact Below.refl _ _ | apply Blw.alloc | apply Blw.drew | apply Blw.drewN | (refine Blw.after ?_ (by assumption)) | (refine Blw.set ?_ (by first | (dsimp only; omega) | (simp; done) | (simp; omega)) _)))⟩

namespace lawFnFirst
set_option maxRecDepth 100000 in
theorem lifted (os : Os) (started : os.Started) (H : Type) (enc : TypeId × Value → H) :
    ReturnsInHanded {} Try.checked os 9 .any (Rows.fnFirstSpec.pre6 enc Try.prog Try.f9 Rows.fnFirstRow.domain false) (Rows.fnFirstSpec.post enc Try.prog Try.f9 false true false false) := by
  refine returnsInHanded_of_change (C := Try.checked) own started (by kernel_rfl) Try.func9
    (ChangeSpec.witness6 (enc := enc) (C := Try.checked) false ⟨#[], #[.slice none 0 0], []⟩ 8 (by kernel_rfl) (by kernel_rfl) (by kernel_rfl) (by kernel_rfl)) ?_
  intro W base args ds gs before hval0 hW _ _
  have hval : ∀ (j : Nat) t v, Try.f9.params[j]? = some t → args[j]? = some v → Value.okWide Try.prog W .any base t v := hval0
  have hW' := hW
  obtain ⟨p, q, hA0, hV, rfl, _, _⟩ := hW
  have hA : DataW.TrodAll enc Try.prog W 0 (fun _ => true) true Try.f9.params.toList args.toList ds p := hA0
  rw [Try.params9] at hA hval
  obtain ⟨v0, vs0, d0, ds0, p0, q0, hargs, rfl, rfl, h0, r0⟩ := trodAll_cons hA
  obtain ⟨rfl, rfl, rfl⟩ := trodAll_nil r0
  obtain rfl : args = #[v0] := by cases args; simp_all
  obtain ⟨rfl, rfl⟩ := trodVars_none hV
  obtain ⟨a, len, cap, rfl⟩ := okWide_slice Try.underlying22 (hval 0 22 v0 rfl rfl)
  clear hA0 hval0
  simp only [List.append_nil] at hW'
  have hlt : ∀ x ∈ p0, x.block < W.heap.size := fun x hx => by simpa using hW'.lt x hx
  refine (lawFirst_c a len cap W (code_of h0)).mono fun e W' ⟨he, hg⟩ => ?_
  subst he
  have harg := Below.trod laidOut (by kernel_rfl) (of_decide_eq_true (by kernel_rfl)) h0 hg hlt
  refine ⟨_, rfl, _, _, _, [], p0, [], hW', ?_, ?_, ?_, hg.frame _, fun h => by cases h⟩
  · exact trodAll_cons_mk (shut_bool Try.underlying4 _) trodAll_mk0
  · exact trodAll_mk1 harg
  · rfl

theorem proved : Rows.FnFirstSaid :=
  OpenClaim.holds_of_wide 9 Try.f9 rfl rfl rfl rfl rfl rfl rfl ⟨rfl, rfl, rfl, rfl, rfl⟩ rfl rfl rfl rfl rfl (by kernel_rfl) Try.func9 (by kernel_rfl)
    (of_decide_eq_true (by kernel_rfl)) (by unfold Func.isWrapper; first | (rw [if_pos (by decide +kernel)]; kernel_rfl) | (rw [if_neg (by decide +kernel)]; exact ⟨rfl, rfl⟩))
    (fun os started H enc _ => lifted os started H enc)
end lawFnFirst
end Go.Proofs.Ytmcnioahnflgaaa

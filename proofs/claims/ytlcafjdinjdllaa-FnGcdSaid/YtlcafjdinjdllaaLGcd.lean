/- FnGcd: whatever the code draws, both sides give one divisor; it is the same whichever number comes first, it is its own first turn, and it leaves no rest. -/
import Derived.Test.YtlcafjdinjdllaaGk
import Derived.Test.YtlcafjdinjdllaaGcd
import Derived.Test.YtlcafjdinjdllaaDrawG
import Derived.Test.YtlcafjdinjdllaaBaseP
namespace Go.Proofs.Ytlcafjdinjdllaa
set_option linter.unusedSimpArgs false
set_option linter.unusedVariables false
open Go.ChangeShapes Go.WideShapes Go.ChangeAt Go.RowKit Go.Joins

theorem gcdB_parts {x y x' y' : Int} (h : gcdB x y x' y' = true) : inB 1000000 x y = true ∧ inB 1000000 x' y' = true ∧ ¬ (x = 0 ∧ y = 0 ∧ x' = 0 ∧ y' = 0) := by
  unfold gcdB at h
  simp only [Bool.and_eq_true, Bool.not_eq_true'] at h
  refine ⟨h.1.1, h.1.2, ?_⟩
  rintro ⟨rfl, rfl, rfl, rfl⟩
  have := h.2
  simp at this
theorem gcdB_of {x y x' y' : Int} (h1 : inB 1000000 x y = true) (h2 : inB 1000000 x' y' = true) (h3 : ¬ (x = 0 ∧ y = 0 ∧ x' = 0 ∧ y' = 0)) : gcdB x y x' y' = true := by
  unfold gcdB
  rw [h1, h2]
  simp
  omega
theorem divB_of {x y x' y' : Int} (h1 : inB 1000000 x y = true) (h2 : inB 1000000 x' y' = true) (h3 : ¬ (x' = 0 ∧ y' = 0)) : divB x y x' y' = true := by
  unfold divB
  rw [h1, h2]
  simp
  omega

set_option maxHeartbeats 8000000 in
set_option maxRecDepth 10000 in
theorem lawGcd_c (a : Option Addr) (len cap : Nat) (w : World) (hc : len ≤ 1048576 → Code (.slice a len cap) w) : Calls Try.prog 3 #[.slice a len cap] w fun e w' => e = .returned (.bool true) ∧ Below w.heap.size w w' := by
  by_cases hl : 1048576 < len
  · go_enter Try.func3, Try.ntmps3
    go_wp2_with fail
    go_ret
    exact ⟨rfl, by (repeat' (first | assumption | exact Below.refl _ _ | apply Blw.alloc | apply Blw.drew | apply Blw.drewN | (refine Blw.after ?_ (by assumption)) | (refine Blw.set ?_ (by first | (dsimp only; omega) | (simp; done) | (simp; omega)) _)))⟩
  · have hc' := hc (by omega)
    clear hc
    go_enter Try.func3, Try.ntmps3
    go_wp2_with fail
    refine (drawGcd_c _ w hc').mono ?_
    rintro e W1 ⟨x, y, x', y', rfl, hb1⟩
    clear hc'
    go_wp2_with fail
    generalize hW : World.alloc _ _ = W0
    have kW0_1 : W0.cell? ⟨W1.heap.size, 0, none⟩ = some (.int .i64 (x)) := by rw [← hW]; clear hW; first | (go_simp; done) | ((repeat refine keepcell ((Below.refl _ _).alloc (Nat.le_refl _) _) ?_); go_simp; done) | (simp only [frozen?_alloc_cells]; go_simp; done)
    have kW0_2 : W0.cell? ⟨W1.heap.size, 1, none⟩ = some (.int .i64 (y)) := by rw [← hW]; clear hW; first | (go_simp; done) | ((repeat refine keepcell ((Below.refl _ _).alloc (Nat.le_refl _) _) ?_); go_simp; done) | (simp only [frozen?_alloc_cells]; go_simp; done)
    have : W1.heap.size < W0.heap.size := World.block_lt_of_cell? W0 ⟨W1.heap.size, 0, none⟩ (by assumption)
    have kW0_3 : W0.cell? ⟨W1.heap.size + 1, 0, none⟩ = some (.int .i64 (x')) := by rw [← hW]; clear hW; first | (go_simp; done) | ((repeat refine keepcell ((Below.refl _ _).alloc (Nat.le_refl _) _) ?_); go_simp; done) | (simp only [frozen?_alloc_cells]; go_simp; done)
    have kW0_4 : W0.cell? ⟨W1.heap.size + 1, 1, none⟩ = some (.int .i64 (y')) := by rw [← hW]; clear hW; first | (go_simp; done) | ((repeat refine keepcell ((Below.refl _ _).alloc (Nat.le_refl _) _) ?_); go_simp; done) | (simp only [frozen?_alloc_cells]; go_simp; done)
    have : W1.heap.size + 1 < W0.heap.size := World.block_lt_of_cell? W0 ⟨W1.heap.size + 1, 0, none⟩ (by assumption)
    have hBW0 : Below w.heap.size w W0 := by rw [← hW]; (repeat' (first | assumption | exact Below.refl _ _ | apply Blw.alloc | apply Blw.drew | apply Blw.drewN | (refine Blw.after ?_ (by assumption)) | (refine Blw.set ?_ (by first | (dsimp only; omega) | (simp; done) | (simp; omega)) _)))
    have hsW0 := hBW0.size
    clear hW
    rcases Bool.eq_false_or_eq_true (gcdB x y x' y') with hi | hi
    · obtain ⟨i1, i2, i3⟩ := gcdB_parts hi
      have hi' : gcdB x' y' x y = true := gcdB_of i2 i1 (fun h => i3 ⟨h.2.2.1, h.2.2.2, h.1, h.2.1⟩)
      have hsw := gcd_swap x y x' y'
      obtain ⟨⟨hr1, hr2⟩, hr3, hr4⟩ := gcd_rest i3
      have hnz := gcd_nz i3
      have hin := inB_of (gcd_in (inB_le i1) (inB_le i2))
      have hft := first_twice (gcdX x y x' y') (gcdY x y x' y')
      have D1 := fun w => iGaussGcd_c x y x' y' w
      have D2 := fun w => sGaussGcd_c x y x' y' w
      have D3 := fun w => iGaussGcd_c x' y' x y w
      simp only [res2, hi, sel_t] at D1 D2
      simp only [res2, hi', sel_t, hsw.1, hsw.2] at D3
      generalize firstX (gcdX x y x' y') (gcdY x y x' y') = g at *
      generalize firstY (gcdX x y x' y') (gcdY x y x' y') = h at *
      have D4 := fun w => iGaussDivide_c x y g h w
      have D5 := fun w => iGaussDivide_c x' y' g h w
      have D6 := fun w => iGaussFirst_c g h w
      simp only [res3, divB_of i1 hin hnz, sel_t, hr1, hr2] at D4
      simp only [res3, divB_of i2 hin hnz, sel_t, hr3, hr4] at D5
      simp only [res2, hin, sel_t, hft.1, hft.2] at D6
      generalize qx x y g h = q1 at *
      generalize qy x y g h = q2 at *
      generalize qx x' y' g h = q3 at *
      generalize qy x' y' g h = q4 at *
      clear hsw hr1 hr2 hr3 hr4 hnz hin hft hi hi' i1 i2 i3
      go_wp2_with (fail)
      refine (D1 _).mono ?_
      rintro e wA ⟨rfl, hbwA⟩
      have hkwA : Hld W0 wA := heldM (by (repeat' (first | assumption | exact Below.refl _ _ | apply Blw.alloc | apply Blw.drew | apply Blw.drewN | (refine Blw.after ?_ (by assumption)) | (refine Blw.set ?_ (by first | (dsimp only; omega) | (simp; done) | (simp; omega)) _))))
      have hlwA := hkwA.1
      have hswA := hkwA.2.2.2
      try (have : W1.heap.size < wA.heap.size := by omega)
      try (have : W1.heap.size + 1 < wA.heap.size := by omega)
      go_wp2_with fail
      generalize hW : World.alloc _ _ = W2
      have kW2_5 : W2.cell? ⟨W1.heap.size, 0, none⟩ = some (.int .i64 (x)) := by rw [← hW]; clear hW; first | (go_simp; done) | ((repeat refine keepcell ((Below.refl _ _).alloc (Nat.le_refl _) _) ?_); go_simp; done) | (simp only [frozen?_alloc_cells]; go_simp; done)
      have kW2_6 : W2.cell? ⟨W1.heap.size, 1, none⟩ = some (.int .i64 (y)) := by rw [← hW]; clear hW; first | (go_simp; done) | ((repeat refine keepcell ((Below.refl _ _).alloc (Nat.le_refl _) _) ?_); go_simp; done) | (simp only [frozen?_alloc_cells]; go_simp; done)
      have : W1.heap.size < W2.heap.size := World.block_lt_of_cell? W2 ⟨W1.heap.size, 0, none⟩ (by assumption)
      have kW2_7 : W2.cell? ⟨W1.heap.size + 1, 0, none⟩ = some (.int .i64 (x')) := by rw [← hW]; clear hW; first | (go_simp; done) | ((repeat refine keepcell ((Below.refl _ _).alloc (Nat.le_refl _) _) ?_); go_simp; done) | (simp only [frozen?_alloc_cells]; go_simp; done)
      have kW2_8 : W2.cell? ⟨W1.heap.size + 1, 1, none⟩ = some (.int .i64 (y')) := by rw [← hW]; clear hW; first | (go_simp; done) | ((repeat refine keepcell ((Below.refl _ _).alloc (Nat.le_refl _) _) ?_); go_simp; done) | (simp only [frozen?_alloc_cells]; go_simp; done)
      have : W1.heap.size + 1 < W2.heap.size := World.block_lt_of_cell? W2 ⟨W1.heap.size + 1, 0, none⟩ (by assumption)
      have kW2_9 : W2.cell? ⟨wA.heap.size, 0, none⟩ = some (.int .i64 (g)) := by rw [← hW]; clear hW; first | (go_simp; done) | ((repeat refine keepcell ((Below.refl _ _).alloc (Nat.le_refl _) _) ?_); go_simp; done) | (simp only [frozen?_alloc_cells]; go_simp; done)
      have kW2_10 : W2.cell? ⟨wA.heap.size, 1, none⟩ = some (.int .i64 (h)) := by rw [← hW]; clear hW; first | (go_simp; done) | ((repeat refine keepcell ((Below.refl _ _).alloc (Nat.le_refl _) _) ?_); go_simp; done) | (simp only [frozen?_alloc_cells]; go_simp; done)
      have : wA.heap.size < W2.heap.size := World.block_lt_of_cell? W2 ⟨wA.heap.size, 0, none⟩ (by assumption)
      have hBW2 : Below w.heap.size w W2 := by rw [← hW]; (repeat' (first | assumption | exact Below.refl _ _ | apply Blw.alloc | apply Blw.drew | apply Blw.drewN | (refine Blw.after ?_ (by assumption)) | (refine Blw.set ?_ (by first | (dsimp only; omega) | (simp; done) | (simp; omega)) _)))
      have hsW2 := hBW2.size
      clear hW
      try clear kW0_1; try clear kW0_2; try clear kW0_3; try clear kW0_4; try clear hbwA; try clear hkwA; try clear hlwA
      go_wp2_with (fail)
      refine (D2 _).mono ?_
      rintro e wB ⟨rfl, hbwB⟩
      have hkwB : Hld W2 wB := heldM (by (repeat' (first | assumption | exact Below.refl _ _ | apply Blw.alloc | apply Blw.drew | apply Blw.drewN | (refine Blw.after ?_ (by assumption)) | (refine Blw.set ?_ (by first | (dsimp only; omega) | (simp; done) | (simp; omega)) _))))
      have hlwB := hkwB.1
      have hswB := hkwB.2.2.2
      try (have : W1.heap.size < wB.heap.size := by omega)
      try (have : W1.heap.size + 1 < wB.heap.size := by omega)
      try (have : wA.heap.size < wB.heap.size := by omega)
      go_wp2_with fail
      generalize hW : World.alloc _ _ = W3
      have kW3_11 : W3.cell? ⟨W1.heap.size, 0, none⟩ = some (.int .i64 (x)) := by rw [← hW]; clear hW; first | (go_simp; done) | ((repeat refine keepcell ((Below.refl _ _).alloc (Nat.le_refl _) _) ?_); go_simp; done) | (simp only [frozen?_alloc_cells]; go_simp; done)
      have kW3_12 : W3.cell? ⟨W1.heap.size, 1, none⟩ = some (.int .i64 (y)) := by rw [← hW]; clear hW; first | (go_simp; done) | ((repeat refine keepcell ((Below.refl _ _).alloc (Nat.le_refl _) _) ?_); go_simp; done) | (simp only [frozen?_alloc_cells]; go_simp; done)
      have : W1.heap.size < W3.heap.size := World.block_lt_of_cell? W3 ⟨W1.heap.size, 0, none⟩ (by assumption)
      have kW3_13 : W3.cell? ⟨W1.heap.size + 1, 0, none⟩ = some (.int .i64 (x')) := by rw [← hW]; clear hW; first | (go_simp; done) | ((repeat refine keepcell ((Below.refl _ _).alloc (Nat.le_refl _) _) ?_); go_simp; done) | (simp only [frozen?_alloc_cells]; go_simp; done)
      have kW3_14 : W3.cell? ⟨W1.heap.size + 1, 1, none⟩ = some (.int .i64 (y')) := by rw [← hW]; clear hW; first | (go_simp; done) | ((repeat refine keepcell ((Below.refl _ _).alloc (Nat.le_refl _) _) ?_); go_simp; done) | (simp only [frozen?_alloc_cells]; go_simp; done)
      have : W1.heap.size + 1 < W3.heap.size := World.block_lt_of_cell? W3 ⟨W1.heap.size + 1, 0, none⟩ (by assumption)
      have kW3_15 : W3.cell? ⟨wA.heap.size, 0, none⟩ = some (.int .i64 (g)) := by rw [← hW]; clear hW; first | (go_simp; done) | ((repeat refine keepcell ((Below.refl _ _).alloc (Nat.le_refl _) _) ?_); go_simp; done) | (simp only [frozen?_alloc_cells]; go_simp; done)
      have kW3_16 : W3.cell? ⟨wA.heap.size, 1, none⟩ = some (.int .i64 (h)) := by rw [← hW]; clear hW; first | (go_simp; done) | ((repeat refine keepcell ((Below.refl _ _).alloc (Nat.le_refl _) _) ?_); go_simp; done) | (simp only [frozen?_alloc_cells]; go_simp; done)
      have : wA.heap.size < W3.heap.size := World.block_lt_of_cell? W3 ⟨wA.heap.size, 0, none⟩ (by assumption)
      have kW3_17 : W3.cell? ⟨wB.heap.size, 0, none⟩ = some (.int .i64 (g)) := by rw [← hW]; clear hW; first | (go_simp; done) | ((repeat refine keepcell ((Below.refl _ _).alloc (Nat.le_refl _) _) ?_); go_simp; done) | (simp only [frozen?_alloc_cells]; go_simp; done)
      have kW3_18 : W3.cell? ⟨wB.heap.size, 1, none⟩ = some (.int .i64 (h)) := by rw [← hW]; clear hW; first | (go_simp; done) | ((repeat refine keepcell ((Below.refl _ _).alloc (Nat.le_refl _) _) ?_); go_simp; done) | (simp only [frozen?_alloc_cells]; go_simp; done)
      have : wB.heap.size < W3.heap.size := World.block_lt_of_cell? W3 ⟨wB.heap.size, 0, none⟩ (by assumption)
      have hBW3 : Below w.heap.size w W3 := by rw [← hW]; (repeat' (first | assumption | exact Below.refl _ _ | apply Blw.alloc | apply Blw.drew | apply Blw.drewN | (refine Blw.after ?_ (by assumption)) | (refine Blw.set ?_ (by first | (dsimp only; omega) | (simp; done) | (simp; omega)) _)))
      have hsW3 := hBW3.size
      clear hW
      try clear kW2_5; try clear kW2_6; try clear kW2_7; try clear kW2_8; try clear kW2_9; try clear kW2_10; try clear hbwB; try clear hkwB; try clear hlwB
      go_wp2_with (fail)
      refine (D3 _).mono ?_
      rintro e wC ⟨rfl, hbwC⟩
      have hkwC : Hld W3 wC := heldM (by (repeat' (first | assumption | exact Below.refl _ _ | apply Blw.alloc | apply Blw.drew | apply Blw.drewN | (refine Blw.after ?_ (by assumption)) | (refine Blw.set ?_ (by first | (dsimp only; omega) | (simp; done) | (simp; omega)) _))))
      have hlwC := hkwC.1
      have hswC := hkwC.2.2.2
      try (have : W1.heap.size < wC.heap.size := by omega)
      try (have : W1.heap.size + 1 < wC.heap.size := by omega)
      try (have : wA.heap.size < wC.heap.size := by omega)
      try (have : wB.heap.size < wC.heap.size := by omega)
      go_wp2_with fail
      generalize hW : World.alloc _ _ = W4
      have kW4_19 : W4.cell? ⟨W1.heap.size, 0, none⟩ = some (.int .i64 (x)) := by rw [← hW]; clear hW; first | (go_simp; done) | ((repeat refine keepcell ((Below.refl _ _).alloc (Nat.le_refl _) _) ?_); go_simp; done) | (simp only [frozen?_alloc_cells]; go_simp; done)
      have kW4_20 : W4.cell? ⟨W1.heap.size, 1, none⟩ = some (.int .i64 (y)) := by rw [← hW]; clear hW; first | (go_simp; done) | ((repeat refine keepcell ((Below.refl _ _).alloc (Nat.le_refl _) _) ?_); go_simp; done) | (simp only [frozen?_alloc_cells]; go_simp; done)
      have : W1.heap.size < W4.heap.size := World.block_lt_of_cell? W4 ⟨W1.heap.size, 0, none⟩ (by assumption)
      have kW4_21 : W4.cell? ⟨W1.heap.size + 1, 0, none⟩ = some (.int .i64 (x')) := by rw [← hW]; clear hW; first | (go_simp; done) | ((repeat refine keepcell ((Below.refl _ _).alloc (Nat.le_refl _) _) ?_); go_simp; done) | (simp only [frozen?_alloc_cells]; go_simp; done)
      have kW4_22 : W4.cell? ⟨W1.heap.size + 1, 1, none⟩ = some (.int .i64 (y')) := by rw [← hW]; clear hW; first | (go_simp; done) | ((repeat refine keepcell ((Below.refl _ _).alloc (Nat.le_refl _) _) ?_); go_simp; done) | (simp only [frozen?_alloc_cells]; go_simp; done)
      have : W1.heap.size + 1 < W4.heap.size := World.block_lt_of_cell? W4 ⟨W1.heap.size + 1, 0, none⟩ (by assumption)
      have kW4_23 : W4.cell? ⟨wA.heap.size, 0, none⟩ = some (.int .i64 (g)) := by rw [← hW]; clear hW; first | (go_simp; done) | ((repeat refine keepcell ((Below.refl _ _).alloc (Nat.le_refl _) _) ?_); go_simp; done) | (simp only [frozen?_alloc_cells]; go_simp; done)
      have kW4_24 : W4.cell? ⟨wA.heap.size, 1, none⟩ = some (.int .i64 (h)) := by rw [← hW]; clear hW; first | (go_simp; done) | ((repeat refine keepcell ((Below.refl _ _).alloc (Nat.le_refl _) _) ?_); go_simp; done) | (simp only [frozen?_alloc_cells]; go_simp; done)
      have : wA.heap.size < W4.heap.size := World.block_lt_of_cell? W4 ⟨wA.heap.size, 0, none⟩ (by assumption)
      have kW4_25 : W4.cell? ⟨wC.heap.size, 0, none⟩ = some (.int .i64 (g)) := by rw [← hW]; clear hW; first | (go_simp; done) | ((repeat refine keepcell ((Below.refl _ _).alloc (Nat.le_refl _) _) ?_); go_simp; done) | (simp only [frozen?_alloc_cells]; go_simp; done)
      have kW4_26 : W4.cell? ⟨wC.heap.size, 1, none⟩ = some (.int .i64 (h)) := by rw [← hW]; clear hW; first | (go_simp; done) | ((repeat refine keepcell ((Below.refl _ _).alloc (Nat.le_refl _) _) ?_); go_simp; done) | (simp only [frozen?_alloc_cells]; go_simp; done)
      have : wC.heap.size < W4.heap.size := World.block_lt_of_cell? W4 ⟨wC.heap.size, 0, none⟩ (by assumption)
      have hBW4 : Below w.heap.size w W4 := by rw [← hW]; (repeat' (first | assumption | exact Below.refl _ _ | apply Blw.alloc | apply Blw.drew | apply Blw.drewN | (refine Blw.after ?_ (by assumption)) | (refine Blw.set ?_ (by first | (dsimp only; omega) | (simp; done) | (simp; omega)) _)))
      have hsW4 := hBW4.size
      clear hW
      try clear kW3_11; try clear kW3_12; try clear kW3_13; try clear kW3_14; try clear kW3_15; try clear kW3_16; try clear kW3_17; try clear kW3_18; try clear hbwC; try clear hkwC; try clear hlwC
      go_wp2_with (fail)
      refine (D4 _).mono ?_
      rintro e wD ⟨rfl, hbwD⟩
      have hkwD : Hld W4 wD := heldM (by (repeat' (first | assumption | exact Below.refl _ _ | apply Blw.alloc | apply Blw.drew | apply Blw.drewN | (refine Blw.after ?_ (by assumption)) | (refine Blw.set ?_ (by first | (dsimp only; omega) | (simp; done) | (simp; omega)) _))))
      have hlwD := hkwD.1
      have hswD := hkwD.2.2.2
      try (have : W1.heap.size < wD.heap.size := by omega)
      try (have : W1.heap.size + 1 < wD.heap.size := by omega)
      try (have : wA.heap.size < wD.heap.size := by omega)
      try (have : wC.heap.size < wD.heap.size := by omega)
      go_wp2_with fail
      generalize hW : World.alloc _ _ = W5
      have kW5_27 : W5.cell? ⟨W1.heap.size, 0, none⟩ = some (.int .i64 (x)) := by rw [← hW]; clear hW; first | (go_simp; done) | ((repeat refine keepcell ((Below.refl _ _).alloc (Nat.le_refl _) _) ?_); go_simp; done) | (simp only [frozen?_alloc_cells]; go_simp; done)
      have kW5_28 : W5.cell? ⟨W1.heap.size, 1, none⟩ = some (.int .i64 (y)) := by rw [← hW]; clear hW; first | (go_simp; done) | ((repeat refine keepcell ((Below.refl _ _).alloc (Nat.le_refl _) _) ?_); go_simp; done) | (simp only [frozen?_alloc_cells]; go_simp; done)
      have : W1.heap.size < W5.heap.size := World.block_lt_of_cell? W5 ⟨W1.heap.size, 0, none⟩ (by assumption)
      have kW5_29 : W5.cell? ⟨W1.heap.size + 1, 0, none⟩ = some (.int .i64 (x')) := by rw [← hW]; clear hW; first | (go_simp; done) | ((repeat refine keepcell ((Below.refl _ _).alloc (Nat.le_refl _) _) ?_); go_simp; done) | (simp only [frozen?_alloc_cells]; go_simp; done)
      have kW5_30 : W5.cell? ⟨W1.heap.size + 1, 1, none⟩ = some (.int .i64 (y')) := by rw [← hW]; clear hW; first | (go_simp; done) | ((repeat refine keepcell ((Below.refl _ _).alloc (Nat.le_refl _) _) ?_); go_simp; done) | (simp only [frozen?_alloc_cells]; go_simp; done)
      have : W1.heap.size + 1 < W5.heap.size := World.block_lt_of_cell? W5 ⟨W1.heap.size + 1, 0, none⟩ (by assumption)
      have kW5_31 : W5.cell? ⟨wA.heap.size, 0, none⟩ = some (.int .i64 (g)) := by rw [← hW]; clear hW; first | (go_simp; done) | ((repeat refine keepcell ((Below.refl _ _).alloc (Nat.le_refl _) _) ?_); go_simp; done) | (simp only [frozen?_alloc_cells]; go_simp; done)
      have kW5_32 : W5.cell? ⟨wA.heap.size, 1, none⟩ = some (.int .i64 (h)) := by rw [← hW]; clear hW; first | (go_simp; done) | ((repeat refine keepcell ((Below.refl _ _).alloc (Nat.le_refl _) _) ?_); go_simp; done) | (simp only [frozen?_alloc_cells]; go_simp; done)
      have : wA.heap.size < W5.heap.size := World.block_lt_of_cell? W5 ⟨wA.heap.size, 0, none⟩ (by assumption)
      have kW5_33 : W5.cell? ⟨wC.heap.size, 0, none⟩ = some (.int .i64 (g)) := by rw [← hW]; clear hW; first | (go_simp; done) | ((repeat refine keepcell ((Below.refl _ _).alloc (Nat.le_refl _) _) ?_); go_simp; done) | (simp only [frozen?_alloc_cells]; go_simp; done)
      have kW5_34 : W5.cell? ⟨wC.heap.size, 1, none⟩ = some (.int .i64 (h)) := by rw [← hW]; clear hW; first | (go_simp; done) | ((repeat refine keepcell ((Below.refl _ _).alloc (Nat.le_refl _) _) ?_); go_simp; done) | (simp only [frozen?_alloc_cells]; go_simp; done)
      have : wC.heap.size < W5.heap.size := World.block_lt_of_cell? W5 ⟨wC.heap.size, 0, none⟩ (by assumption)
      have kW5_35 : W5.cell? ⟨wD.heap.size + 1, 0, none⟩ = some (.int .i64 (0)) := by rw [← hW]; clear hW; first | (go_simp; done) | ((repeat refine keepcell ((Below.refl _ _).alloc (Nat.le_refl _) _) ?_); go_simp; done) | (simp only [frozen?_alloc_cells]; go_simp; done)
      have kW5_36 : W5.cell? ⟨wD.heap.size + 1, 1, none⟩ = some (.int .i64 (0)) := by rw [← hW]; clear hW; first | (go_simp; done) | ((repeat refine keepcell ((Below.refl _ _).alloc (Nat.le_refl _) _) ?_); go_simp; done) | (simp only [frozen?_alloc_cells]; go_simp; done)
      have : wD.heap.size + 1 < W5.heap.size := World.block_lt_of_cell? W5 ⟨wD.heap.size + 1, 0, none⟩ (by assumption)
      have hBW5 : Below w.heap.size w W5 := by rw [← hW]; (repeat' (first | assumption | exact Below.refl _ _ | apply Blw.alloc | apply Blw.drew | apply Blw.drewN | (refine Blw.after ?_ (by assumption)) | (refine Blw.set ?_ (by first | (dsimp only; omega) | (simp; done) | (simp; omega)) _)))
      have hsW5 := hBW5.size
      clear hW
      try clear kW4_19; try clear kW4_20; try clear kW4_21; try clear kW4_22; try clear kW4_23; try clear kW4_24; try clear kW4_25; try clear kW4_26; try clear hbwD; try clear hkwD; try clear hlwD
      go_wp2_with (fail)
      refine (D5 _).mono ?_
      rintro e wE ⟨rfl, hbwE⟩
      have hkwE : Hld W5 wE := heldM (by (repeat' (first | assumption | exact Below.refl _ _ | apply Blw.alloc | apply Blw.drew | apply Blw.drewN | (refine Blw.after ?_ (by assumption)) | (refine Blw.set ?_ (by first | (dsimp only; omega) | (simp; done) | (simp; omega)) _))))
      have hlwE := hkwE.1
      have hswE := hkwE.2.2.2
      try (have : W1.heap.size < wE.heap.size := by omega)
      try (have : W1.heap.size + 1 < wE.heap.size := by omega)
      try (have : wA.heap.size < wE.heap.size := by omega)
      try (have : wC.heap.size < wE.heap.size := by omega)
      try (have : wD.heap.size + 1 < wE.heap.size := by omega)
      go_wp2_with fail
      generalize hW : World.alloc _ _ = W6
      have kW6_37 : W6.cell? ⟨wA.heap.size, 0, none⟩ = some (.int .i64 (g)) := by rw [← hW]; clear hW; first | (go_simp; done) | ((repeat refine keepcell ((Below.refl _ _).alloc (Nat.le_refl _) _) ?_); go_simp; done) | (simp only [frozen?_alloc_cells]; go_simp; done)
      have kW6_38 : W6.cell? ⟨wA.heap.size, 1, none⟩ = some (.int .i64 (h)) := by rw [← hW]; clear hW; first | (go_simp; done) | ((repeat refine keepcell ((Below.refl _ _).alloc (Nat.le_refl _) _) ?_); go_simp; done) | (simp only [frozen?_alloc_cells]; go_simp; done)
      have : wA.heap.size < W6.heap.size := World.block_lt_of_cell? W6 ⟨wA.heap.size, 0, none⟩ (by assumption)
      have kW6_39 : W6.cell? ⟨wC.heap.size, 0, none⟩ = some (.int .i64 (g)) := by rw [← hW]; clear hW; first | (go_simp; done) | ((repeat refine keepcell ((Below.refl _ _).alloc (Nat.le_refl _) _) ?_); go_simp; done) | (simp only [frozen?_alloc_cells]; go_simp; done)
      have kW6_40 : W6.cell? ⟨wC.heap.size, 1, none⟩ = some (.int .i64 (h)) := by rw [← hW]; clear hW; first | (go_simp; done) | ((repeat refine keepcell ((Below.refl _ _).alloc (Nat.le_refl _) _) ?_); go_simp; done) | (simp only [frozen?_alloc_cells]; go_simp; done)
      have : wC.heap.size < W6.heap.size := World.block_lt_of_cell? W6 ⟨wC.heap.size, 0, none⟩ (by assumption)
      have kW6_41 : W6.cell? ⟨wD.heap.size + 1, 0, none⟩ = some (.int .i64 (0)) := by rw [← hW]; clear hW; first | (go_simp; done) | ((repeat refine keepcell ((Below.refl _ _).alloc (Nat.le_refl _) _) ?_); go_simp; done) | (simp only [frozen?_alloc_cells]; go_simp; done)
      have kW6_42 : W6.cell? ⟨wD.heap.size + 1, 1, none⟩ = some (.int .i64 (0)) := by rw [← hW]; clear hW; first | (go_simp; done) | ((repeat refine keepcell ((Below.refl _ _).alloc (Nat.le_refl _) _) ?_); go_simp; done) | (simp only [frozen?_alloc_cells]; go_simp; done)
      have : wD.heap.size + 1 < W6.heap.size := World.block_lt_of_cell? W6 ⟨wD.heap.size + 1, 0, none⟩ (by assumption)
      have kW6_43 : W6.cell? ⟨wE.heap.size + 1, 0, none⟩ = some (.int .i64 (0)) := by rw [← hW]; clear hW; first | (go_simp; done) | ((repeat refine keepcell ((Below.refl _ _).alloc (Nat.le_refl _) _) ?_); go_simp; done) | (simp only [frozen?_alloc_cells]; go_simp; done)
      have kW6_44 : W6.cell? ⟨wE.heap.size + 1, 1, none⟩ = some (.int .i64 (0)) := by rw [← hW]; clear hW; first | (go_simp; done) | ((repeat refine keepcell ((Below.refl _ _).alloc (Nat.le_refl _) _) ?_); go_simp; done) | (simp only [frozen?_alloc_cells]; go_simp; done)
      have : wE.heap.size + 1 < W6.heap.size := World.block_lt_of_cell? W6 ⟨wE.heap.size + 1, 0, none⟩ (by assumption)
      have hBW6 : Below w.heap.size w W6 := by rw [← hW]; (repeat' (first | assumption | exact Below.refl _ _ | apply Blw.alloc | apply Blw.drew | apply Blw.drewN | (refine Blw.after ?_ (by assumption)) | (refine Blw.set ?_ (by first | (dsimp only; omega) | (simp; done) | (simp; omega)) _)))
      have hsW6 := hBW6.size
      clear hW
      try clear kW5_27; try clear kW5_28; try clear kW5_29; try clear kW5_30; try clear kW5_31; try clear kW5_32; try clear kW5_33; try clear kW5_34; try clear kW5_35; try clear kW5_36; try clear hbwE; try clear hkwE; try clear hlwE
      go_wp2_with (fail)
      refine (D6 _).mono ?_
      rintro e wF ⟨rfl, hbwF⟩
      have hkwF : Hld W6 wF := heldM (by (repeat' (first | assumption | exact Below.refl _ _ | apply Blw.alloc | apply Blw.drew | apply Blw.drewN | (refine Blw.after ?_ (by assumption)) | (refine Blw.set ?_ (by first | (dsimp only; omega) | (simp; done) | (simp; omega)) _))))
      have hlwF := hkwF.1
      have hswF := hkwF.2.2.2
      try (have : wA.heap.size < wF.heap.size := by omega)
      try (have : wC.heap.size < wF.heap.size := by omega)
      try (have : wD.heap.size + 1 < wF.heap.size := by omega)
      try (have : wE.heap.size + 1 < wF.heap.size := by omega)
      go_wp2_with fail
      generalize hW : World.alloc _ _ = W7
      have kW7_45 : W7.cell? ⟨wA.heap.size, 0, none⟩ = some (.int .i64 (g)) := by rw [← hW]; clear hW; first | (go_simp; done) | ((repeat refine keepcell ((Below.refl _ _).alloc (Nat.le_refl _) _) ?_); go_simp; done) | (simp only [frozen?_alloc_cells]; go_simp; done)
      have kW7_46 : W7.cell? ⟨wA.heap.size, 1, none⟩ = some (.int .i64 (h)) := by rw [← hW]; clear hW; first | (go_simp; done) | ((repeat refine keepcell ((Below.refl _ _).alloc (Nat.le_refl _) _) ?_); go_simp; done) | (simp only [frozen?_alloc_cells]; go_simp; done)
      have : wA.heap.size < W7.heap.size := World.block_lt_of_cell? W7 ⟨wA.heap.size, 0, none⟩ (by assumption)
      have kW7_47 : W7.cell? ⟨wC.heap.size, 0, none⟩ = some (.int .i64 (g)) := by rw [← hW]; clear hW; first | (go_simp; done) | ((repeat refine keepcell ((Below.refl _ _).alloc (Nat.le_refl _) _) ?_); go_simp; done) | (simp only [frozen?_alloc_cells]; go_simp; done)
      have kW7_48 : W7.cell? ⟨wC.heap.size, 1, none⟩ = some (.int .i64 (h)) := by rw [← hW]; clear hW; first | (go_simp; done) | ((repeat refine keepcell ((Below.refl _ _).alloc (Nat.le_refl _) _) ?_); go_simp; done) | (simp only [frozen?_alloc_cells]; go_simp; done)
      have : wC.heap.size < W7.heap.size := World.block_lt_of_cell? W7 ⟨wC.heap.size, 0, none⟩ (by assumption)
      have kW7_49 : W7.cell? ⟨wD.heap.size + 1, 0, none⟩ = some (.int .i64 (0)) := by rw [← hW]; clear hW; first | (go_simp; done) | ((repeat refine keepcell ((Below.refl _ _).alloc (Nat.le_refl _) _) ?_); go_simp; done) | (simp only [frozen?_alloc_cells]; go_simp; done)
      have kW7_50 : W7.cell? ⟨wD.heap.size + 1, 1, none⟩ = some (.int .i64 (0)) := by rw [← hW]; clear hW; first | (go_simp; done) | ((repeat refine keepcell ((Below.refl _ _).alloc (Nat.le_refl _) _) ?_); go_simp; done) | (simp only [frozen?_alloc_cells]; go_simp; done)
      have : wD.heap.size + 1 < W7.heap.size := World.block_lt_of_cell? W7 ⟨wD.heap.size + 1, 0, none⟩ (by assumption)
      have kW7_51 : W7.cell? ⟨wE.heap.size + 1, 0, none⟩ = some (.int .i64 (0)) := by rw [← hW]; clear hW; first | (go_simp; done) | ((repeat refine keepcell ((Below.refl _ _).alloc (Nat.le_refl _) _) ?_); go_simp; done) | (simp only [frozen?_alloc_cells]; go_simp; done)
      have kW7_52 : W7.cell? ⟨wE.heap.size + 1, 1, none⟩ = some (.int .i64 (0)) := by rw [← hW]; clear hW; first | (go_simp; done) | ((repeat refine keepcell ((Below.refl _ _).alloc (Nat.le_refl _) _) ?_); go_simp; done) | (simp only [frozen?_alloc_cells]; go_simp; done)
      have : wE.heap.size + 1 < W7.heap.size := World.block_lt_of_cell? W7 ⟨wE.heap.size + 1, 0, none⟩ (by assumption)
      have kW7_53 : W7.cell? ⟨wF.heap.size, 0, none⟩ = some (.int .i64 (g)) := by rw [← hW]; clear hW; first | (go_simp; done) | ((repeat refine keepcell ((Below.refl _ _).alloc (Nat.le_refl _) _) ?_); go_simp; done) | (simp only [frozen?_alloc_cells]; go_simp; done)
      have kW7_54 : W7.cell? ⟨wF.heap.size, 1, none⟩ = some (.int .i64 (h)) := by rw [← hW]; clear hW; first | (go_simp; done) | ((repeat refine keepcell ((Below.refl _ _).alloc (Nat.le_refl _) _) ?_); go_simp; done) | (simp only [frozen?_alloc_cells]; go_simp; done)
      have : wF.heap.size < W7.heap.size := World.block_lt_of_cell? W7 ⟨wF.heap.size, 0, none⟩ (by assumption)
      have hBW7 : Below w.heap.size w W7 := by rw [← hW]; (repeat' (first | assumption | exact Below.refl _ _ | apply Blw.alloc | apply Blw.drew | apply Blw.drewN | (refine Blw.after ?_ (by assumption)) | (refine Blw.set ?_ (by first | (dsimp only; omega) | (simp; done) | (simp; omega)) _)))
      have hsW7 := hBW7.size
      clear hW
      try clear kW6_37; try clear kW6_38; try clear kW6_39; try clear kW6_40; try clear kW6_41; try clear kW6_42; try clear kW6_43; try clear kW6_44; try clear hbwF; try clear hkwF; try clear hlwF
      go_wp2_with fail
      go_ret
      exact ⟨rfl, by (repeat' (first | assumption | exact Below.refl _ _ | apply Blw.alloc | apply Blw.drew | apply Blw.drewN | (refine Blw.after ?_ (by assumption)) | (refine Blw.set ?_ (by first | (dsimp only; omega) | (simp; done) | (simp; omega)) _)))⟩
    · have D1 := fun w => iGaussGcd_c x y x' y' w
      have D2 := fun w => sGaussGcd_c x y x' y' w
      simp only [res2, hi, sel_f] at D1 D2
      clear hi
      go_wp2_with (fail)
      refine (D1 _).mono ?_
      rintro e wA ⟨rfl, hbwA⟩
      have hkwA : Hld W0 wA := heldM (by (repeat' (first | assumption | exact Below.refl _ _ | apply Blw.alloc | apply Blw.drew | apply Blw.drewN | (refine Blw.after ?_ (by assumption)) | (refine Blw.set ?_ (by first | (dsimp only; omega) | (simp; done) | (simp; omega)) _))))
      have hlwA := hkwA.1
      have hswA := hkwA.2.2.2
      try (have : wC.heap.size < wA.heap.size := by omega)
      try (have : wD.heap.size + 1 < wA.heap.size := by omega)
      try (have : wE.heap.size + 1 < wA.heap.size := by omega)
      try (have : wF.heap.size < wA.heap.size := by omega)
      have g1 : W1.heap.size < wA.heap.size := by omega
      have g2 : W1.heap.size + 1 < wA.heap.size := by omega
      go_wp2_with fail
      generalize hW : World.alloc _ _ = W2
      have kW2_55 : W2.cell? ⟨W1.heap.size, 0, none⟩ = some (.int .i64 (x)) := by rw [← hW]; clear hW; first | (go_simp; done) | ((repeat refine keepcell ((Below.refl _ _).alloc (Nat.le_refl _) _) ?_); go_simp; done) | (simp only [frozen?_alloc_cells]; go_simp; done)
      have kW2_56 : W2.cell? ⟨W1.heap.size, 1, none⟩ = some (.int .i64 (y)) := by rw [← hW]; clear hW; first | (go_simp; done) | ((repeat refine keepcell ((Below.refl _ _).alloc (Nat.le_refl _) _) ?_); go_simp; done) | (simp only [frozen?_alloc_cells]; go_simp; done)
      have : W1.heap.size < W2.heap.size := World.block_lt_of_cell? W2 ⟨W1.heap.size, 0, none⟩ (by assumption)
      have kW2_57 : W2.cell? ⟨W1.heap.size + 1, 0, none⟩ = some (.int .i64 (x')) := by rw [← hW]; clear hW; first | (go_simp; done) | ((repeat refine keepcell ((Below.refl _ _).alloc (Nat.le_refl _) _) ?_); go_simp; done) | (simp only [frozen?_alloc_cells]; go_simp; done)
      have kW2_58 : W2.cell? ⟨W1.heap.size + 1, 1, none⟩ = some (.int .i64 (y')) := by rw [← hW]; clear hW; first | (go_simp; done) | ((repeat refine keepcell ((Below.refl _ _).alloc (Nat.le_refl _) _) ?_); go_simp; done) | (simp only [frozen?_alloc_cells]; go_simp; done)
      have : W1.heap.size + 1 < W2.heap.size := World.block_lt_of_cell? W2 ⟨W1.heap.size + 1, 0, none⟩ (by assumption)
      have kW2_59 : W2.cell? ⟨wA.heap.size, 0, none⟩ = some (.int .i64 (0)) := by rw [← hW]; clear hW; first | (go_simp; done) | ((repeat refine keepcell ((Below.refl _ _).alloc (Nat.le_refl _) _) ?_); go_simp; done) | (simp only [frozen?_alloc_cells]; go_simp; done)
      have kW2_60 : W2.cell? ⟨wA.heap.size, 1, none⟩ = some (.int .i64 (0)) := by rw [← hW]; clear hW; first | (go_simp; done) | ((repeat refine keepcell ((Below.refl _ _).alloc (Nat.le_refl _) _) ?_); go_simp; done) | (simp only [frozen?_alloc_cells]; go_simp; done)
      have : wA.heap.size < W2.heap.size := World.block_lt_of_cell? W2 ⟨wA.heap.size, 0, none⟩ (by assumption)
      have hBW2 : Below w.heap.size w W2 := by rw [← hW]; (repeat' (first | assumption | exact Below.refl _ _ | apply Blw.alloc | apply Blw.drew | apply Blw.drewN | (refine Blw.after ?_ (by assumption)) | (refine Blw.set ?_ (by first | (dsimp only; omega) | (simp; done) | (simp; omega)) _)))
      have hsW2 := hBW2.size
      clear hW
      try clear kW7_45; try clear kW7_46; try clear kW7_47; try clear kW7_48; try clear kW7_49; try clear kW7_50; try clear kW7_51; try clear kW7_52; try clear kW7_53; try clear kW7_54; try clear hbwA; try clear hkwA; try clear hlwA
      go_wp2_with (fail)
      refine (D2 _).mono ?_
      rintro e wB ⟨rfl, hbwB⟩
      have hkwB : Hld W2 wB := heldM (by (repeat' (first | assumption | exact Below.refl _ _ | apply Blw.alloc | apply Blw.drew | apply Blw.drewN | (refine Blw.after ?_ (by assumption)) | (refine Blw.set ?_ (by first | (dsimp only; omega) | (simp; done) | (simp; omega)) _))))
      have hlwB := hkwB.1
      have hswB := hkwB.2.2.2
      try (have : W1.heap.size < wB.heap.size := by omega)
      try (have : W1.heap.size + 1 < wB.heap.size := by omega)
      try (have : wA.heap.size < wB.heap.size := by omega)
      go_wp2_with fail
      generalize hW : World.alloc _ _ = W3
      have kW3_61 : W3.cell? ⟨wA.heap.size, 0, none⟩ = some (.int .i64 (0)) := by rw [← hW]; clear hW; first | (go_simp; done) | ((repeat refine keepcell ((Below.refl _ _).alloc (Nat.le_refl _) _) ?_); go_simp; done) | (simp only [frozen?_alloc_cells]; go_simp; done)
      have kW3_62 : W3.cell? ⟨wA.heap.size, 1, none⟩ = some (.int .i64 (0)) := by rw [← hW]; clear hW; first | (go_simp; done) | ((repeat refine keepcell ((Below.refl _ _).alloc (Nat.le_refl _) _) ?_); go_simp; done) | (simp only [frozen?_alloc_cells]; go_simp; done)
      have : wA.heap.size < W3.heap.size := World.block_lt_of_cell? W3 ⟨wA.heap.size, 0, none⟩ (by assumption)
      have kW3_63 : W3.cell? ⟨wB.heap.size, 0, none⟩ = some (.int .i64 (0)) := by rw [← hW]; clear hW; first | (go_simp; done) | ((repeat refine keepcell ((Below.refl _ _).alloc (Nat.le_refl _) _) ?_); go_simp; done) | (simp only [frozen?_alloc_cells]; go_simp; done)
      have kW3_64 : W3.cell? ⟨wB.heap.size, 1, none⟩ = some (.int .i64 (0)) := by rw [← hW]; clear hW; first | (go_simp; done) | ((repeat refine keepcell ((Below.refl _ _).alloc (Nat.le_refl _) _) ?_); go_simp; done) | (simp only [frozen?_alloc_cells]; go_simp; done)
      have : wB.heap.size < W3.heap.size := World.block_lt_of_cell? W3 ⟨wB.heap.size, 0, none⟩ (by assumption)
      have hBW3 : Below w.heap.size w W3 := by rw [← hW]; (repeat' (first | assumption | exact Below.refl _ _ | apply Blw.alloc | apply Blw.drew | apply Blw.drewN | (refine Blw.after ?_ (by assumption)) | (refine Blw.set ?_ (by first | (dsimp only; omega) | (simp; done) | (simp; omega)) _)))
      have hsW3 := hBW3.size
      clear hW
      try clear kW2_55; try clear kW2_56; try clear kW2_57; try clear kW2_58; try clear kW2_59; try clear kW2_60; try clear hbwB; try clear hkwB; try clear hlwB
      go_wp2_with fail
      go_ret
      exact ⟨rfl, by (repeat' (first | assumption | exact Below.refl _ _ | apply Blw.alloc | apply Blw.drew | apply Blw.drewN | (refine Blw.after ?_ (by assumption)) | (refine Blw.set ?_ (by first | (dsimp only; omega) | (simp; done) | (simp; omega)) _)))⟩

namespace lawFnGcd
set_option maxRecDepth 100000 in
theorem lifted (os : Os) (started : os.Started) (H : Type) (enc : TypeId × Value → H) :
    ReturnsInHanded {} Try.checked os 3 .any (Rows.fnGcdSpec.pre6 enc Try.prog Try.f3 Rows.fnGcdRow.domain false) (Rows.fnGcdSpec.post enc Try.prog Try.f3 false true false false) := by
  refine returnsInHanded_of_change (C := Try.checked) own started (by kernel_rfl) Try.func3
    (ChangeSpec.witness6 (enc := enc) (C := Try.checked) false ⟨#[], #[.slice none 0 0], []⟩ 8 (by kernel_rfl) (by kernel_rfl) (by kernel_rfl) (by kernel_rfl)) ?_
  intro W base args ds gs before hval0 hW _ _
  have hval : ∀ (j : Nat) t v, Try.f3.params[j]? = some t → args[j]? = some v → Value.okWide Try.prog W .any base t v := hval0
  have hW' := hW
  obtain ⟨p, q, hA0, hV, rfl, _, _⟩ := hW
  have hA : DataW.TrodAll enc Try.prog W 0 (fun _ => true) true Try.f3.params.toList args.toList ds p := hA0
  rw [Try.params3] at hA hval
  obtain ⟨v0, vs0, d0, ds0, p0, q0, hargs, rfl, rfl, h0, r0⟩ := trodAll_cons hA
  obtain ⟨rfl, rfl, rfl⟩ := trodAll_nil r0
  obtain rfl : args = #[v0] := by cases args; simp_all
  obtain ⟨rfl, rfl⟩ := trodVars_none hV
  obtain ⟨a, len, cap, rfl⟩ := okWide_slice Try.underlying22 (hval 0 22 v0 rfl rfl)
  clear hA0 hval0
  simp only [List.append_nil] at hW'
  have hlt : ∀ x ∈ p0, x.block < W.heap.size := fun x hx => by simpa using hW'.lt x hx
  refine (lawGcd_c a len cap W (code_of h0)).mono fun e W' ⟨he, hg⟩ => ?_
  subst he
  have harg := Below.trod laidOut (by kernel_rfl) (of_decide_eq_true (by kernel_rfl)) h0 hg hlt
  refine ⟨_, rfl, _, _, _, [], p0, [], hW', ?_, ?_, ?_, hg.frame _, fun h => by cases h⟩
  · exact trodAll_cons_mk (shut_bool Try.underlying4 _) trodAll_mk0
  · exact trodAll_mk1 harg
  · rfl

theorem proved : Rows.FnGcdSaid :=
  OpenClaim.holds_of_wide 3 Try.f3 rfl rfl rfl rfl rfl rfl rfl ⟨rfl, rfl, rfl, rfl, rfl⟩ rfl rfl rfl rfl rfl (by kernel_rfl) Try.func3 (by kernel_rfl)
    (of_decide_eq_true (by kernel_rfl)) (by unfold Func.isWrapper; first | (rw [if_pos (by decide +kernel)]; kernel_rfl) | (rw [if_neg (by decide +kernel)]; exact ⟨rfl, rfl⟩))
    (fun os started H enc _ => lifted os started H enc)
end lawFnGcd
end Go.Proofs.Ytlcafjdinjdllaa

/- FnPrime: whatever the code draws, both sides give one answer; a prime's turn and its mirror are primes; and with 2 it has no common divisor but 1, or its norm is 2. -/
import Derived.Test.YtlcafjdinjdllaaGk
import Derived.Test.YtlcafjdinjdllaaPri
import Derived.Test.YtlcafjdinjdllaaDrawB
import Derived.Test.YtlcafjdinjdllaaBaseP
namespace Go.Proofs.Ytlcafjdinjdllaa
set_option linter.unusedSimpArgs false
set_option linter.unusedVariables false
open Go.ChangeShapes Go.WideShapes Go.ChangeAt Go.RowKit Go.Joins

set_option maxHeartbeats 1000000 in
theorem drawPrime_c (v : Value) (w : World) (h : Code v w) : Calls Try.prog 12 #[v] w (One w) := by
  go_enter Try.func12, Try.ntmps12
  go_wp2_with fail
  generalize hW : World.alloc _ _ = W0
  have c0 : W0.cell? ⟨w.heap.size, 0, none⟩ = some (.int .i64 0) := by rw [← hW]; clear hW; go_simp
  have c1 : W0.cell? ⟨w.heap.size, 1, none⟩ = some (.int .i64 0) := by rw [← hW]; clear hW; go_simp
  have f0 : W0.frozen? ⟨w.heap.size, 0, none⟩ = false := by rw [← hW]; clear hW; go_simp
  have f1 : W0.frozen? ⟨w.heap.size, 1, none⟩ = false := by rw [← hW]; clear hW; go_simp
  have hB : Below w.heap.size w W0 := by rw [← hW]; (repeat' (first | assumption | exact Below.refl _ _ | apply Blw.alloc | apply Blw.drew | apply Blw.drewN | (refine Blw.after ?_ (by assumption)) | (refine Blw.set ?_ (by first | (dsimp only; omega) | (simp; done) | (simp; omega)) _)))
  have h0 : Code v W0 := by rw [← hW]; exact h.keep ((Below.refl _ _).alloc (Nat.le_refl _) _)
  have z0 : w.heap.size < W0.heap.size := World.block_lt_of_cell? W0 _ c0
  clear hW
  go_wp2_with fail
  refine (l6Open_c v W0 h0).mono ?_
  rintro e W1 ⟨sv, rfl, hr, hs, hz, hb⟩
  have d0 := keepcell hb c0
  have d1 := keepcell hb c1
  have e0 := ((bcell hb).2 _ _ z0).trans f0
  have e1 := ((bcell hb).2 _ _ z0).trans f1
  have B1 := Lib.hid (Blw.after hB hb)
  clear hB hb c0 c1 f0 f1
  go_wp2_with fail
  refine (pick_d W0.heap.size sv 0 4 W1 hs hr ⟨by omega, by omega⟩ ⟨by omega, by omega⟩).mono ?_
  rintro e W2 ⟨v, p1, ⟨k, rfl, k0, k1⟩, rfl, q0, q1, h1, hs1, m1⟩
  by_cases hk : k = 0
  · subst hk
    go_wp2_with fail
    refine (pick_d W0.heap.size sv p1 40 W2 hs1 h1 ⟨by omega, by omega⟩ ⟨by omega, by omega⟩).mono ?_
    rintro e W3 ⟨v, p2, ⟨c, rfl, i0, i1⟩, rfl, -, -, -, -, m2⟩
    have m := m1.trans m2
    have d2 := m.cell (by omega) (by omega) d0
    have d3 := m.cell (by omega) (by omega) d1
    have e2 := m.froz (by omega) (by omega) e0
    have e3 := m.froz (by omega) (by omega) e1
    have B3 : Below w.heap.size w W3 := m.2.2.2 w B1.out (by omega)
    clear d0 d1 e0 e1 hr hs h1 hs1
    go_wp2_with fail
    exact bodyPost_ret (v := .agg #[.int .i64 0, .int .i64 (c - 20)]) (by simp [results, Try.results12, go_sem, *]) rfl ⟨0, c - 20, rfl, by omega, by omega, by (repeat' (first | assumption | exact Below.refl _ _ | apply Blw.alloc | apply Blw.drew | apply Blw.drewN | (refine Blw.after ?_ (by assumption)) | (refine Blw.set ?_ (by first | (dsimp only; omega) | (simp; done) | (simp; omega)) _)))⟩
  · go_wp2_with fail
    refine (l91Gauss_c W0.heap.size sv p1 W2 hs1 h1 ⟨by omega, by omega⟩).mono ?_
    rintro e W3 ⟨v', p2, ⟨x, y, rfl, hx, hy⟩, rfl, -, -, -, -, m2⟩
    have m := m1.trans m2
    have d2 := m.cell (by omega) (by omega) d0
    have d3 := m.cell (by omega) (by omega) d1
    have e2 := m.froz (by omega) (by omega) e0
    have e3 := m.froz (by omega) (by omega) e1
    have B3 : Below w.heap.size w W3 := m.2.2.2 w B1.out (by omega)
    clear d0 d1 e0 e1 hr hs h1 hs1
    go_wp2_with fail
    exact bodyPost_ret (v := .agg #[.int .i64 x, .int .i64 y]) (by simp [results, Try.results12, go_sem, *]) rfl ⟨x, y, rfl, hx, hy, by (repeat' (first | assumption | exact Below.refl _ _ | apply Blw.alloc | apply Blw.drew | apply Blw.drewN | (refine Blw.after ?_ (by assumption)) | (refine Blw.set ?_ (by first | (dsimp only; omega) | (simp; done) | (simp; omega)) _)))⟩

theorem prime_in {x y : Int} (h : gaussPrimeB x y = true) : inB 1000 x y = true := by
  unfold gaussPrimeB at h
  simp only [Bool.and_eq_true] at h
  exact h.1

set_option maxHeartbeats 8000000 in
set_option maxRecDepth 10000 in
theorem lawPrime_c (a : Option Addr) (len cap : Nat) (w : World) (hc : len ≤ 1048576 → Code (.slice a len cap) w) : Calls Try.prog 4 #[.slice a len cap] w fun e w' => e = .returned (.bool true) ∧ Below w.heap.size w w' := by
  by_cases hl : 1048576 < len
  · go_enter Try.func4, Try.ntmps4
    go_wp2_with fail
    go_ret
    exact ⟨rfl, by (repeat' (first | assumption | exact Below.refl _ _ | apply Blw.alloc | apply Blw.drew | apply Blw.drewN | (refine Blw.after ?_ (by assumption)) | (refine Blw.set ?_ (by first | (dsimp only; omega) | (simp; done) | (simp; omega)) _)))⟩
  · have hc' := hc (by omega)
    clear hc
    go_enter Try.func4, Try.ntmps4
    go_wp2_with fail
    refine (drawPrime_c _ w hc').mono ?_
    rintro e W1 ⟨x, y, rfl, ⟨x0, x1⟩, ⟨y0, y1⟩, hb1⟩
    clear hc'
    go_wp2_with fail
    generalize hW : World.alloc _ _ = W0
    have kW0_1 : W0.cell? ⟨W1.heap.size, 0, none⟩ = some (.int .i64 (x)) := by rw [← hW]; clear hW; first | (go_simp; done) | ((repeat refine keepcell ((Below.refl _ _).alloc (Nat.le_refl _) _) ?_); go_simp; done) | (simp only [frozen?_alloc_cells]; go_simp; done)
    have kW0_2 : W0.cell? ⟨W1.heap.size, 1, none⟩ = some (.int .i64 (y)) := by rw [← hW]; clear hW; first | (go_simp; done) | ((repeat refine keepcell ((Below.refl _ _).alloc (Nat.le_refl _) _) ?_); go_simp; done) | (simp only [frozen?_alloc_cells]; go_simp; done)
    have : W1.heap.size < W0.heap.size := World.block_lt_of_cell? W0 ⟨W1.heap.size, 0, none⟩ (by assumption)
    have hBW0 : Below w.heap.size w W0 := by rw [← hW]; (repeat' (first | assumption | exact Below.refl _ _ | apply Blw.alloc | apply Blw.drew | apply Blw.drewN | (refine Blw.after ?_ (by assumption)) | (refine Blw.set ?_ (by first | (dsimp only; omega) | (simp; done) | (simp; omega)) _)))
    have hsW0 := hBW0.size
    clear hW
    have D1 := fun w => iGaussPrime_c x y w
    have D2 := fun w => sGaussPrime_c x y w
    rcases Bool.eq_false_or_eq_true (gaussPrimeB x y) with hi | hi
    · have hin := (first0 (prime_in hi)).1
      have hg : gcdB x y 2 0 = true := by unfold gcdB; rw [hin]; simp [inB, inR]
      have D3 := fun w => iGaussGcd_c x y 2 0 w
      have D4 := fun w => iGaussPrime_c (-y) x w
      have D5 := fun w => iGaussPrime_c x (-y) w
      have D6 := fun w => iGaussNorm_c x y w
      have hnv : normV x y = nrm x y := by unfold normV; rw [hin]; rfl
      have key := prime_gcd hi
      simp only [hi] at D1 D2
      simp only [prime_i, hi] at D4
      simp only [prime_bar, hi] at D5
      simp only [res2, hg, sel_t] at D3
      rw [hnv] at D6
      generalize firstX (gcdX x y 2 0) (gcdY x y 2 0) = g at *
      generalize firstY (gcdX x y 2 0) (gcdY x y 2 0) = h at *
      generalize nrm x y = n at *
      clear hnv hg hin hi
      rcases key with ⟨rfl, rfl⟩ | ⟨rfl, rfl, rfl⟩
      · have _t := trivial
        go_wp2_with (fail)
        refine (D1 _).mono ?_
        rintro e wA ⟨rfl, hbwA⟩
        have hkwA : Hld W0 wA := heldM (by (repeat' (first | assumption | exact Below.refl _ _ | apply Blw.alloc | apply Blw.drew | apply Blw.drewN | (refine Blw.after ?_ (by assumption)) | (refine Blw.set ?_ (by first | (dsimp only; omega) | (simp; done) | (simp; omega)) _))))
        have hlwA := hkwA.1
        have hswA := hkwA.2.2.2
        try (have : W1.heap.size < wA.heap.size := by omega)
        go_wp2_with fail
        go_wp2_with (fail)
        refine (D2 _).mono ?_
        rintro e wB ⟨rfl, hbwB⟩
        have hkwB : Hld wA wB := heldM (by (repeat' (first | assumption | exact Below.refl _ _ | apply Blw.alloc | apply Blw.drew | apply Blw.drewN | (refine Blw.after ?_ (by assumption)) | (refine Blw.set ?_ (by first | (dsimp only; omega) | (simp; done) | (simp; omega)) _))))
        have hlwB := hkwB.1
        have hswB := hkwB.2.2.2
        try (have : W1.heap.size < wB.heap.size := by omega)
        go_wp2_with fail
        go_wp2_with (fail)
        refine (D3 _).mono ?_
        rintro e wC ⟨rfl, hbwC⟩
        have hkwC : Hld wB wC := heldM (by (repeat' (first | assumption | exact Below.refl _ _ | apply Blw.alloc | apply Blw.drew | apply Blw.drewN | (refine Blw.after ?_ (by assumption)) | (refine Blw.set ?_ (by first | (dsimp only; omega) | (simp; done) | (simp; omega)) _))))
        have hlwC := hkwC.1
        have hswC := hkwC.2.2.2
        try (have : W1.heap.size < wC.heap.size := by omega)
        go_wp2_with fail
        generalize hW : World.alloc _ _ = W4
        have kW4_3 : W4.cell? ⟨W1.heap.size, 0, none⟩ = some (.int .i64 (x)) := by rw [← hW]; clear hW; first | (go_simp; done) | ((repeat refine keepcell ((Below.refl _ _).alloc (Nat.le_refl _) _) ?_); go_simp; done) | (simp only [frozen?_alloc_cells]; go_simp; done)
        have kW4_4 : W4.cell? ⟨W1.heap.size, 1, none⟩ = some (.int .i64 (y)) := by rw [← hW]; clear hW; first | (go_simp; done) | ((repeat refine keepcell ((Below.refl _ _).alloc (Nat.le_refl _) _) ?_); go_simp; done) | (simp only [frozen?_alloc_cells]; go_simp; done)
        have : W1.heap.size < W4.heap.size := World.block_lt_of_cell? W4 ⟨W1.heap.size, 0, none⟩ (by assumption)
        have kW4_5 : W4.cell? ⟨wC.heap.size, 0, none⟩ = some (.int .i64 (1)) := by rw [← hW]; clear hW; first | (go_simp; done) | ((repeat refine keepcell ((Below.refl _ _).alloc (Nat.le_refl _) _) ?_); go_simp; done) | (simp only [frozen?_alloc_cells]; go_simp; done)
        have kW4_6 : W4.cell? ⟨wC.heap.size, 1, none⟩ = some (.int .i64 (0)) := by rw [← hW]; clear hW; first | (go_simp; done) | ((repeat refine keepcell ((Below.refl _ _).alloc (Nat.le_refl _) _) ?_); go_simp; done) | (simp only [frozen?_alloc_cells]; go_simp; done)
        have : wC.heap.size < W4.heap.size := World.block_lt_of_cell? W4 ⟨wC.heap.size, 0, none⟩ (by assumption)
        have hBW4 : Below w.heap.size w W4 := by rw [← hW]; (repeat' (first | assumption | exact Below.refl _ _ | apply Blw.alloc | apply Blw.drew | apply Blw.drewN | (refine Blw.after ?_ (by assumption)) | (refine Blw.set ?_ (by first | (dsimp only; omega) | (simp; done) | (simp; omega)) _)))
        have hsW4 := hBW4.size
        clear hW
        try clear kW0_1; try clear kW0_2; try clear hbwA; try clear hkwA; try clear hlwA; try clear hbwB; try clear hkwB; try clear hlwB; try clear hbwC; try clear hkwC; try clear hlwC
        go_wp2_with (fail)
        refine (D4 _).mono ?_
        rintro e wD ⟨rfl, hbwD⟩
        have hkwD : Hld W4 wD := heldM (by (repeat' (first | assumption | exact Below.refl _ _ | apply Blw.alloc | apply Blw.drew | apply Blw.drewN | (refine Blw.after ?_ (by assumption)) | (refine Blw.set ?_ (by first | (dsimp only; omega) | (simp; done) | (simp; omega)) _))))
        have hlwD := hkwD.1
        have hswD := hkwD.2.2.2
        try (have : W1.heap.size < wD.heap.size := by omega)
        try (have : wC.heap.size < wD.heap.size := by omega)
        go_wp2_with fail
        go_wp2_with (fail)
        refine (D5 _).mono ?_
        rintro e wE ⟨rfl, hbwE⟩
        have hkwE : Hld wD wE := heldM (by (repeat' (first | assumption | exact Below.refl _ _ | apply Blw.alloc | apply Blw.drew | apply Blw.drewN | (refine Blw.after ?_ (by assumption)) | (refine Blw.set ?_ (by first | (dsimp only; omega) | (simp; done) | (simp; omega)) _))))
        have hlwE := hkwE.1
        have hswE := hkwE.2.2.2
        try (have : W1.heap.size < wE.heap.size := by omega)
        try (have : wC.heap.size < wE.heap.size := by omega)
        go_wp2_with fail
        go_ret
        exact ⟨rfl, by (repeat' (first | assumption | exact Below.refl _ _ | apply Blw.alloc | apply Blw.drew | apply Blw.drewN | (refine Blw.after ?_ (by assumption)) | (refine Blw.set ?_ (by first | (dsimp only; omega) | (simp; done) | (simp; omega)) _)))⟩
      · have _t := trivial
        go_wp2_with (fail)
        refine (D1 _).mono ?_
        rintro e wA ⟨rfl, hbwA⟩
        have hkwA : Hld W0 wA := heldM (by (repeat' (first | assumption | exact Below.refl _ _ | apply Blw.alloc | apply Blw.drew | apply Blw.drewN | (refine Blw.after ?_ (by assumption)) | (refine Blw.set ?_ (by first | (dsimp only; omega) | (simp; done) | (simp; omega)) _))))
        have hlwA := hkwA.1
        have hswA := hkwA.2.2.2
        try (have : W1.heap.size < wA.heap.size := by omega)
        try (have : wC.heap.size < wA.heap.size := by omega)
        go_wp2_with fail
        go_wp2_with (fail)
        refine (D2 _).mono ?_
        rintro e wB ⟨rfl, hbwB⟩
        have hkwB : Hld wA wB := heldM (by (repeat' (first | assumption | exact Below.refl _ _ | apply Blw.alloc | apply Blw.drew | apply Blw.drewN | (refine Blw.after ?_ (by assumption)) | (refine Blw.set ?_ (by first | (dsimp only; omega) | (simp; done) | (simp; omega)) _))))
        have hlwB := hkwB.1
        have hswB := hkwB.2.2.2
        try (have : W1.heap.size < wB.heap.size := by omega)
        try (have : wC.heap.size < wB.heap.size := by omega)
        go_wp2_with fail
        go_wp2_with (fail)
        refine (D3 _).mono ?_
        rintro e wC ⟨rfl, hbwC⟩
        have hkwC : Hld wB wC := heldM (by (repeat' (first | assumption | exact Below.refl _ _ | apply Blw.alloc | apply Blw.drew | apply Blw.drewN | (refine Blw.after ?_ (by assumption)) | (refine Blw.set ?_ (by first | (dsimp only; omega) | (simp; done) | (simp; omega)) _))))
        have hlwC := hkwC.1
        have hswC := hkwC.2.2.2
        try (have : W1.heap.size < wC.heap.size := by omega)
        go_wp2_with fail
        generalize hW : World.alloc _ _ = W4
        have kW4_7 : W4.cell? ⟨W1.heap.size, 0, none⟩ = some (.int .i64 (x)) := by rw [← hW]; clear hW; first | (go_simp; done) | ((repeat refine keepcell ((Below.refl _ _).alloc (Nat.le_refl _) _) ?_); go_simp; done) | (simp only [frozen?_alloc_cells]; go_simp; done)
        have kW4_8 : W4.cell? ⟨W1.heap.size, 1, none⟩ = some (.int .i64 (y)) := by rw [← hW]; clear hW; first | (go_simp; done) | ((repeat refine keepcell ((Below.refl _ _).alloc (Nat.le_refl _) _) ?_); go_simp; done) | (simp only [frozen?_alloc_cells]; go_simp; done)
        have : W1.heap.size < W4.heap.size := World.block_lt_of_cell? W4 ⟨W1.heap.size, 0, none⟩ (by assumption)
        have kW4_9 : W4.cell? ⟨wC.heap.size, 0, none⟩ = some (.int .i64 (1)) := by rw [← hW]; clear hW; first | (go_simp; done) | ((repeat refine keepcell ((Below.refl _ _).alloc (Nat.le_refl _) _) ?_); go_simp; done) | (simp only [frozen?_alloc_cells]; go_simp; done)
        have kW4_10 : W4.cell? ⟨wC.heap.size, 1, none⟩ = some (.int .i64 (1)) := by rw [← hW]; clear hW; first | (go_simp; done) | ((repeat refine keepcell ((Below.refl _ _).alloc (Nat.le_refl _) _) ?_); go_simp; done) | (simp only [frozen?_alloc_cells]; go_simp; done)
        have : wC.heap.size < W4.heap.size := World.block_lt_of_cell? W4 ⟨wC.heap.size, 0, none⟩ (by assumption)
        have hBW4 : Below w.heap.size w W4 := by rw [← hW]; (repeat' (first | assumption | exact Below.refl _ _ | apply Blw.alloc | apply Blw.drew | apply Blw.drewN | (refine Blw.after ?_ (by assumption)) | (refine Blw.set ?_ (by first | (dsimp only; omega) | (simp; done) | (simp; omega)) _)))
        have hsW4 := hBW4.size
        clear hW
        try clear kW4_3; try clear kW4_4; try clear kW4_5; try clear kW4_6; try clear hbwD; try clear hkwD; try clear hlwD; try clear hbwE; try clear hkwE; try clear hlwE; try clear hbwA; try clear hkwA; try clear hlwA; try clear hbwB; try clear hkwB; try clear hlwB; try clear hbwC; try clear hkwC; try clear hlwC
        go_wp2_with (fail)
        refine (D4 _).mono ?_
        rintro e wD ⟨rfl, hbwD⟩
        have hkwD : Hld W4 wD := heldM (by (repeat' (first | assumption | exact Below.refl _ _ | apply Blw.alloc | apply Blw.drew | apply Blw.drewN | (refine Blw.after ?_ (by assumption)) | (refine Blw.set ?_ (by first | (dsimp only; omega) | (simp; done) | (simp; omega)) _))))
        have hlwD := hkwD.1
        have hswD := hkwD.2.2.2
        try (have : W1.heap.size < wD.heap.size := by omega)
        try (have : wC.heap.size < wD.heap.size := by omega)
        go_wp2_with fail
        go_wp2_with (fail)
        refine (D5 _).mono ?_
        rintro e wE ⟨rfl, hbwE⟩
        have hkwE : Hld wD wE := heldM (by (repeat' (first | assumption | exact Below.refl _ _ | apply Blw.alloc | apply Blw.drew | apply Blw.drewN | (refine Blw.after ?_ (by assumption)) | (refine Blw.set ?_ (by first | (dsimp only; omega) | (simp; done) | (simp; omega)) _))))
        have hlwE := hkwE.1
        have hswE := hkwE.2.2.2
        try (have : W1.heap.size < wE.heap.size := by omega)
        try (have : wC.heap.size < wE.heap.size := by omega)
        go_wp2_with fail
        go_wp2_with (fail)
        refine (D6 _).mono ?_
        rintro e wF ⟨rfl, hbwF⟩
        have hkwF : Hld wE wF := heldM (by (repeat' (first | assumption | exact Below.refl _ _ | apply Blw.alloc | apply Blw.drew | apply Blw.drewN | (refine Blw.after ?_ (by assumption)) | (refine Blw.set ?_ (by first | (dsimp only; omega) | (simp; done) | (simp; omega)) _))))
        have hlwF := hkwF.1
        have hswF := hkwF.2.2.2
        try (have : W1.heap.size < wF.heap.size := by omega)
        try (have : wC.heap.size < wF.heap.size := by omega)
        go_wp2_with fail
        go_ret
        exact ⟨rfl, by (repeat' (first | assumption | exact Below.refl _ _ | apply Blw.alloc | apply Blw.drew | apply Blw.drewN | (refine Blw.after ?_ (by assumption)) | (refine Blw.set ?_ (by first | (dsimp only; omega) | (simp; done) | (simp; omega)) _)))⟩
    · simp only [hi] at D1 D2
      clear hi
      go_wp2_with (fail)
      refine (D1 _).mono ?_
      rintro e wA ⟨rfl, hbwA⟩
      have hkwA : Hld W0 wA := heldM (by (repeat' (first | assumption | exact Below.refl _ _ | apply Blw.alloc | apply Blw.drew | apply Blw.drewN | (refine Blw.after ?_ (by assumption)) | (refine Blw.set ?_ (by first | (dsimp only; omega) | (simp; done) | (simp; omega)) _))))
      have hlwA := hkwA.1
      have hswA := hkwA.2.2.2
      try (have : W1.heap.size < wA.heap.size := by omega)
      try (have : wC.heap.size < wA.heap.size := by omega)
      go_wp2_with fail
      go_wp2_with (fail)
      refine (D2 _).mono ?_
      rintro e wB ⟨rfl, hbwB⟩
      have hkwB : Hld wA wB := heldM (by (repeat' (first | assumption | exact Below.refl _ _ | apply Blw.alloc | apply Blw.drew | apply Blw.drewN | (refine Blw.after ?_ (by assumption)) | (refine Blw.set ?_ (by first | (dsimp only; omega) | (simp; done) | (simp; omega)) _))))
      have hlwB := hkwB.1
      have hswB := hkwB.2.2.2
      try (have : W1.heap.size < wB.heap.size := by omega)
      try (have : wC.heap.size < wB.heap.size := by omega)
      go_wp2_with fail
      go_ret
      exact ⟨rfl, by (repeat' (first | assumption | exact Below.refl _ _ | apply Blw.alloc | apply Blw.drew | apply Blw.drewN | (refine Blw.after ?_ (by assumption)) | (refine Blw.set ?_ (by first | (dsimp only; omega) | (simp; done) | (simp; omega)) _)))⟩

namespace lawFnPrime
set_option maxRecDepth 100000 in
theorem lifted (os : Os) (started : os.Started) (H : Type) (enc : TypeId × Value → H) :
    ReturnsInHanded {} Try.checked os 4 .any (Rows.fnPrimeSpec.pre6 enc Try.prog Try.f4 Rows.fnPrimeRow.domain false) (Rows.fnPrimeSpec.post enc Try.prog Try.f4 false true false false) := by
  refine returnsInHanded_of_change (C := Try.checked) own started (by kernel_rfl) Try.func4
    (ChangeSpec.witness6 (enc := enc) (C := Try.checked) false ⟨#[], #[.slice none 0 0], []⟩ 8 (by kernel_rfl) (by kernel_rfl) (by kernel_rfl) (by kernel_rfl)) ?_
  intro W base args ds gs before hval0 hW _ _
  have hval : ∀ (j : Nat) t v, Try.f4.params[j]? = some t → args[j]? = some v → Value.okWide Try.prog W .any base t v := hval0
  have hW' := hW
  obtain ⟨p, q, hA0, hV, rfl, _, _⟩ := hW
  have hA : DataW.TrodAll enc Try.prog W 0 (fun _ => true) true Try.f4.params.toList args.toList ds p := hA0
  rw [Try.params4] at hA hval
  obtain ⟨v0, vs0, d0, ds0, p0, q0, hargs, rfl, rfl, h0, r0⟩ := trodAll_cons hA
  obtain ⟨rfl, rfl, rfl⟩ := trodAll_nil r0
  obtain rfl : args = #[v0] := by cases args; simp_all
  obtain ⟨rfl, rfl⟩ := trodVars_none hV
  obtain ⟨a, len, cap, rfl⟩ := okWide_slice Try.underlying22 (hval 0 22 v0 rfl rfl)
  clear hA0 hval0
  simp only [List.append_nil] at hW'
  have hlt : ∀ x ∈ p0, x.block < W.heap.size := fun x hx => by simpa using hW'.lt x hx
  refine (lawPrime_c a len cap W (code_of h0)).mono fun e W' ⟨he, hg⟩ => ?_
  subst he
  have harg := Below.trod laidOut (by kernel_rfl) (of_decide_eq_true (by kernel_rfl)) h0 hg hlt
  refine ⟨_, rfl, _, _, _, [], p0, [], hW', ?_, ?_, ?_, hg.frame _, fun h => by cases h⟩
  · exact trodAll_cons_mk (shut_bool Try.underlying4 _) trodAll_mk0
  · exact trodAll_mk1 harg
  · rfl

theorem proved : Rows.FnPrimeSaid :=
  OpenClaim.holds_of_wide 4 Try.f4 rfl rfl rfl rfl rfl rfl rfl ⟨rfl, rfl, rfl, rfl, rfl⟩ rfl rfl rfl rfl rfl (by kernel_rfl) Try.func4 (by kernel_rfl)
    (of_decide_eq_true (by kernel_rfl)) (by unfold Func.isWrapper; first | (rw [if_pos (by decide +kernel)]; kernel_rfl) | (rw [if_neg (by decide +kernel)]; exact ⟨rfl, rfl⟩))
    (fun os started H enc _ => lifted os started H enc)
end lawFnPrime
end Go.Proofs.Ytlcafjdinjdllaa

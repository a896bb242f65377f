/- Chapter 1: GaussPrime and GaussWide of both sides. -/
import Derived.Test.YtlcafjdinjdllaaGl
import Derived.Test.YtlcafjdinjdllaaGm2
namespace Go.Proofs.Ytlcafjdinjdllaa
set_option linter.unusedSimpArgs false
set_option linter.unusedVariables false
open Go.RowKit

/-- the size of the sum -/
def mx (x y : Int) : Int := max (x + y) (-x - y)
theorem mx_in {x y : Int} (h : -1000 ≤ x ∧ x ≤ 1000 ∧ -1000 ≤ y ∧ y ≤ 1000) : 0 ≤ mx x y ∧ mx x y ≤ 2000 := by unfold mx; omega
noncomputable def gaussPrimeB (x y : Int) : Bool :=
  inB 1000 x y && (if ¬ x = 0 ∧ ¬ y = 0 then primeB (nrm x y) else decide (mx x y % 4 = 3) && primeB (mx x y))

theorem first_axis {x y : Int} : (firstY x y = 0 ↔ x = 0 ∨ y = 0) ∧ (x = 0 ∨ y = 0 → firstX x y = mx x y) := by
  unfold firstY firstX mx
  constructor
  · repeat' split
    all_goals omega
  · repeat' split
    all_goals omega

set_option maxHeartbeats 1000000 in
theorem sGaussPrime_c (x y : Int) (w : World) : Calls Try.prog 14 #[pr x y] w fun e w' => e = .returned (.bool (gaussPrimeB x y)) ∧ Below w.heap.size w w' := by
  rcases Bool.eq_false_or_eq_true (inR (-1000) 1000 x) with h1 | h1
  · rcases Bool.eq_false_or_eq_true (inR (-1000) 1000 y) with h2 | h2
    · have HB := Lib.hid (show inB 1000 x y = true by simp [inB, h1, h2])
      obtain ⟨i1, i2, i3, i4⟩ := inB_le HB.out
      by_cases hz : ¬ x = 0 ∧ ¬ y = 0
      · have HV := Lib.hid (show gaussPrimeB x y = primeB (nrm x y) by unfold gaussPrimeB; rw [HB.out, if_pos hz]; rfl)
        obtain ⟨z1, z2⟩ := hz
        have y1 : (x != 0) = true := by simp [z1]
        have y2 : (y != 0) = true := by simp [z2]
        have hn := nrm_le (x := x) (y := y) (by unfold in6; omega)
        have hn0 := nrm_nonneg x y
        have hn2 : nrm x y ≤ 10000000 := by
          have a1 := mulK (x := x) (y := x) (a := 1000) (b := 1000) ⟨i1, i2⟩ ⟨i1, i2⟩
          have a2 := mulK (x := y) (y := y) (a := 1000) (b := 1000) ⟨i3, i4⟩ ⟨i3, i4⟩
          unfold nrm; omega
        go_enter Try.func14, Try.ntmps14
        go_wp2_with fail
        generalize hW : World.alloc _ _ = W0
        have kW0_331 : W0.cell? ⟨w.heap.size, 0, none⟩ = some (.int .i64 (x)) := by rw [← hW]; clear hW; first | (go_simp; done) | ((repeat refine keepcell ((Below.refl _ _).alloc (Nat.le_refl _) _) ?_); go_simp; done) | (simp only [frozen?_alloc_cells]; go_simp; done)
        have kW0_332 : W0.cell? ⟨w.heap.size, 1, none⟩ = some (.int .i64 (y)) := by rw [← hW]; clear hW; first | (go_simp; done) | ((repeat refine keepcell ((Below.refl _ _).alloc (Nat.le_refl _) _) ?_); go_simp; done) | (simp only [frozen?_alloc_cells]; go_simp; done)
        have : w.heap.size < W0.heap.size := World.block_lt_of_cell? W0 ⟨w.heap.size, 0, none⟩ (by assumption)
        have hBW0 : Below w.heap.size w W0 := by rw [← hW]; (repeat' (first | assumption | exact Below.refl _ _ | apply Blw.alloc | apply Blw.drew | apply Blw.drewN | (refine Blw.after ?_ (by assumption)) | (refine Blw.set ?_ (by first | (dsimp only; omega) | (simp; done) | (simp; omega)) _)))
        have hsW0 := hBW0.size
        clear hW
        have H9 : in9 x y := by unfold in9; omega
        go_wp2_with ((go_at_call 39; refine (l6In_c _ _ _ _).mono ?_; rintro e w1 ⟨rfl, rfl⟩))
        refine (l1NormN_c _ _ _ H9).mono ?_
        rintro e wA ⟨rfl, hbwA⟩
        have hkwA : Hld W0 wA := heldM (by (repeat' (first | assumption | exact Below.refl _ _ | apply Blw.alloc | apply Blw.drew | apply Blw.drewN | (refine Blw.after ?_ (by assumption)) | (refine Blw.set ?_ (by first | (dsimp only; omega) | (simp; done) | (simp; omega)) _))))
        have hlwA := hkwA.1
        have hswA := hkwA.2.2.2
        try (have : w.heap.size < wA.heap.size := by omega)
        go_wp2_with fail
        refine (l1Prime_c _ _ hn0 hn2).mono ?_
        rintro e w1 ⟨rfl, rfl⟩
        go_wp2_with fail
        go_ret
        exact ⟨ret_bool HV.out.symm, by (repeat' (first | assumption | exact Below.refl _ _ | apply Blw.alloc | apply Blw.drew | apply Blw.drewN | (refine Blw.after ?_ (by assumption)) | (refine Blw.set ?_ (by first | (dsimp only; omega) | (simp; done) | (simp; omega)) _)))⟩
      · have HV := Lib.hid (show gaussPrimeB x y = (decide (mx x y % 4 = 3) && primeB (mx x y)) by unfold gaussPrimeB; rw [HB.out, if_neg hz]; rfl)
        obtain ⟨m1, m2⟩ := mx_in ⟨i1, i2, i3, i4⟩
        have T : (x != 0) = false ∨ ((x != 0) = true ∧ (y != 0) = false) := by
          by_cases hx : x = 0
          · exact Or.inl (by simp [hx])
          · exact Or.inr ⟨by simp [hx], by simp; omega⟩
        have E : (mx x y = -x - y ∧ x + y < -x - y) ∨ (mx x y = x + y ∧ ¬ x + y < -x - y) := by unfold mx; omega
        clear hz
        rcases E with ⟨E1, E2⟩ | ⟨E1, E2⟩
        all_goals
          rw [E1] at m1 m2 HV
          clear E1
          rcases T with T | ⟨T, T'⟩
          all_goals
            go_enter Try.func14, Try.ntmps14
            go_wp2_with fail
            generalize hW : World.alloc _ _ = W0
            have kW0_333 : W0.cell? ⟨w.heap.size, 0, none⟩ = some (.int .i64 (x)) := by rw [← hW]; clear hW; first | (go_simp; done) | ((repeat refine keepcell ((Below.refl _ _).alloc (Nat.le_refl _) _) ?_); go_simp; done) | (simp only [frozen?_alloc_cells]; go_simp; done)
            have kW0_334 : W0.cell? ⟨w.heap.size, 1, none⟩ = some (.int .i64 (y)) := by rw [← hW]; clear hW; first | (go_simp; done) | ((repeat refine keepcell ((Below.refl _ _).alloc (Nat.le_refl _) _) ?_); go_simp; done) | (simp only [frozen?_alloc_cells]; go_simp; done)
            have : w.heap.size < W0.heap.size := World.block_lt_of_cell? W0 ⟨w.heap.size, 0, none⟩ (by assumption)
            have hBW0 : Below w.heap.size w W0 := by rw [← hW]; (repeat' (first | assumption | exact Below.refl _ _ | apply Blw.alloc | apply Blw.drew | apply Blw.drewN | (refine Blw.after ?_ (by assumption)) | (refine Blw.set ?_ (by first | (dsimp only; omega) | (simp; done) | (simp; omega)) _)))
            have hsW0 := hBW0.size
            clear hW
            go_wp2_with (first | (go_at_call 39; refine (l6In_c _ _ _ _).mono ?_; rintro e w1 ⟨rfl, rfl⟩) | (go_at_call 40; refine (l1Prime_c _ _ (by omega) (by omega)).mono ?_; rintro e w1 ⟨rfl, rfl⟩))
            all_goals
              go_ret
              exact ⟨ret_bool (by rw [HV.out]; simp [*]), by (repeat' (first | assumption | exact Below.refl _ _ | apply Blw.alloc | apply Blw.drew | apply Blw.drewN | (refine Blw.after ?_ (by assumption)) | (refine Blw.set ?_ (by first | (dsimp only; omega) | (simp; done) | (simp; omega)) _)))⟩
    · go_enter Try.func14, Try.ntmps14
      go_wp2_with fail
      generalize hW : World.alloc _ _ = W0
      have kW0_335 : W0.cell? ⟨w.heap.size, 0, none⟩ = some (.int .i64 (x)) := by rw [← hW]; clear hW; first | (go_simp; done) | ((repeat refine keepcell ((Below.refl _ _).alloc (Nat.le_refl _) _) ?_); go_simp; done) | (simp only [frozen?_alloc_cells]; go_simp; done)
      have kW0_336 : W0.cell? ⟨w.heap.size, 1, none⟩ = some (.int .i64 (y)) := by rw [← hW]; clear hW; first | (go_simp; done) | ((repeat refine keepcell ((Below.refl _ _).alloc (Nat.le_refl _) _) ?_); go_simp; done) | (simp only [frozen?_alloc_cells]; go_simp; done)
      have : w.heap.size < W0.heap.size := World.block_lt_of_cell? W0 ⟨w.heap.size, 0, none⟩ (by assumption)
      have hBW0 : Below w.heap.size w W0 := by rw [← hW]; (repeat' (first | assumption | exact Below.refl _ _ | apply Blw.alloc | apply Blw.drew | apply Blw.drewN | (refine Blw.after ?_ (by assumption)) | (refine Blw.set ?_ (by first | (dsimp only; omega) | (simp; done) | (simp; omega)) _)))
      have hsW0 := hBW0.size
      clear hW
      go_wp2_with (go_at_call 39; refine (l6In_c _ _ _ _).mono ?_; rintro e w1 ⟨rfl, rfl⟩)
      go_ret
      exact ⟨by simp [gaussPrimeB, inB, h1, h2], by (repeat' (first | assumption | exact Below.refl _ _ | apply Blw.alloc | apply Blw.drew | apply Blw.drewN | (refine Blw.after ?_ (by assumption)) | (refine Blw.set ?_ (by first | (dsimp only; omega) | (simp; done) | (simp; omega)) _)))⟩
  · go_enter Try.func14, Try.ntmps14
    go_wp2_with fail
    generalize hW : World.alloc _ _ = W0
    have kW0_337 : W0.cell? ⟨w.heap.size, 0, none⟩ = some (.int .i64 (x)) := by rw [← hW]; clear hW; first | (go_simp; done) | ((repeat refine keepcell ((Below.refl _ _).alloc (Nat.le_refl _) _) ?_); go_simp; done) | (simp only [frozen?_alloc_cells]; go_simp; done)
    have kW0_338 : W0.cell? ⟨w.heap.size, 1, none⟩ = some (.int .i64 (y)) := by rw [← hW]; clear hW; first | (go_simp; done) | ((repeat refine keepcell ((Below.refl _ _).alloc (Nat.le_refl _) _) ?_); go_simp; done) | (simp only [frozen?_alloc_cells]; go_simp; done)
    have : w.heap.size < W0.heap.size := World.block_lt_of_cell? W0 ⟨w.heap.size, 0, none⟩ (by assumption)
    have hBW0 : Below w.heap.size w W0 := by rw [← hW]; (repeat' (first | assumption | exact Below.refl _ _ | apply Blw.alloc | apply Blw.drew | apply Blw.drewN | (refine Blw.after ?_ (by assumption)) | (refine Blw.set ?_ (by first | (dsimp only; omega) | (simp; done) | (simp; omega)) _)))
    have hsW0 := hBW0.size
    clear hW
    go_wp2_with (go_at_call 39; refine (l6In_c _ _ _ _).mono ?_; rintro e w1 ⟨rfl, rfl⟩)
    go_ret
    exact ⟨by simp [gaussPrimeB, inB, h1], by (repeat' (first | assumption | exact Below.refl _ _ | apply Blw.alloc | apply Blw.drew | apply Blw.drewN | (refine Blw.after ?_ (by assumption)) | (refine Blw.set ?_ (by first | (dsimp only; omega) | (simp; done) | (simp; omega)) _)))⟩

theorem first0 {x y : Int} (h : inB 1000 x y = true) : inB 1000000 x y = true ∧ in6 x y := by
  have := inB_le h
  exact ⟨inB_of (by unfold in6; omega), by unfold in6; omega⟩
set_option maxHeartbeats 1000000 in
theorem iGaussPrime_c (x y : Int) (w : World) : Calls Try.prog 13 #[pr x y] w fun e w' => e = .returned (.bool (gaussPrimeB x y)) ∧ Below w.heap.size w w' := by
  go_enter Try.func13, Try.ntmps13
  go_wp2_with fail
  generalize hW : World.alloc _ _ = W0
  have kW0_339 : W0.cell? ⟨w.heap.size, 0, none⟩ = some (.int .i64 (x)) := by rw [← hW]; clear hW; first | (go_simp; done) | ((repeat refine keepcell ((Below.refl _ _).alloc (Nat.le_refl _) _) ?_); go_simp; done) | (simp only [frozen?_alloc_cells]; go_simp; done)
  have kW0_340 : W0.cell? ⟨w.heap.size, 1, none⟩ = some (.int .i64 (y)) := by rw [← hW]; clear hW; first | (go_simp; done) | ((repeat refine keepcell ((Below.refl _ _).alloc (Nat.le_refl _) _) ?_); go_simp; done) | (simp only [frozen?_alloc_cells]; go_simp; done)
  have : w.heap.size < W0.heap.size := World.block_lt_of_cell? W0 ⟨w.heap.size, 0, none⟩ (by assumption)
  have hBW0 : Below w.heap.size w W0 := by rw [← hW]; (repeat' (first | assumption | exact Below.refl _ _ | apply Blw.alloc | apply Blw.drew | apply Blw.drewN | (refine Blw.after ?_ (by assumption)) | (refine Blw.set ?_ (by first | (dsimp only; omega) | (simp; done) | (simp; omega)) _)))
  have hsW0 := hBW0.size
  clear hW
  go_wp2_with (fail)
  refine (gPair_c _ _ _).mono ?_
  rintro e wA ⟨rfl, hbwA⟩
  have hkwA : Hld W0 wA := heldM (by (repeat' (first | assumption | exact Below.refl _ _ | apply Blw.alloc | apply Blw.drew | apply Blw.drewN | (refine Blw.after ?_ (by assumption)) | (refine Blw.set ?_ (by first | (dsimp only; omega) | (simp; done) | (simp; omega)) _))))
  have hlwA := hkwA.1
  have hswA := hkwA.2.2.2
  try (have : w.heap.size < wA.heap.size := by omega)
  go_wp2_with fail
  generalize hW : World.alloc _ _ = W1
  have kW1_341 : W1.cell? ⟨wA.heap.size, 0, none⟩ = some (.int .i64 (x)) := by rw [← hW]; clear hW; first | (go_simp; done) | ((repeat refine keepcell ((Below.refl _ _).alloc (Nat.le_refl _) _) ?_); go_simp; done) | (simp only [frozen?_alloc_cells]; go_simp; done)
  have kW1_342 : W1.cell? ⟨wA.heap.size, 1, none⟩ = some (.int .i64 (y)) := by rw [← hW]; clear hW; first | (go_simp; done) | ((repeat refine keepcell ((Below.refl _ _).alloc (Nat.le_refl _) _) ?_); go_simp; done) | (simp only [frozen?_alloc_cells]; go_simp; done)
  have : wA.heap.size < W1.heap.size := World.block_lt_of_cell? W1 ⟨wA.heap.size, 0, none⟩ (by assumption)
  have hBW1 : Below w.heap.size w W1 := by rw [← hW]; (repeat' (first | assumption | exact Below.refl _ _ | apply Blw.alloc | apply Blw.drew | apply Blw.drewN | (refine Blw.after ?_ (by assumption)) | (refine Blw.set ?_ (by first | (dsimp only; omega) | (simp; done) | (simp; omega)) _)))
  have hsW1 := hBW1.size
  clear hW
  try clear kW0_339; try clear kW0_340; try clear hbwA; try clear hkwA; try clear hlwA
  rcases Bool.eq_false_or_eq_true (inB 1000 x y) with h1 | h1
  · obtain ⟨i1, i2, i3, i4⟩ := inB_le h1
    have H6 := (first0 h1).2
    have HF := Lib.hid (first_axis (x := x) (y := y))
    by_cases hz : x = 0 ∨ y = 0
    · have HV := Lib.hid (show gaussPrimeB x y = (decide (mx x y % 4 = 3) && primeB (mx x y)) by unfold gaussPrimeB; rw [h1, if_neg (by omega)]; rfl)
      obtain ⟨m1, m2⟩ := mx_in ⟨i1, i2, i3, i4⟩
      have HX := Lib.hid (HF.out.2 hz)
      have HY := Lib.hid (HF.out.1.2 hz)
      clear hz
      by_cases hm : mx x y % 4 = 3
      · have hm' : (mx x y % 4 == 3) = true := by simp [hm]
        have HV2 := Lib.hid (show gaussPrimeB x y = primeB (mx x y) by rw [HV.out]; simp [hm])
        clear hm
        go_wp2_with ((go_at_call 36; refine (within_c _ _ _ _ (by omega)).mono ?_; rintro e w1 ⟨rfl, hb⟩; have hk : Hld W1 w1 := heldM (by (repeat' (first | assumption | exact Below.refl _ _ | apply Blw.alloc | apply Blw.drew | apply Blw.drewN | (refine Blw.after ?_ (by assumption)) | (refine Blw.set ?_ (by first | (dsimp only; omega) | (simp; done) | (simp; omega)) _)))); have hk1 := hk.1))
        refine (first_c _ _ _ H6).mono ?_
        rintro e wB ⟨rfl, hbwB⟩
        have hkwB : Hld W1 wB := heldM (by (repeat' (first | assumption | exact Below.refl _ _ | apply Blw.alloc | apply Blw.drew | apply Blw.drewN | (refine Blw.after ?_ (by assumption)) | (refine Blw.set ?_ (by first | (dsimp only; omega) | (simp; done) | (simp; omega)) _))))
        have hlwB := hkwB.1
        have hswB := hkwB.2.2.2
        try (have : wA.heap.size < wB.heap.size := by omega)
        rw [HX.out, HY.out]
        go_wp2_with fail
        refine (wholePrime_c _ _ m1 (by omega)).mono ?_
        rintro e w3 ⟨rfl, rfl⟩
        go_wp2_with fail
        go_ret
        exact ⟨ret_bool HV2.out.symm, by (repeat' (first | assumption | exact Below.refl _ _ | apply Blw.alloc | apply Blw.drew | apply Blw.drewN | (refine Blw.after ?_ (by assumption)) | (refine Blw.set ?_ (by first | (dsimp only; omega) | (simp; done) | (simp; omega)) _)))⟩
      · have hm' : (mx x y % 4 == 3) = false := by simp [hm]
        have HV2 := Lib.hid (show gaussPrimeB x y = false by rw [HV.out]; simp [hm])
        clear hm
        go_wp2_with ((go_at_call 36; refine (within_c _ _ _ _ (by omega)).mono ?_; rintro e w1 ⟨rfl, hb⟩; have hk : Hld W1 w1 := heldM (by (repeat' (first | assumption | exact Below.refl _ _ | apply Blw.alloc | apply Blw.drew | apply Blw.drewN | (refine Blw.after ?_ (by assumption)) | (refine Blw.set ?_ (by first | (dsimp only; omega) | (simp; done) | (simp; omega)) _)))); have hk1 := hk.1))
        refine (first_c _ _ _ H6).mono ?_
        rintro e wB ⟨rfl, hbwB⟩
        have hkwB : Hld W1 wB := heldM (by (repeat' (first | assumption | exact Below.refl _ _ | apply Blw.alloc | apply Blw.drew | apply Blw.drewN | (refine Blw.after ?_ (by assumption)) | (refine Blw.set ?_ (by first | (dsimp only; omega) | (simp; done) | (simp; omega)) _))))
        have hlwB := hkwB.1
        have hswB := hkwB.2.2.2
        try (have : wA.heap.size < wB.heap.size := by omega)
        rw [HX.out, HY.out]
        go_wp2_with fail
        go_ret
        exact ⟨ret_bool HV2.out.symm, by (repeat' (first | assumption | exact Below.refl _ _ | apply Blw.alloc | apply Blw.drew | apply Blw.drewN | (refine Blw.after ?_ (by assumption)) | (refine Blw.set ?_ (by first | (dsimp only; omega) | (simp; done) | (simp; omega)) _)))⟩
    · have HV := Lib.hid (show gaussPrimeB x y = primeB (nrm x y) by unfold gaussPrimeB; rw [h1, if_pos (by omega)]; rfl)
      have hy : (firstY x y == 0) = false := by
        have := fun h => hz (HF.out.1.1 h)
        simpa using this
      have hn0 := nrm_nonneg x y
      have hn2 : nrm x y ≤ 10000000 := by
        have a1 := mulK (x := x) (y := x) (a := 1000) (b := 1000) ⟨i1, i2⟩ ⟨i1, i2⟩
        have a2 := mulK (x := y) (y := y) (a := 1000) (b := 1000) ⟨i3, i4⟩ ⟨i3, i4⟩
        unfold nrm; omega
      clear hz
      go_wp2_with ((go_at_call 36; refine (within_c _ _ _ _ (by omega)).mono ?_; rintro e w1 ⟨rfl, hb⟩; have hk : Hld W1 w1 := heldM (by (repeat' (first | assumption | exact Below.refl _ _ | apply Blw.alloc | apply Blw.drew | apply Blw.drewN | (refine Blw.after ?_ (by assumption)) | (refine Blw.set ?_ (by first | (dsimp only; omega) | (simp; done) | (simp; omega)) _)))); have hk1 := hk.1))
      refine (first_c _ _ _ H6).mono ?_
      rintro e wB ⟨rfl, hbwB⟩
      have hkwB : Hld W1 wB := heldM (by (repeat' (first | assumption | exact Below.refl _ _ | apply Blw.alloc | apply Blw.drew | apply Blw.drewN | (refine Blw.after ?_ (by assumption)) | (refine Blw.set ?_ (by first | (dsimp only; omega) | (simp; done) | (simp; omega)) _))))
      have hlwB := hkwB.1
      have hswB := hkwB.2.2.2
      try (have : wA.heap.size < wB.heap.size := by omega)
      go_wp2_with fail
      generalize hW : World.alloc _ _ = W2
      have kW2_343 : W2.cell? ⟨wA.heap.size, 0, none⟩ = some (.int .i64 (x)) := by rw [← hW]; clear hW; first | (go_simp; done) | ((repeat refine keepcell ((Below.refl _ _).alloc (Nat.le_refl _) _) ?_); go_simp; done) | (simp only [frozen?_alloc_cells]; go_simp; done)
      have kW2_344 : W2.cell? ⟨wA.heap.size, 1, none⟩ = some (.int .i64 (y)) := by rw [← hW]; clear hW; first | (go_simp; done) | ((repeat refine keepcell ((Below.refl _ _).alloc (Nat.le_refl _) _) ?_); go_simp; done) | (simp only [frozen?_alloc_cells]; go_simp; done)
      have : wA.heap.size < W2.heap.size := World.block_lt_of_cell? W2 ⟨wA.heap.size, 0, none⟩ (by assumption)
      have kW2_345 : W2.cell? ⟨wB.heap.size, 0, none⟩ = some (.int .i64 ((firstX x y))) := by rw [← hW]; clear hW; first | (go_simp; done) | ((repeat refine keepcell ((Below.refl _ _).alloc (Nat.le_refl _) _) ?_); go_simp; done) | (simp only [frozen?_alloc_cells]; go_simp; done)
      have kW2_346 : W2.cell? ⟨wB.heap.size, 1, none⟩ = some (.int .i64 ((firstY x y))) := by rw [← hW]; clear hW; first | (go_simp; done) | ((repeat refine keepcell ((Below.refl _ _).alloc (Nat.le_refl _) _) ?_); go_simp; done) | (simp only [frozen?_alloc_cells]; go_simp; done)
      have : wB.heap.size < W2.heap.size := World.block_lt_of_cell? W2 ⟨wB.heap.size, 0, none⟩ (by assumption)
      have hBW2 : Below w.heap.size w W2 := by rw [← hW]; (repeat' (first | assumption | exact Below.refl _ _ | apply Blw.alloc | apply Blw.drew | apply Blw.drewN | (refine Blw.after ?_ (by assumption)) | (refine Blw.set ?_ (by first | (dsimp only; omega) | (simp; done) | (simp; omega)) _)))
      have hsW2 := hBW2.size
      clear hW
      try clear kW1_341; try clear kW1_342; try clear hbwB; try clear hkwB; try clear hlwB; try clear hbwB; try clear hkwB; try clear hlwB; try clear hbwB; try clear hkwB; try clear hlwB
      go_wp2_with (first | (go_at_call 38; refine (normN_c _ _ _ (small9 H6)).mono ?_; rintro e w1 ⟨rfl, hb⟩; have hk : Hld W2 w1 := heldM (by (repeat' (first | assumption | exact Below.refl _ _ | apply Blw.alloc | apply Blw.drew | apply Blw.drewN | (refine Blw.after ?_ (by assumption)) | (refine Blw.set ?_ (by first | (dsimp only; omega) | (simp; done) | (simp; omega)) _)))); have hk1 := hk.1) | (go_at_call 37; refine (wholePrime_c _ _ hn0 hn2).mono ?_; rintro e w1 ⟨rfl, rfl⟩))
      go_ret
      exact ⟨ret_bool HV.out.symm, by (repeat' (first | assumption | exact Below.refl _ _ | apply Blw.alloc | apply Blw.drew | apply Blw.drewN | (refine Blw.after ?_ (by assumption)) | (refine Blw.set ?_ (by first | (dsimp only; omega) | (simp; done) | (simp; omega)) _)))⟩
  · go_wp2_with (go_at_call 36; refine (within_c _ _ _ _ (by omega)).mono ?_; rintro e w1 ⟨rfl, hb⟩; have hk : Hld W1 w1 := heldM (by (repeat' (first | assumption | exact Below.refl _ _ | apply Blw.alloc | apply Blw.drew | apply Blw.drewN | (refine Blw.after ?_ (by assumption)) | (refine Blw.set ?_ (by first | (dsimp only; omega) | (simp; done) | (simp; omega)) _)))); have hk1 := hk.1)
    go_ret
    exact ⟨by simp [gaussPrimeB, h1], by (repeat' (first | assumption | exact Below.refl _ _ | apply Blw.alloc | apply Blw.drew | apply Blw.drewN | (refine Blw.after ?_ (by assumption)) | (refine Blw.set ?_ (by first | (dsimp only; omega) | (simp; done) | (simp; omega)) _)))⟩

/-- the word of x if b, else 0: the walk does not look into it -/
def fl (b : Bool) (x : Int) : Nat := if b then floatOfInt .f64 x else 0
abbrev wideV (x y : Int) : Value := .tuple #[.complex .f64 (fl (inB 1000000 x y) x) (fl (inB 1000000 x y) y), .bool (inB 1000000 x y)]
theorem wide_c (x y : Int) (w : World) : Calls Try.prog 43 #[pr x y] w fun e w' => e = .returned (.complex .f64 (floatOfInt .f64 x) (floatOfInt .f64 y)) ∧ Below w.heap.size w w' := by
  go_enter Try.func43, Try.ntmps43
  go_wp2
  go_ret
  exact ⟨rfl, by (repeat' (first | assumption | exact Below.refl _ _ | apply Blw.alloc | apply Blw.drew | apply Blw.drewN | (refine Blw.after ?_ (by assumption)) | (refine Blw.set ?_ (by first | (dsimp only; omega) | (simp; done) | (simp; omega)) _)))⟩
theorem iGaussWide_c (x y : Int) (w : World) : Calls Try.prog 19 #[pr x y] w fun e w' => e = .returned (wideV x y) ∧ Below w.heap.size w w' := by
  rcases Bool.eq_false_or_eq_true (inB 1000000 x y) with h1 | h1
  all_goals
    go_enter Try.func19, Try.ntmps19
    go_wp2_with fail
    generalize hW : World.alloc _ _ = W0
    have kW0_347 : W0.cell? ⟨w.heap.size, 0, none⟩ = some (.int .i64 (x)) := by rw [← hW]; clear hW; first | (go_simp; done) | ((repeat refine keepcell ((Below.refl _ _).alloc (Nat.le_refl _) _) ?_); go_simp; done) | (simp only [frozen?_alloc_cells]; go_simp; done)
    have kW0_348 : W0.cell? ⟨w.heap.size, 1, none⟩ = some (.int .i64 (y)) := by rw [← hW]; clear hW; first | (go_simp; done) | ((repeat refine keepcell ((Below.refl _ _).alloc (Nat.le_refl _) _) ?_); go_simp; done) | (simp only [frozen?_alloc_cells]; go_simp; done)
    have : w.heap.size < W0.heap.size := World.block_lt_of_cell? W0 ⟨w.heap.size, 0, none⟩ (by assumption)
    have hBW0 : Below w.heap.size w W0 := by rw [← hW]; (repeat' (first | assumption | exact Below.refl _ _ | apply Blw.alloc | apply Blw.drew | apply Blw.drewN | (refine Blw.after ?_ (by assumption)) | (refine Blw.set ?_ (by first | (dsimp only; omega) | (simp; done) | (simp; omega)) _)))
    have hsW0 := hBW0.size
    clear hW
    go_wp2_with (fail)
    refine (gPair_c _ _ _).mono ?_
    rintro e wA ⟨rfl, hbwA⟩
    have hkwA : Hld W0 wA := heldM (by (repeat' (first | assumption | exact Below.refl _ _ | apply Blw.alloc | apply Blw.drew | apply Blw.drewN | (refine Blw.after ?_ (by assumption)) | (refine Blw.set ?_ (by first | (dsimp only; omega) | (simp; done) | (simp; omega)) _))))
    have hlwA := hkwA.1
    have hswA := hkwA.2.2.2
    try (have : w.heap.size < wA.heap.size := by omega)
    go_wp2_with fail
    generalize hW : World.alloc _ _ = W1
    have kW1_349 : W1.cell? ⟨wA.heap.size, 0, none⟩ = some (.int .i64 (x)) := by rw [← hW]; clear hW; first | (go_simp; done) | ((repeat refine keepcell ((Below.refl _ _).alloc (Nat.le_refl _) _) ?_); go_simp; done) | (simp only [frozen?_alloc_cells]; go_simp; done)
    have kW1_350 : W1.cell? ⟨wA.heap.size, 1, none⟩ = some (.int .i64 (y)) := by rw [← hW]; clear hW; first | (go_simp; done) | ((repeat refine keepcell ((Below.refl _ _).alloc (Nat.le_refl _) _) ?_); go_simp; done) | (simp only [frozen?_alloc_cells]; go_simp; done)
    have : wA.heap.size < W1.heap.size := World.block_lt_of_cell? W1 ⟨wA.heap.size, 0, none⟩ (by assumption)
    have hBW1 : Below w.heap.size w W1 := by rw [← hW]; (repeat' (first | assumption | exact Below.refl _ _ | apply Blw.alloc | apply Blw.drew | apply Blw.drewN | (refine Blw.after ?_ (by assumption)) | (refine Blw.set ?_ (by first | (dsimp only; omega) | (simp; done) | (simp; omega)) _)))
    have hsW1 := hBW1.size
    clear hW
    try clear kW0_347; try clear kW0_348; try clear hbwA; try clear hkwA; try clear hlwA
    go_wp2_with (first | (go_at_call 28; refine (small_c _ _ _).mono ?_; rintro e w1 ⟨rfl, hb⟩; have hk : Hld W1 w1 := heldM (by (repeat' (first | assumption | exact Below.refl _ _ | apply Blw.alloc | apply Blw.drew | apply Blw.drewN | (refine Blw.after ?_ (by assumption)) | (refine Blw.set ?_ (by first | (dsimp only; omega) | (simp; done) | (simp; omega)) _)))); have hk1 := hk.1) | (go_at_call 43; refine (wide_c _ _ _).mono ?_; rintro e w1 ⟨rfl, hb⟩; have hk : Hld W1 w1 := heldM (by (repeat' (first | assumption | exact Below.refl _ _ | apply Blw.alloc | apply Blw.drew | apply Blw.drewN | (refine Blw.after ?_ (by assumption)) | (refine Blw.set ?_ (by first | (dsimp only; omega) | (simp; done) | (simp; omega)) _)))); have hk1 := hk.1))
    go_ret2
    exact ⟨by simp [wideV, fl, h1], by (repeat' (first | assumption | exact Below.refl _ _ | apply Blw.alloc | apply Blw.drew | apply Blw.drewN | (refine Blw.after ?_ (by assumption)) | (refine Blw.set ?_ (by first | (dsimp only; omega) | (simp; done) | (simp; omega)) _)))⟩
end Go.Proofs.Ytlcafjdinjdllaa

/- FnTimes: whatever the code draws, the product of both sides is the same, the other way round, too, it is that of complex numbers, and norms are multiplied; no condition. -/
import Derived.Test.YtfodfapaidfhbacGw
import Derived.Test.YtfodfapaidfhbacMul
import Derived.Test.YtfodfapaidfhbacDrawT
import Derived.Test.YtfodfapaidfhbacBaseP
import Derived.Test.YtfodfapaidfhbacBq
import Derived.Sort.AtCall
import Derived.Deep.Cut
import Derived.ChangeKeysEq
import Derived.OwnWalk
namespace Go.Proofs.Ytfodfapaidfhbac
set_option linter.unusedSimpArgs false
set_option linter.unusedVariables false
open Go.ChangeShapes Go.WideShapes Go.ChangeAt Go.RowKit Go.Joins

theorem drawTimes_c (v : Value) (w : World) (h : Code v w) : Calls Try.prog 23 #[v] w (TwoG w) := by
  go_enter Try.func23, Try.ntmps23
  go_wp2_with fail
  generalize hW : World.alloc _ _ = W0
  have kW0_1 : W0.cell? ⟨w.heap.size, 0, none⟩ = some (.int .i64 (0)) := by rw [← hW]; clear hW; first | (go_simp; done) | ((repeat refine keepcell ((Below.refl _ _).alloc (Nat.le_refl _) _) ?_); go_simp; done) | (simp only [frozen?_alloc_cells]; go_simp; done)
  have zW0_1 : W0.frozen? ⟨w.heap.size, 0, none⟩ = false := by rw [← hW]; clear hW; first | (go_simp; done) | ((repeat refine keepcell ((Below.refl _ _).alloc (Nat.le_refl _) _) ?_); go_simp; done) | (simp only [frozen?_alloc_cells]; go_simp; done)
  have kW0_2 : W0.cell? ⟨w.heap.size, 1, none⟩ = some (.int .i64 (0)) := by rw [← hW]; clear hW; first | (go_simp; done) | ((repeat refine keepcell ((Below.refl _ _).alloc (Nat.le_refl _) _) ?_); go_simp; done) | (simp only [frozen?_alloc_cells]; go_simp; done)
  have zW0_2 : W0.frozen? ⟨w.heap.size, 1, none⟩ = false := by rw [← hW]; clear hW; first | (go_simp; done) | ((repeat refine keepcell ((Below.refl _ _).alloc (Nat.le_refl _) _) ?_); go_simp; done) | (simp only [frozen?_alloc_cells]; go_simp; done)
  have : w.heap.size < W0.heap.size := World.block_lt_of_cell? W0 ⟨w.heap.size, 0, none⟩ (by assumption)
  have kW0_3 : W0.cell? ⟨w.heap.size + 1, 0, none⟩ = some (.int .i64 (0)) := by rw [← hW]; clear hW; first | (go_simp; done) | ((repeat refine keepcell ((Below.refl _ _).alloc (Nat.le_refl _) _) ?_); go_simp; done) | (simp only [frozen?_alloc_cells]; go_simp; done)
  have zW0_3 : W0.frozen? ⟨w.heap.size + 1, 0, none⟩ = false := by rw [← hW]; clear hW; first | (go_simp; done) | ((repeat refine keepcell ((Below.refl _ _).alloc (Nat.le_refl _) _) ?_); go_simp; done) | (simp only [frozen?_alloc_cells]; go_simp; done)
  have kW0_4 : W0.cell? ⟨w.heap.size + 1, 1, none⟩ = some (.int .i64 (0)) := by rw [← hW]; clear hW; first | (go_simp; done) | ((repeat refine keepcell ((Below.refl _ _).alloc (Nat.le_refl _) _) ?_); go_simp; done) | (simp only [frozen?_alloc_cells]; go_simp; done)
  have zW0_4 : W0.frozen? ⟨w.heap.size + 1, 1, none⟩ = false := by rw [← hW]; clear hW; first | (go_simp; done) | ((repeat refine keepcell ((Below.refl _ _).alloc (Nat.le_refl _) _) ?_); go_simp; done) | (simp only [frozen?_alloc_cells]; go_simp; done)
  have : w.heap.size + 1 < W0.heap.size := World.block_lt_of_cell? W0 ⟨w.heap.size + 1, 0, none⟩ (by assumption)
  have hBW0 : Below w.heap.size w W0 := by rw [← hW]; (repeat' (first | assumption | exact Below.refl _ _ | apply Blw.alloc | apply Blw.drew | apply Blw.drewN | (refine Blw.after ?_ (by assumption)) | (refine Blw.set ?_ (by first | (dsimp only; omega) | (simp; done) | (simp; omega)) _)))
  have hsW0 := hBW0.size
  clear hW
  have h0 : Code v W0 := h.keep hBW0
  have N0 : Nil4 w.heap.size W0 := ⟨by assumption, ⟨by assumption, by assumption, by assumption, by assumption⟩, by assumption, by assumption, by assumption, by assumption⟩
  have HB := Lib.hid hBW0
  clear hBW0
  try clear kW0_1; try clear zW0_1; try clear kW0_2; try clear zW0_2; try clear kW0_3; try clear zW0_3; try clear kW0_4; try clear zW0_4
  refine (l91Two_c v W0 h0).mono ?_
  rintro e W1 ⟨x, y, x', y', rfl, hx, hy, hx', hy', hb⟩
  obtain ⟨l5, ⟨k0, k1, k2, k3⟩, f0, f1, f2, f3⟩ := N0.keep hb
  have l6 : w.heap.size < W1.heap.size := by omega
  have B1 : Below w.heap.size w W1 := Blw.after HB.out hb
  clear hb N0 h0
  go_wp2_with fail
  exact bodyPost_ret (v := .tuple #[.agg #[.int .i64 x, .int .i64 y], .agg #[.int .i64 x', .int .i64 y']]) (by simp [results, Try.results23, go_sem, *]) rfl ⟨x, y, x', y', rfl, hx, hy, hx', hy', by (repeat' (first | assumption | exact Below.refl _ _ | apply Blw.alloc | apply Blw.drew | apply Blw.drewN | (refine Blw.after ?_ (by assumption)) | (refine Blw.set ?_ (by first | (dsimp only; omega) | (simp; done) | (simp; omega)) _)))⟩
theorem mulB_comm (x y x' y' : Int) : mulB x' y' x y = mulB x y x' y' := by
  unfold mulB
  rw [Int.mul_comm x' x, Int.mul_comm y' y, Int.mul_comm x' y, Int.mul_comm y' x, Int.add_comm (y * x'), Bool.and_comm (inB 1000000 x' y')]
theorem norm_times (x y x' y' : Int) : (x * x + y * y) * (x' * x' + y' * y') = (x * x' - y * y') * (x * x' - y * y') + (x * y' + y * x') * (x * y' + y * x') := by grind
theorem i64_of {v : Int} (h : -9223372036854775808 ≤ v ∧ v ≤ 9223372036854775807) : IntKind.i64.wrap v = v := IntWalk.i64_in _ (by omega)
set_option maxHeartbeats 4000000 in
set_option maxRecDepth 10000 in
theorem lawTimes_c (a : Option Addr) (len cap : Nat) (w : World) (hc : len ≤ 1048576 → Code (.slice a len cap) w) : Calls Try.prog 5 #[.slice a len cap] w fun e w' => e = .returned (.bool true) ∧ Below w.heap.size w w' := by
  by_cases hl : 1048576 < len
  · go_enter Try.func5, Try.ntmps5
    go_wp2_with fail
    go_ret
    exact ⟨rfl, by (repeat' (first | assumption | exact Below.refl _ _ | apply Blw.alloc | apply Blw.drew | apply Blw.drewN | (refine Blw.after ?_ (by assumption)) | (refine Blw.set ?_ (by first | (dsimp only; omega) | (simp; done) | (simp; omega)) _)))⟩
  · have hc' := hc (by omega)
    clear hc
    go_enter Try.func5, Try.ntmps5
    go_wp2_with fail
    refine (drawTimes_c _ w hc').mono ?_
    rintro e W1 ⟨x, y, x', y', rfl, ⟨x0, x1⟩, ⟨y0, y1⟩, ⟨x0', x1'⟩, ⟨y0', y1'⟩, hb1⟩
    clear hc'
    go_wp2_with fail
    generalize hW : World.alloc _ _ = W0
    have kW0_5 : W0.cell? ⟨W1.heap.size, 0, none⟩ = some (.int .i64 (x)) := by rw [← hW]; clear hW; first | (go_simp; done) | ((repeat refine keepcell ((Below.refl _ _).alloc (Nat.le_refl _) _) ?_); go_simp; done) | (simp only [frozen?_alloc_cells]; go_simp; done)
    have kW0_6 : W0.cell? ⟨W1.heap.size, 1, none⟩ = some (.int .i64 (y)) := by rw [← hW]; clear hW; first | (go_simp; done) | ((repeat refine keepcell ((Below.refl _ _).alloc (Nat.le_refl _) _) ?_); go_simp; done) | (simp only [frozen?_alloc_cells]; go_simp; done)
    have : W1.heap.size < W0.heap.size := World.block_lt_of_cell? W0 ⟨W1.heap.size, 0, none⟩ (by assumption)
    have kW0_7 : W0.cell? ⟨W1.heap.size + 1, 0, none⟩ = some (.int .i64 (x')) := by rw [← hW]; clear hW; first | (go_simp; done) | ((repeat refine keepcell ((Below.refl _ _).alloc (Nat.le_refl _) _) ?_); go_simp; done) | (simp only [frozen?_alloc_cells]; go_simp; done)
    have kW0_8 : W0.cell? ⟨W1.heap.size + 1, 1, none⟩ = some (.int .i64 (y')) := by rw [← hW]; clear hW; first | (go_simp; done) | ((repeat refine keepcell ((Below.refl _ _).alloc (Nat.le_refl _) _) ?_); go_simp; done) | (simp only [frozen?_alloc_cells]; go_simp; done)
    have : W1.heap.size + 1 < W0.heap.size := World.block_lt_of_cell? W0 ⟨W1.heap.size + 1, 0, none⟩ (by assumption)
    have hBW0 : Below w.heap.size w W0 := by rw [← hW]; (repeat' (first | assumption | exact Below.refl _ _ | apply Blw.alloc | apply Blw.drew | apply Blw.drewN | (refine Blw.after ?_ (by assumption)) | (refine Blw.set ?_ (by first | (dsimp only; omega) | (simp; done) | (simp; omega)) _)))
    have hsW0 := hBW0.size
    clear hW
    have D1 := fun w => iGaussTimes_c x y x' y' w
    have D2 := fun w => sGaussTimes_c x y x' y' w
    have D3 := fun w => iGaussTimes_c x' y' x y w
    rcases Bool.eq_false_or_eq_true (mulB x y x' y') with hi | hi
    · have h3 : mulB x' y' x y = true := by rw [mulB_comm]; exact hi
      have hp : inB 1000000 x y = true ∧ inB 1000000 x' y' = true ∧ inB 1000000 (x * x' - y * y') (x * y' + y * x') = true := by
        unfold mulB at hi
        simp only [Bool.and_eq_true] at hi
        exact ⟨hi.1.1, hi.1.2, hi.2⟩
      obtain ⟨i1, i2, i3⟩ := hp
      obtain ⟨a1, a2, a3, a4⟩ := inB_le i1
      obtain ⟨b1, b2, b3, b4⟩ := inB_le i2
      obtain ⟨c1, c2, c3, c4⟩ := inB_le i3
      have e50 : (2 : Nat) ^ 50 = 1125899906842624 := by decide
      obtain ⟨R, I, m1, m2, m3⟩ := cmul_exact (wn_int (n := x) (by omega)) (wn_int (n := y) (by omega)) (wn_int (n := x') (by omega)) (wn_int (n := y') (by omega)) ⟨a1, a2⟩ ⟨a3, a4⟩ ⟨b1, b2⟩ ⟨b3, b4⟩
      have r2 := wn_same (wn_int (n := x * x' - y * y') (by omega)) m2
      have j2 := wn_same (wn_int (n := x * y' + y * x') (by omega)) m3
      have f1 := fun w => run_complex_mul (P := Try.prog) w 33 _ _ _ _ R I m1
      have nt := norm_times x y x' y'
      have n1 : normV x y = x * x + y * y := by unfold normV; rw [if_pos i1]
      have n2 : normV x' y' = x' * x' + y' * y' := by unfold normV; rw [if_pos i2]
      have n3 : normV (x * x' - y * y') (x * y' + y * x') = (x * x' - y * y') * (x * x' - y * y') + (x * y' + y * x') * (x * y' + y * x') := by unfold normV; rw [if_pos i3]
      have s1 := sq50 (a := x * x' - y * y') (b := x * x' - y * y') ⟨c1, c2⟩ ⟨c1, c2⟩
      have s2 := sq50 (a := x * y' + y * x') (b := x * y' + y * x') ⟨c3, c4⟩ ⟨c3, c4⟩
      have N1 := fun w => iGaussNorm_c x y w
      have N2 := fun w => iGaussNorm_c x' y' w
      have N3 := fun w => iGaussNorm_c (x * x' - y * y') (x * y' + y * x') w
      rw [n1] at N1
      rw [n2] at N2
      rw [n3] at N3
      have V1 := wdV_yes i1
      have V2 := wdV_yes i2
      have V3 := wdV_yes i3
      simp only [res2, hi, sel_t] at D1 D2
      simp only [res2, h3, sel_t] at D3
      rw [Int.mul_comm x' x, Int.mul_comm y' y, Int.mul_comm x' y, Int.mul_comm y' x, Int.add_comm (y * x')] at D3
      have E1 := Lib.hid (show ∀ w, Calls Try.prog 22 #[pr x y] w fun e w' => e = .returned (.tuple #[.complex .f64 (floatOfInt .f64 x) (floatOfInt .f64 y), .bool true]) ∧ Below w.heap.size w w' from fun w => by rw [← V1]; exact iGaussWd_c x y w)
      have E2 := Lib.hid (show ∀ w, Calls Try.prog 22 #[pr x' y'] w fun e w' => e = .returned (.tuple #[.complex .f64 (floatOfInt .f64 x') (floatOfInt .f64 y'), .bool true]) ∧ Below w.heap.size w w' from fun w => by rw [← V2]; exact iGaussWd_c x' y' w)
      have E3 := Lib.hid (show ∀ w, Calls Try.prog 22 #[pr (x * x' - y * y') (x * y' + y * x')] w fun e w' => e = .returned (.tuple #[.complex .f64 (floatOfInt .f64 (x * x' - y * y')) (floatOfInt .f64 (x * y' + y * x')), .bool true]) ∧ Below w.heap.size w w' from fun w => by rw [← V3]; exact iGaussWd_c (x * x' - y * y') (x * y' + y * x') w)
      have G1 := Lib.hid D1
      have G2 := Lib.hid D2
      have G3 := Lib.hid D3
      have F1 := Lib.hid f1
      have HR := Lib.hid r2
      have HJ := Lib.hid j2
      have H1 := Lib.hid N1
      have H2 := Lib.hid N2
      have H3 := Lib.hid N3
      have ew : IntKind.i64.wrap ((x * x + y * y) * (x' * x' + y' * y')) = (x * x' - y * y') * (x * x' - y * y') + (x * y' + y * x') * (x * y' + y * x') := by rw [nt]; exact i64_of (by omega)
      have EW := Lib.hid ew
      clear V1 V2 V3 D1 D2 D3 hi h3 i1 i2 i3 f1 r2 j2 a1 a2 a3 a4 b1 b2 b3 b4 c1 c2 c3 c4 m1 m2 m3 n1 n2 n3 s1 s2 N1 N2 N3 nt ew
      generalize (x * x' - y * y') * (x * x' - y * y') + (x * y' + y * x') * (x * y' + y * x') = nP at *
      generalize x * x' - y * y' = p at *
      generalize x * y' + y * x' = q at *
      generalize x * x + y * y = nA at *
      generalize x' * x' + y' * y' = nB at *
      go_wp2_with (fail)
      refine (G1.out _).mono ?_
      rintro e wA ⟨rfl, hbwA⟩
      have hkwA : Hld W0 wA := heldM (by (repeat' (first | assumption | exact Below.refl _ _ | apply Blw.alloc | apply Blw.drew | apply Blw.drewN | (refine Blw.after ?_ (by assumption)) | (refine Blw.set ?_ (by first | (dsimp only; omega) | (simp; done) | (simp; omega)) _))))
      have hlwA := hkwA.1
      have hswA := hkwA.2.2.2
      try (have : W1.heap.size < wA.heap.size := by omega)
      try (have : W1.heap.size + 1 < wA.heap.size := by omega)
      go_wp2_with fail
      generalize hW : World.alloc _ _ = W2
      have kW2_9 : W2.cell? ⟨W1.heap.size, 0, none⟩ = some (.int .i64 (x)) := by rw [← hW]; clear hW; first | (go_simp; done) | ((repeat refine keepcell ((Below.refl _ _).alloc (Nat.le_refl _) _) ?_); go_simp; done) | (simp only [frozen?_alloc_cells]; go_simp; done)
      have kW2_10 : W2.cell? ⟨W1.heap.size, 1, none⟩ = some (.int .i64 (y)) := by rw [← hW]; clear hW; first | (go_simp; done) | ((repeat refine keepcell ((Below.refl _ _).alloc (Nat.le_refl _) _) ?_); go_simp; done) | (simp only [frozen?_alloc_cells]; go_simp; done)
      have : W1.heap.size < W2.heap.size := World.block_lt_of_cell? W2 ⟨W1.heap.size, 0, none⟩ (by assumption)
      have kW2_11 : W2.cell? ⟨W1.heap.size + 1, 0, none⟩ = some (.int .i64 (x')) := by rw [← hW]; clear hW; first | (go_simp; done) | ((repeat refine keepcell ((Below.refl _ _).alloc (Nat.le_refl _) _) ?_); go_simp; done) | (simp only [frozen?_alloc_cells]; go_simp; done)
      have kW2_12 : W2.cell? ⟨W1.heap.size + 1, 1, none⟩ = some (.int .i64 (y')) := by rw [← hW]; clear hW; first | (go_simp; done) | ((repeat refine keepcell ((Below.refl _ _).alloc (Nat.le_refl _) _) ?_); go_simp; done) | (simp only [frozen?_alloc_cells]; go_simp; done)
      have : W1.heap.size + 1 < W2.heap.size := World.block_lt_of_cell? W2 ⟨W1.heap.size + 1, 0, none⟩ (by assumption)
      have kW2_13 : W2.cell? ⟨wA.heap.size, 0, none⟩ = some (.int .i64 (p)) := by rw [← hW]; clear hW; first | (go_simp; done) | ((repeat refine keepcell ((Below.refl _ _).alloc (Nat.le_refl _) _) ?_); go_simp; done) | (simp only [frozen?_alloc_cells]; go_simp; done)
      have kW2_14 : W2.cell? ⟨wA.heap.size, 1, none⟩ = some (.int .i64 (q)) := by rw [← hW]; clear hW; first | (go_simp; done) | ((repeat refine keepcell ((Below.refl _ _).alloc (Nat.le_refl _) _) ?_); go_simp; done) | (simp only [frozen?_alloc_cells]; go_simp; done)
      have : wA.heap.size < W2.heap.size := World.block_lt_of_cell? W2 ⟨wA.heap.size, 0, none⟩ (by assumption)
      have hBW2 : Below w.heap.size w W2 := by rw [← hW]; (repeat' (first | assumption | exact Below.refl _ _ | apply Blw.alloc | apply Blw.drew | apply Blw.drewN | (refine Blw.after ?_ (by assumption)) | (refine Blw.set ?_ (by first | (dsimp only; omega) | (simp; done) | (simp; omega)) _)))
      have hsW2 := hBW2.size
      clear hW
      try clear kW0_5; try clear kW0_6; try clear kW0_7; try clear kW0_8; try clear hbwA; try clear hkwA; try clear hlwA
      go_wp2_with (fail)
      refine (G2.out _).mono ?_
      rintro e wB ⟨rfl, hbwB⟩
      have hkwB : Hld W2 wB := heldM (by (repeat' (first | assumption | exact Below.refl _ _ | apply Blw.alloc | apply Blw.drew | apply Blw.drewN | (refine Blw.after ?_ (by assumption)) | (refine Blw.set ?_ (by first | (dsimp only; omega) | (simp; done) | (simp; omega)) _))))
      have hlwB := hkwB.1
      have hswB := hkwB.2.2.2
      try (have : W1.heap.size < wB.heap.size := by omega)
      try (have : W1.heap.size + 1 < wB.heap.size := by omega)
      try (have : wA.heap.size < wB.heap.size := by omega)
      go_wp2_with fail
      generalize hW : World.alloc _ _ = W3
      have kW3_15 : W3.cell? ⟨W1.heap.size, 0, none⟩ = some (.int .i64 (x)) := by rw [← hW]; clear hW; first | (go_simp; done) | ((repeat refine keepcell ((Below.refl _ _).alloc (Nat.le_refl _) _) ?_); go_simp; done) | (simp only [frozen?_alloc_cells]; go_simp; done)
      have kW3_16 : W3.cell? ⟨W1.heap.size, 1, none⟩ = some (.int .i64 (y)) := by rw [← hW]; clear hW; first | (go_simp; done) | ((repeat refine keepcell ((Below.refl _ _).alloc (Nat.le_refl _) _) ?_); go_simp; done) | (simp only [frozen?_alloc_cells]; go_simp; done)
      have : W1.heap.size < W3.heap.size := World.block_lt_of_cell? W3 ⟨W1.heap.size, 0, none⟩ (by assumption)
      have kW3_17 : W3.cell? ⟨W1.heap.size + 1, 0, none⟩ = some (.int .i64 (x')) := by rw [← hW]; clear hW; first | (go_simp; done) | ((repeat refine keepcell ((Below.refl _ _).alloc (Nat.le_refl _) _) ?_); go_simp; done) | (simp only [frozen?_alloc_cells]; go_simp; done)
      have kW3_18 : W3.cell? ⟨W1.heap.size + 1, 1, none⟩ = some (.int .i64 (y')) := by rw [← hW]; clear hW; first | (go_simp; done) | ((repeat refine keepcell ((Below.refl _ _).alloc (Nat.le_refl _) _) ?_); go_simp; done) | (simp only [frozen?_alloc_cells]; go_simp; done)
      have : W1.heap.size + 1 < W3.heap.size := World.block_lt_of_cell? W3 ⟨W1.heap.size + 1, 0, none⟩ (by assumption)
      have kW3_19 : W3.cell? ⟨wA.heap.size, 0, none⟩ = some (.int .i64 (p)) := by rw [← hW]; clear hW; first | (go_simp; done) | ((repeat refine keepcell ((Below.refl _ _).alloc (Nat.le_refl _) _) ?_); go_simp; done) | (simp only [frozen?_alloc_cells]; go_simp; done)
      have kW3_20 : W3.cell? ⟨wA.heap.size, 1, none⟩ = some (.int .i64 (q)) := by rw [← hW]; clear hW; first | (go_simp; done) | ((repeat refine keepcell ((Below.refl _ _).alloc (Nat.le_refl _) _) ?_); go_simp; done) | (simp only [frozen?_alloc_cells]; go_simp; done)
      have : wA.heap.size < W3.heap.size := World.block_lt_of_cell? W3 ⟨wA.heap.size, 0, none⟩ (by assumption)
      have kW3_21 : W3.cell? ⟨wB.heap.size, 0, none⟩ = some (.int .i64 (p)) := by rw [← hW]; clear hW; first | (go_simp; done) | ((repeat refine keepcell ((Below.refl _ _).alloc (Nat.le_refl _) _) ?_); go_simp; done) | (simp only [frozen?_alloc_cells]; go_simp; done)
      have kW3_22 : W3.cell? ⟨wB.heap.size, 1, none⟩ = some (.int .i64 (q)) := by rw [← hW]; clear hW; first | (go_simp; done) | ((repeat refine keepcell ((Below.refl _ _).alloc (Nat.le_refl _) _) ?_); go_simp; done) | (simp only [frozen?_alloc_cells]; go_simp; done)
      have : wB.heap.size < W3.heap.size := World.block_lt_of_cell? W3 ⟨wB.heap.size, 0, none⟩ (by assumption)
      have hBW3 : Below w.heap.size w W3 := by rw [← hW]; (repeat' (first | assumption | exact Below.refl _ _ | apply Blw.alloc | apply Blw.drew | apply Blw.drewN | (refine Blw.after ?_ (by assumption)) | (refine Blw.set ?_ (by first | (dsimp only; omega) | (simp; done) | (simp; omega)) _)))
      have hsW3 := hBW3.size
      clear hW
      try clear kW2_9; try clear kW2_10; try clear kW2_11; try clear kW2_12; try clear kW2_13; try clear kW2_14; try clear hbwB; try clear hkwB; try clear hlwB
      go_wp2_with (fail)
      refine (G3.out _).mono ?_
      rintro e wC ⟨rfl, hbwC⟩
      have hkwC : Hld W3 wC := heldM (by (repeat' (first | assumption | exact Below.refl _ _ | apply Blw.alloc | apply Blw.drew | apply Blw.drewN | (refine Blw.after ?_ (by assumption)) | (refine Blw.set ?_ (by first | (dsimp only; omega) | (simp; done) | (simp; omega)) _))))
      have hlwC := hkwC.1
      have hswC := hkwC.2.2.2
      try (have : W1.heap.size < wC.heap.size := by omega)
      try (have : W1.heap.size + 1 < wC.heap.size := by omega)
      try (have : wA.heap.size < wC.heap.size := by omega)
      try (have : wB.heap.size < wC.heap.size := by omega)
      go_wp2_with fail
      generalize hW : World.alloc _ _ = W4
      have kW4_23 : W4.cell? ⟨W1.heap.size, 0, none⟩ = some (.int .i64 (x)) := by rw [← hW]; clear hW; first | (go_simp; done) | ((repeat refine keepcell ((Below.refl _ _).alloc (Nat.le_refl _) _) ?_); go_simp; done) | (simp only [frozen?_alloc_cells]; go_simp; done)
      have kW4_24 : W4.cell? ⟨W1.heap.size, 1, none⟩ = some (.int .i64 (y)) := by rw [← hW]; clear hW; first | (go_simp; done) | ((repeat refine keepcell ((Below.refl _ _).alloc (Nat.le_refl _) _) ?_); go_simp; done) | (simp only [frozen?_alloc_cells]; go_simp; done)
      have : W1.heap.size < W4.heap.size := World.block_lt_of_cell? W4 ⟨W1.heap.size, 0, none⟩ (by assumption)
      have kW4_25 : W4.cell? ⟨W1.heap.size + 1, 0, none⟩ = some (.int .i64 (x')) := by rw [← hW]; clear hW; first | (go_simp; done) | ((repeat refine keepcell ((Below.refl _ _).alloc (Nat.le_refl _) _) ?_); go_simp; done) | (simp only [frozen?_alloc_cells]; go_simp; done)
      have kW4_26 : W4.cell? ⟨W1.heap.size + 1, 1, none⟩ = some (.int .i64 (y')) := by rw [← hW]; clear hW; first | (go_simp; done) | ((repeat refine keepcell ((Below.refl _ _).alloc (Nat.le_refl _) _) ?_); go_simp; done) | (simp only [frozen?_alloc_cells]; go_simp; done)
      have : W1.heap.size + 1 < W4.heap.size := World.block_lt_of_cell? W4 ⟨W1.heap.size + 1, 0, none⟩ (by assumption)
      have kW4_27 : W4.cell? ⟨wA.heap.size, 0, none⟩ = some (.int .i64 (p)) := by rw [← hW]; clear hW; first | (go_simp; done) | ((repeat refine keepcell ((Below.refl _ _).alloc (Nat.le_refl _) _) ?_); go_simp; done) | (simp only [frozen?_alloc_cells]; go_simp; done)
      have kW4_28 : W4.cell? ⟨wA.heap.size, 1, none⟩ = some (.int .i64 (q)) := by rw [← hW]; clear hW; first | (go_simp; done) | ((repeat refine keepcell ((Below.refl _ _).alloc (Nat.le_refl _) _) ?_); go_simp; done) | (simp only [frozen?_alloc_cells]; go_simp; done)
      have : wA.heap.size < W4.heap.size := World.block_lt_of_cell? W4 ⟨wA.heap.size, 0, none⟩ (by assumption)
      have kW4_29 : W4.cell? ⟨wC.heap.size, 0, none⟩ = some (.int .i64 (p)) := by rw [← hW]; clear hW; first | (go_simp; done) | ((repeat refine keepcell ((Below.refl _ _).alloc (Nat.le_refl _) _) ?_); go_simp; done) | (simp only [frozen?_alloc_cells]; go_simp; done)
      have kW4_30 : W4.cell? ⟨wC.heap.size, 1, none⟩ = some (.int .i64 (q)) := by rw [← hW]; clear hW; first | (go_simp; done) | ((repeat refine keepcell ((Below.refl _ _).alloc (Nat.le_refl _) _) ?_); go_simp; done) | (simp only [frozen?_alloc_cells]; go_simp; done)
      have : wC.heap.size < W4.heap.size := World.block_lt_of_cell? W4 ⟨wC.heap.size, 0, none⟩ (by assumption)
      have hBW4 : Below w.heap.size w W4 := by rw [← hW]; (repeat' (first | assumption | exact Below.refl _ _ | apply Blw.alloc | apply Blw.drew | apply Blw.drewN | (refine Blw.after ?_ (by assumption)) | (refine Blw.set ?_ (by first | (dsimp only; omega) | (simp; done) | (simp; omega)) _)))
      have hsW4 := hBW4.size
      clear hW
      try clear kW3_15; try clear kW3_16; try clear kW3_17; try clear kW3_18; try clear kW3_19; try clear kW3_20; try clear kW3_21; try clear kW3_22; try clear hbwC; try clear hkwC; try clear hlwC
      go_wp2_with (fail)
      refine (E1.out _).mono ?_
      rintro e wD ⟨rfl, hbwD⟩
      have hkwD : Hld W4 wD := heldM (by (repeat' (first | assumption | exact Below.refl _ _ | apply Blw.alloc | apply Blw.drew | apply Blw.drewN | (refine Blw.after ?_ (by assumption)) | (refine Blw.set ?_ (by first | (dsimp only; omega) | (simp; done) | (simp; omega)) _))))
      have hlwD := hkwD.1
      have hswD := hkwD.2.2.2
      try (have : W1.heap.size < wD.heap.size := by omega)
      try (have : W1.heap.size + 1 < wD.heap.size := by omega)
      try (have : wA.heap.size < wD.heap.size := by omega)
      try (have : wC.heap.size < wD.heap.size := by omega)
      go_wp2_with (fail)
      refine (E2.out _).mono ?_
      rintro e wE ⟨rfl, hbwE⟩
      have hkwE : Hld W4 wE := heldM (by (repeat' (first | assumption | exact Below.refl _ _ | apply Blw.alloc | apply Blw.drew | apply Blw.drewN | (refine Blw.after ?_ (by assumption)) | (refine Blw.set ?_ (by first | (dsimp only; omega) | (simp; done) | (simp; omega)) _))))
      have hlwE := hkwE.1
      have hswE := hkwE.2.2.2
      try (have : W1.heap.size < wE.heap.size := by omega)
      try (have : W1.heap.size + 1 < wE.heap.size := by omega)
      try (have : wA.heap.size < wE.heap.size := by omega)
      try (have : wC.heap.size < wE.heap.size := by omega)
      go_wp2_with (fail)
      refine (E3.out _).mono ?_
      rintro e wF ⟨rfl, hbwF⟩
      have hkwF : Hld W4 wF := heldM (by (repeat' (first | assumption | exact Below.refl _ _ | apply Blw.alloc | apply Blw.drew | apply Blw.drewN | (refine Blw.after ?_ (by assumption)) | (refine Blw.set ?_ (by first | (dsimp only; omega) | (simp; done) | (simp; omega)) _))))
      have hlwF := hkwF.1
      have hswF := hkwF.2.2.2
      try (have : W1.heap.size < wF.heap.size := by omega)
      try (have : W1.heap.size + 1 < wF.heap.size := by omega)
      try (have : wA.heap.size < wF.heap.size := by omega)
      try (have : wC.heap.size < wF.heap.size := by omega)
      go_upto_region 12 with fail
      have q00 : wF.cell? ⟨W1.heap.size, 0, none⟩ = some (.int .i64 x) := keepcell hlwF (by assumption)
      have q01 : wF.cell? ⟨W1.heap.size, 1, none⟩ = some (.int .i64 y) := keepcell hlwF (by assumption)
      have q10 : wF.cell? ⟨W1.heap.size + 1, 0, none⟩ = some (.int .i64 x') := keepcell hlwF (by assumption)
      have q11 : wF.cell? ⟨W1.heap.size + 1, 1, none⟩ = some (.int .i64 y') := keepcell hlwF (by assumption)
      have q20 : wF.cell? ⟨wA.heap.size, 0, none⟩ = some (.int .i64 p) := keepcell hlwF (by assumption)
      have q21 : wF.cell? ⟨wA.heap.size, 1, none⟩ = some (.int .i64 q) := keepcell hlwF (by assumption)
      have q30 : wF.cell? ⟨wC.heap.size, 0, none⟩ = some (.int .i64 p) := keepcell hlwF (by assumption)
      have q31 : wF.cell? ⟨wC.heap.size, 1, none⟩ = some (.int .i64 q) := keepcell hlwF (by assumption)
      have d00 : ∀ X : BelowW wF, X.at'.cell? ⟨W1.heap.size, 0, none⟩ = some (.int .i64 x) := fun X => keepcell X.kept (by assumption)
      have d01 : ∀ X : BelowW wF, X.at'.cell? ⟨W1.heap.size, 1, none⟩ = some (.int .i64 y) := fun X => keepcell X.kept (by assumption)
      have d10 : ∀ X : BelowW wF, X.at'.cell? ⟨W1.heap.size + 1, 0, none⟩ = some (.int .i64 x') := fun X => keepcell X.kept (by assumption)
      have d11 : ∀ X : BelowW wF, X.at'.cell? ⟨W1.heap.size + 1, 1, none⟩ = some (.int .i64 y') := fun X => keepcell X.kept (by assumption)
      have d20 : ∀ X : BelowW wF, X.at'.cell? ⟨wA.heap.size, 0, none⟩ = some (.int .i64 p) := fun X => keepcell X.kept (by assumption)
      have d21 : ∀ X : BelowW wF, X.at'.cell? ⟨wA.heap.size, 1, none⟩ = some (.int .i64 q) := fun X => keepcell X.kept (by assumption)
      have d30 : ∀ X : BelowW wF, X.at'.cell? ⟨wC.heap.size, 0, none⟩ = some (.int .i64 p) := fun X => keepcell X.kept (by assumption)
      have d31 : ∀ X : BelowW wF, X.at'.cell? ⟨wC.heap.size, 1, none⟩ = some (.int .i64 q) := fun X => keepcell X.kept (by assumption)
      have f1 := F1.out
      have r2 := HR.out
      have j2 := HJ.out
      have ew := EW.out
      clear F1 E1 E2 E3
      generalize floatOfInt .f64 x = A at *
      generalize floatOfInt .f64 y = B at *
      generalize floatOfInt .f64 x' = A' at *
      generalize floatOfInt .f64 y' = B' at *
      generalize floatOfInt .f64 p = C at *
      generalize floatOfInt .f64 q = D at *
      have hNE : ∀ w, Nonempty (BelowW w) := BelowW.none
      refine wp_region_below (by kernel_rfl) (by kernel_rfl) ?_
      repeat
        (refine wpQuiet_step (fun K hK => ?_)
         go_simp
         first
           | (refine hK _ ?_; clear hK K)
           | (apply Exists.intro
              refine ⟨fun xW => ?_, hK _ ?_⟩
              (first | (go_at_call_of 26 (Value.agg #[Value.int IntKind.i64 p, Value.int IntKind.i64 q]); exact Calls.below (H3.out _)) | (go_at_call_of 26 (Value.agg #[Value.int IntKind.i64 x, Value.int IntKind.i64 y]); exact Calls.below (H1.out _)) | (go_at_call_of 26 (Value.agg #[Value.int IntKind.i64 x', Value.int IntKind.i64 y']); exact Calls.below (H2.out _)))
              clear hK K))
      refine wpQuiet_nil ?_
      rintro _ ⟨⟨w2, hb2⟩, rfl⟩
      try dsimp only
      go_wp2_with fail
      go_ret
      exact ⟨by simp [r2, j2], by (repeat' (first | assumption | exact Below.refl _ _ | apply Blw.alloc | apply Blw.drew | apply Blw.drewN | (refine Blw.after ?_ (by assumption)) | (refine Blw.set ?_ (by first | (dsimp only; omega) | (simp; done) | (simp; omega)) _)))⟩
    · simp only [res2, hi, sel_f] at D1 D2
      clear D3 hi
      go_wp2_with (fail)
      refine (D1 _).mono ?_
      rintro e wA ⟨rfl, hbwA⟩
      have hkwA : Hld W0 wA := heldM (by (repeat' (first | assumption | exact Below.refl _ _ | apply Blw.alloc | apply Blw.drew | apply Blw.drewN | (refine Blw.after ?_ (by assumption)) | (refine Blw.set ?_ (by first | (dsimp only; omega) | (simp; done) | (simp; omega)) _))))
      have hlwA := hkwA.1
      have hswA := hkwA.2.2.2
      try (have : W1.heap.size < wA.heap.size := by omega)
      try (have : W1.heap.size + 1 < wA.heap.size := by omega)
      try (have : wC.heap.size < wA.heap.size := by omega)
      go_wp2_with fail
      generalize hW : World.alloc _ _ = W2
      have kW2_31 : W2.cell? ⟨W1.heap.size, 0, none⟩ = some (.int .i64 (x)) := by rw [← hW]; clear hW; first | (go_simp; done) | ((repeat refine keepcell ((Below.refl _ _).alloc (Nat.le_refl _) _) ?_); go_simp; done) | (simp only [frozen?_alloc_cells]; go_simp; done)
      have kW2_32 : W2.cell? ⟨W1.heap.size, 1, none⟩ = some (.int .i64 (y)) := by rw [← hW]; clear hW; first | (go_simp; done) | ((repeat refine keepcell ((Below.refl _ _).alloc (Nat.le_refl _) _) ?_); go_simp; done) | (simp only [frozen?_alloc_cells]; go_simp; done)
      have : W1.heap.size < W2.heap.size := World.block_lt_of_cell? W2 ⟨W1.heap.size, 0, none⟩ (by assumption)
      have kW2_33 : W2.cell? ⟨W1.heap.size + 1, 0, none⟩ = some (.int .i64 (x')) := by rw [← hW]; clear hW; first | (go_simp; done) | ((repeat refine keepcell ((Below.refl _ _).alloc (Nat.le_refl _) _) ?_); go_simp; done) | (simp only [frozen?_alloc_cells]; go_simp; done)
      have kW2_34 : W2.cell? ⟨W1.heap.size + 1, 1, none⟩ = some (.int .i64 (y')) := by rw [← hW]; clear hW; first | (go_simp; done) | ((repeat refine keepcell ((Below.refl _ _).alloc (Nat.le_refl _) _) ?_); go_simp; done) | (simp only [frozen?_alloc_cells]; go_simp; done)
      have : W1.heap.size + 1 < W2.heap.size := World.block_lt_of_cell? W2 ⟨W1.heap.size + 1, 0, none⟩ (by assumption)
      have kW2_35 : W2.cell? ⟨wA.heap.size, 0, none⟩ = some (.int .i64 (0)) := by rw [← hW]; clear hW; first | (go_simp; done) | ((repeat refine keepcell ((Below.refl _ _).alloc (Nat.le_refl _) _) ?_); go_simp; done) | (simp only [frozen?_alloc_cells]; go_simp; done)
      have kW2_36 : W2.cell? ⟨wA.heap.size, 1, none⟩ = some (.int .i64 (0)) := by rw [← hW]; clear hW; first | (go_simp; done) | ((repeat refine keepcell ((Below.refl _ _).alloc (Nat.le_refl _) _) ?_); go_simp; done) | (simp only [frozen?_alloc_cells]; go_simp; done)
      have : wA.heap.size < W2.heap.size := World.block_lt_of_cell? W2 ⟨wA.heap.size, 0, none⟩ (by assumption)
      have hBW2 : Below w.heap.size w W2 := by rw [← hW]; (repeat' (first | assumption | exact Below.refl _ _ | apply Blw.alloc | apply Blw.drew | apply Blw.drewN | (refine Blw.after ?_ (by assumption)) | (refine Blw.set ?_ (by first | (dsimp only; omega) | (simp; done) | (simp; omega)) _)))
      have hsW2 := hBW2.size
      clear hW
      try clear kW4_23; try clear kW4_24; try clear kW4_25; try clear kW4_26; try clear kW4_27; try clear kW4_28; try clear kW4_29; try clear kW4_30; try clear hbwD; try clear hkwD; try clear hlwD; try clear hbwE; try clear hkwE; try clear hlwE; try clear hbwF; try clear hkwF; try clear hlwF; try clear hbwA; try clear hkwA; try clear hlwA
      go_wp2_with (fail)
      refine (D2 _).mono ?_
      rintro e wB ⟨rfl, hbwB⟩
      have hkwB : Hld W2 wB := heldM (by (repeat' (first | assumption | exact Below.refl _ _ | apply Blw.alloc | apply Blw.drew | apply Blw.drewN | (refine Blw.after ?_ (by assumption)) | (refine Blw.set ?_ (by first | (dsimp only; omega) | (simp; done) | (simp; omega)) _))))
      have hlwB := hkwB.1
      have hswB := hkwB.2.2.2
      try (have : W1.heap.size < wB.heap.size := by omega)
      try (have : W1.heap.size + 1 < wB.heap.size := by omega)
      try (have : wA.heap.size < wB.heap.size := by omega)
      go_wp2_with fail
      generalize hW : World.alloc _ _ = W3
      have kW3_37 : W3.cell? ⟨wA.heap.size, 0, none⟩ = some (.int .i64 (0)) := by rw [← hW]; clear hW; first | (go_simp; done) | ((repeat refine keepcell ((Below.refl _ _).alloc (Nat.le_refl _) _) ?_); go_simp; done) | (simp only [frozen?_alloc_cells]; go_simp; done)
      have kW3_38 : W3.cell? ⟨wA.heap.size, 1, none⟩ = some (.int .i64 (0)) := by rw [← hW]; clear hW; first | (go_simp; done) | ((repeat refine keepcell ((Below.refl _ _).alloc (Nat.le_refl _) _) ?_); go_simp; done) | (simp only [frozen?_alloc_cells]; go_simp; done)
      have : wA.heap.size < W3.heap.size := World.block_lt_of_cell? W3 ⟨wA.heap.size, 0, none⟩ (by assumption)
      have kW3_39 : W3.cell? ⟨wB.heap.size, 0, none⟩ = some (.int .i64 (0)) := by rw [← hW]; clear hW; first | (go_simp; done) | ((repeat refine keepcell ((Below.refl _ _).alloc (Nat.le_refl _) _) ?_); go_simp; done) | (simp only [frozen?_alloc_cells]; go_simp; done)
      have kW3_40 : W3.cell? ⟨wB.heap.size, 1, none⟩ = some (.int .i64 (0)) := by rw [← hW]; clear hW; first | (go_simp; done) | ((repeat refine keepcell ((Below.refl _ _).alloc (Nat.le_refl _) _) ?_); go_simp; done) | (simp only [frozen?_alloc_cells]; go_simp; done)
      have : wB.heap.size < W3.heap.size := World.block_lt_of_cell? W3 ⟨wB.heap.size, 0, none⟩ (by assumption)
      have hBW3 : Below w.heap.size w W3 := by rw [← hW]; (repeat' (first | assumption | exact Below.refl _ _ | apply Blw.alloc | apply Blw.drew | apply Blw.drewN | (refine Blw.after ?_ (by assumption)) | (refine Blw.set ?_ (by first | (dsimp only; omega) | (simp; done) | (simp; omega)) _)))
      have hsW3 := hBW3.size
      clear hW
      try clear kW2_31; try clear kW2_32; try clear kW2_33; try clear kW2_34; try clear kW2_35; try clear kW2_36; try clear hbwB; try clear hkwB; try clear hlwB
      go_wp2_with fail
      go_ret
      exact ⟨by simp, by (repeat' (first | assumption | exact Below.refl _ _ | apply Blw.alloc | apply Blw.drew | apply Blw.drewN | (refine Blw.after ?_ (by assumption)) | (refine Blw.set ?_ (by first | (dsimp only; omega) | (simp; done) | (simp; omega)) _)))⟩

namespace lawFnTimes
set_option maxRecDepth 100000 in
theorem lifted (os : Os) (started : os.Started) (H : Type) (enc : TypeId × Value → H) :
    ReturnsInHanded {} Try.checked os 5 .any (Rows.fnTimesSpec.pre6 enc Try.prog Try.f5 Rows.fnTimesRow.domain false) (Rows.fnTimesSpec.post enc Try.prog Try.f5 false true false false) := by
  refine returnsInHanded_of_change (C := Try.checked) own started (by kernel_rfl) Try.func5
    (ChangeSpec.witness6 (enc := enc) (C := Try.checked) false ⟨#[], #[.slice none 0 0], []⟩ 8 (by kernel_rfl) (by kernel_rfl) (by kernel_rfl) (by kernel_rfl)) ?_
  intro W base args ds gs before hval0 hW _ _
  have hval : ∀ (j : Nat) t v, Try.f5.params[j]? = some t → args[j]? = some v → Value.okWide Try.prog W .any base t v := hval0
  have hW' := hW
  obtain ⟨p, q, hA0, hV, rfl, _, _⟩ := hW
  have hA : DataW.TrodAll enc Try.prog W 0 (fun _ => true) true Try.f5.params.toList args.toList ds p := hA0
  rw [Try.params5] at hA hval
  obtain ⟨v0, vs0, d0, ds0, p0, q0, hargs, rfl, rfl, h0, r0⟩ := trodAll_cons hA
  obtain ⟨rfl, rfl, rfl⟩ := trodAll_nil r0
  obtain rfl : args = #[v0] := by cases args; simp_all
  obtain ⟨rfl, rfl⟩ := trodVars_none hV
  obtain ⟨a, len, cap, rfl⟩ := okWide_slice Try.underlying22 (hval 0 22 v0 rfl rfl)
  clear hA0 hval0
  simp only [List.append_nil] at hW'
  have hlt : ∀ x ∈ p0, x.block < W.heap.size := fun x hx => by simpa using hW'.lt x hx
  refine (lawTimes_c a len cap W (code_of h0)).mono fun e W' ⟨he, hg⟩ => ?_
  subst he
  have harg := Below.trod laidOut (by kernel_rfl) (of_decide_eq_true (by kernel_rfl)) h0 hg hlt
  refine ⟨_, rfl, _, _, _, [], p0, [], hW', ?_, ?_, ?_, hg.frame _, fun h => by cases h⟩
  · exact trodAll_cons_mk (shut_bool Try.underlying4 _) trodAll_mk0
  · exact trodAll_mk1 harg
  · rfl

theorem proved : Rows.FnTimesSaid :=
  OpenClaim.holds_of_wide 5 Try.f5 rfl rfl rfl rfl rfl rfl rfl ⟨rfl, rfl, rfl, rfl, rfl⟩ rfl rfl rfl rfl rfl (by kernel_rfl) Try.func5 (by kernel_rfl)
    (of_decide_eq_true (by kernel_rfl)) (by unfold Func.isWrapper; first | (rw [if_pos (by decide +kernel)]; kernel_rfl) | (rw [if_neg (by decide +kernel)]; exact ⟨rfl, rfl⟩))
    (fun os started H enc _ => lifted os started H enc)
end lawFnTimes
end Go.Proofs.Ytfodfapaidfhbac

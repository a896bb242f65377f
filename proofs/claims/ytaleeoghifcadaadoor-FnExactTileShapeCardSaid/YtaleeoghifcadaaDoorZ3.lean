/- Merged texts: Tt Ta Dr Ds Dt Du Tq Po Cut Px0 CutL Tb Ex Pwd Go Mr Tp Tj Dc. No law is stated here. -/
import Derived.Deep.AppendLies
import Derived.Deep.RegionHeld
import Derived.Deep.Cut
import Derived.Laws.BitsAllLaws
import Derived.Laws.ComplexArith
import Derived.Lib.Bytealg
import Derived.Laws.FloatArith
import Derived.Test.YtaleeoghifcadaaDoorRows
import Derived.Maps.RangeWalk
import Derived.StillTailTactics
import Derived.Test.YtaleeoghifcadaaDoorZ2
namespace Go.Proofs.YtaleeoghifcadaaDoor
set_option linter.unusedSimpArgs false
set_option linter.unusedVariables false
open Go.RowKit

/-- the level is in its range, and the number small -/
def okT (a x y : Int) : Bool := inR 0 12 a && inB 1000000 x y
def spV (a x y : Int) : Value := .tuple #[pr (sel (okT a x y) (qn a.toNat (x, y)).1) (sel (okT a x y) (qn a.toNat (x, y)).2), pr (sel (okT a x y) (rn a.toNat (x, y)).1) (sel (okT a x y) (rn a.toNat (x, y)).2), .bool (okT a x y)]
def hasT (a x y : Int) : Bool := okT a x y && decide (qn a.toNat (x, y) = (0, 0))
theorem spV_yes {a x y : Int} (h : okT a x y = true) : spV a x y = .tuple #[pr (qn a.toNat (x, y)).1 (qn a.toNat (x, y)).2, pr (rn a.toNat (x, y)).1 (rn a.toNat (x, y)).2, .bool true] := by
  unfold spV; rw [h]; rfl
theorem spV_no {a x y : Int} (h : okT a x y = false) : spV a x y = .tuple #[pr 0 0, pr 0 0, .bool false] := by
  unfold spV; rw [h]; rfl
theorem inR_le {l u n : Int} (h : inR l u n = true) : l ≤ n ∧ n ≤ u := by
  simp only [inR, Bool.and_eq_true, decide_eq_true_eq] at h; exact h
theorem okT_of {a x y : Int} (h : okT a x y = true) : inR 0 12 a = true ∧ inB 1000000 x y = true := by
  simpa [okT] using h
theorem qn_small {a x y : Int} (h : okT a x y = true) : inB 1000000 (qn a.toNat (x, y)).1 (qn a.toNat (x, y)).2 = true := by
  have h1 := inB_le (okT_of h).2
  obtain ⟨⟨u1, u2⟩, u3, u4⟩ := qn_in (k := 1000000) (z := (x, y)) ⟨h1.1, h1.2.1⟩ h1.2.2 a.toNat
  simp only [inB, inR, Bool.and_eq_true, decide_eq_true_eq]; omega
set_option maxRecDepth 100000 in
set_option maxHeartbeats 2000000 in
theorem sTileSplit_c (a x y : Int) (w : World) : Calls Tryd.prog 20 #[.int .i64 a, pr x y] w fun e w' => e = .returned (spV a x y) ∧ Below w.heap.size w w' := by
  rcases Bool.eq_false_or_eq_true (inR 0 12 a) with h1 | h1
  · rcases Bool.eq_false_or_eq_true (inB 1000000 x y) with h2 | h2
    · have hk : okT a x y = true := by unfold okT; rw [h1, h2]; rfl
      have HV := Lib.hid (spV_yes hk)
      have hq := qn_small hk
      have H1 := inR_le h1
      have H2 := inB_le h2
      obtain ⟨n, rfl⟩ : ∃ n : Nat, a = (n : Int) := ⟨a.toNat, by omega⟩
      rw [Int.toNat_natCast] at HV hq
      go_enter Tryd.func20, Tryd.ntmps20
      go_wp2_with fail
      generalize hW : World.alloc _ _ = W0
      have kW0_1 : W0.cell? ⟨w.heap.size, 0, none⟩ = some (.int .i64 (x)) := by rw [← hW]; clear hW; first | (go_simp; done) | ((repeat refine keepcell ((Below.refl _ _).alloc (Nat.le_refl _) _) ?_); go_simp; done) | (simp only [frozen?_alloc_cells]; go_simp; done)
      have zW0_1 : W0.frozen? ⟨w.heap.size, 0, none⟩ = false := by rw [← hW]; clear hW; first | (go_simp; done) | ((repeat refine keepcell ((Below.refl _ _).alloc (Nat.le_refl _) _) ?_); go_simp; done) | (simp only [frozen?_alloc_cells]; go_simp; done)
      have kW0_2 : W0.cell? ⟨w.heap.size, 1, none⟩ = some (.int .i64 (y)) := by rw [← hW]; clear hW; first | (go_simp; done) | ((repeat refine keepcell ((Below.refl _ _).alloc (Nat.le_refl _) _) ?_); go_simp; done) | (simp only [frozen?_alloc_cells]; go_simp; done)
      have zW0_2 : W0.frozen? ⟨w.heap.size, 1, none⟩ = false := by rw [← hW]; clear hW; first | (go_simp; done) | ((repeat refine keepcell ((Below.refl _ _).alloc (Nat.le_refl _) _) ?_); go_simp; done) | (simp only [frozen?_alloc_cells]; go_simp; done)
      have : w.heap.size < W0.heap.size := World.block_lt_of_cell? W0 ⟨w.heap.size, 0, none⟩ (by assumption)
      have kW0_3 : W0.cell? ⟨w.heap.size + 1, 0, none⟩ = some (.int .i64 (0)) := by rw [← hW]; clear hW; first | (go_simp; done) | ((repeat refine keepcell ((Below.refl _ _).alloc (Nat.le_refl _) _) ?_); go_simp; done) | (simp only [frozen?_alloc_cells]; go_simp; done)
      have zW0_3 : W0.frozen? ⟨w.heap.size + 1, 0, none⟩ = false := by rw [← hW]; clear hW; first | (go_simp; done) | ((repeat refine keepcell ((Below.refl _ _).alloc (Nat.le_refl _) _) ?_); go_simp; done) | (simp only [frozen?_alloc_cells]; go_simp; done)
      have kW0_4 : W0.cell? ⟨w.heap.size + 1, 1, none⟩ = some (.int .i64 (0)) := by rw [← hW]; clear hW; first | (go_simp; done) | ((repeat refine keepcell ((Below.refl _ _).alloc (Nat.le_refl _) _) ?_); go_simp; done) | (simp only [frozen?_alloc_cells]; go_simp; done)
      have zW0_4 : W0.frozen? ⟨w.heap.size + 1, 1, none⟩ = false := by rw [← hW]; clear hW; first | (go_simp; done) | ((repeat refine keepcell ((Below.refl _ _).alloc (Nat.le_refl _) _) ?_); go_simp; done) | (simp only [frozen?_alloc_cells]; go_simp; done)
      have : w.heap.size + 1 < W0.heap.size := World.block_lt_of_cell? W0 ⟨w.heap.size + 1, 0, none⟩ (by assumption)
      have kW0_5 : W0.cell? ⟨w.heap.size + 2, 0, none⟩ = some (.int .i64 (0)) := by rw [← hW]; clear hW; first | (go_simp; done) | ((repeat refine keepcell ((Below.refl _ _).alloc (Nat.le_refl _) _) ?_); go_simp; done) | (simp only [frozen?_alloc_cells]; go_simp; done)
      have zW0_5 : W0.frozen? ⟨w.heap.size + 2, 0, none⟩ = false := by rw [← hW]; clear hW; first | (go_simp; done) | ((repeat refine keepcell ((Below.refl _ _).alloc (Nat.le_refl _) _) ?_); go_simp; done) | (simp only [frozen?_alloc_cells]; go_simp; done)
      have kW0_6 : W0.cell? ⟨w.heap.size + 2, 1, none⟩ = some (.int .i64 (0)) := by rw [← hW]; clear hW; first | (go_simp; done) | ((repeat refine keepcell ((Below.refl _ _).alloc (Nat.le_refl _) _) ?_); go_simp; done) | (simp only [frozen?_alloc_cells]; go_simp; done)
      have zW0_6 : W0.frozen? ⟨w.heap.size + 2, 1, none⟩ = false := by rw [← hW]; clear hW; first | (go_simp; done) | ((repeat refine keepcell ((Below.refl _ _).alloc (Nat.le_refl _) _) ?_); go_simp; done) | (simp only [frozen?_alloc_cells]; go_simp; done)
      have : w.heap.size + 2 < W0.heap.size := World.block_lt_of_cell? W0 ⟨w.heap.size + 2, 0, none⟩ (by assumption)
      have hBW0 : Below w.heap.size w W0 := by rw [← hW]; (first | ((repeat' with_reducible first | assumption | exact Below.refl _ _ | apply Blw.alloc | apply Blw.drew | apply Blw.drewN | (refine Blw.after ?_ (by assumption)) | (refine Blw.set ?_ (by first | (dsimp only; omega) | (simp; omega)) _)); done) | (repeat' (first | assumption | exact Below.refl _ _ | apply Blw.alloc | apply Blw.drew | apply Blw.drewN | (refine Blw.after ?_ (by assumption)) | (refine Blw.set ?_ (by first | (dsimp only; omega) | (simp; done) | (simp; omega)) _))))
      have hsW0 := hBW0.size
      clear hW
      go_wp2_with (first|(go_at_call 48; refine (l6In_c _ _ _ _).mono ?_; rintro e w1 ⟨rfl, rfl⟩)|(go_at_call 49; refine (sGaussSmall_c _ _ _).mono ?_; rintro e w1 ⟨rfl, hb⟩; have hk : Hld W0 w1 := heldM (by (first | ((repeat' with_reducible first | assumption | exact Below.refl _ _ | apply Blw.alloc | apply Blw.drew | apply Blw.drewN | (refine Blw.after ?_ (by assumption)) | (refine Blw.set ?_ (by first | (dsimp only; omega) | (simp; omega)) _)); done) | (repeat' (first | assumption | exact Below.refl _ _ | apply Blw.alloc | apply Blw.drew | apply Blw.drewN | (refine Blw.after ?_ (by assumption)) | (refine Blw.set ?_ (by first | (dsimp only; omega) | (simp; done) | (simp; omega)) _))))); have hk1 := hk.1))
      refine (l6tTail_c x y n _ (by omega) ⟨by omega, by omega⟩).mono ?_
      rintro e wA ⟨rfl, hbwA⟩
      have hkwA : Hld W0 wA := heldM (by (first | ((repeat' with_reducible first | assumption | exact Below.refl _ _ | apply Blw.alloc | apply Blw.drew | apply Blw.drewN | (refine Blw.after ?_ (by assumption)) | (refine Blw.set ?_ (by first | (dsimp only; omega) | (simp; omega)) _)); done) | (repeat' (first | assumption | exact Below.refl _ _ | apply Blw.alloc | apply Blw.drew | apply Blw.drewN | (refine Blw.after ?_ (by assumption)) | (refine Blw.set ?_ (by first | (dsimp only; omega) | (simp; done) | (simp; omega)) _)))))
      have hlwA := hkwA.1
      have hswA := hkwA.2.2.2
      try (have : w.heap.size < wA.heap.size := by omega)
      try (have : w.heap.size + 1 < wA.heap.size := by omega)
      try (have : w.heap.size + 2 < wA.heap.size := by omega)
      go_wp2_with fail
      generalize hW : World.alloc _ _ = W1
      have kW1_7 : W1.cell? ⟨w.heap.size + 1, 0, none⟩ = some (.int .i64 (0)) := by rw [← hW]; clear hW; first | (go_simp; done) | ((repeat refine keepcell ((Below.refl _ _).alloc (Nat.le_refl _) _) ?_); go_simp; done) | (simp only [frozen?_alloc_cells]; go_simp; done)
      have zW1_7 : W1.frozen? ⟨w.heap.size + 1, 0, none⟩ = false := by rw [← hW]; clear hW; first | (go_simp; done) | ((repeat refine keepcell ((Below.refl _ _).alloc (Nat.le_refl _) _) ?_); go_simp; done) | (simp only [frozen?_alloc_cells]; go_simp; done)
      have kW1_8 : W1.cell? ⟨w.heap.size + 1, 1, none⟩ = some (.int .i64 (0)) := by rw [← hW]; clear hW; first | (go_simp; done) | ((repeat refine keepcell ((Below.refl _ _).alloc (Nat.le_refl _) _) ?_); go_simp; done) | (simp only [frozen?_alloc_cells]; go_simp; done)
      have zW1_8 : W1.frozen? ⟨w.heap.size + 1, 1, none⟩ = false := by rw [← hW]; clear hW; first | (go_simp; done) | ((repeat refine keepcell ((Below.refl _ _).alloc (Nat.le_refl _) _) ?_); go_simp; done) | (simp only [frozen?_alloc_cells]; go_simp; done)
      have : w.heap.size + 1 < W1.heap.size := World.block_lt_of_cell? W1 ⟨w.heap.size + 1, 0, none⟩ (by assumption)
      have kW1_9 : W1.cell? ⟨w.heap.size + 2, 0, none⟩ = some (.int .i64 (0)) := by rw [← hW]; clear hW; first | (go_simp; done) | ((repeat refine keepcell ((Below.refl _ _).alloc (Nat.le_refl _) _) ?_); go_simp; done) | (simp only [frozen?_alloc_cells]; go_simp; done)
      have zW1_9 : W1.frozen? ⟨w.heap.size + 2, 0, none⟩ = false := by rw [← hW]; clear hW; first | (go_simp; done) | ((repeat refine keepcell ((Below.refl _ _).alloc (Nat.le_refl _) _) ?_); go_simp; done) | (simp only [frozen?_alloc_cells]; go_simp; done)
      have kW1_10 : W1.cell? ⟨w.heap.size + 2, 1, none⟩ = some (.int .i64 (0)) := by rw [← hW]; clear hW; first | (go_simp; done) | ((repeat refine keepcell ((Below.refl _ _).alloc (Nat.le_refl _) _) ?_); go_simp; done) | (simp only [frozen?_alloc_cells]; go_simp; done)
      have zW1_10 : W1.frozen? ⟨w.heap.size + 2, 1, none⟩ = false := by rw [← hW]; clear hW; first | (go_simp; done) | ((repeat refine keepcell ((Below.refl _ _).alloc (Nat.le_refl _) _) ?_); go_simp; done) | (simp only [frozen?_alloc_cells]; go_simp; done)
      have : w.heap.size + 2 < W1.heap.size := World.block_lt_of_cell? W1 ⟨w.heap.size + 2, 0, none⟩ (by assumption)
      have kW1_11 : W1.cell? ⟨wA.heap.size, 0, none⟩ = some (.int .i64 ((qn n (x, y)).1)) := by rw [← hW]; clear hW; first | (go_simp; done) | ((repeat refine keepcell ((Below.refl _ _).alloc (Nat.le_refl _) _) ?_); go_simp; done) | (simp only [frozen?_alloc_cells]; go_simp; done)
      have kW1_12 : W1.cell? ⟨wA.heap.size, 1, none⟩ = some (.int .i64 ((qn n (x, y)).2)) := by rw [← hW]; clear hW; first | (go_simp; done) | ((repeat refine keepcell ((Below.refl _ _).alloc (Nat.le_refl _) _) ?_); go_simp; done) | (simp only [frozen?_alloc_cells]; go_simp; done)
      have : wA.heap.size < W1.heap.size := World.block_lt_of_cell? W1 ⟨wA.heap.size, 0, none⟩ (by assumption)
      have kW1_13 : W1.cell? ⟨wA.heap.size + 1, 0, none⟩ = some (.int .i64 ((rn n (x, y)).1)) := by rw [← hW]; clear hW; first | (go_simp; done) | ((repeat refine keepcell ((Below.refl _ _).alloc (Nat.le_refl _) _) ?_); go_simp; done) | (simp only [frozen?_alloc_cells]; go_simp; done)
      have kW1_14 : W1.cell? ⟨wA.heap.size + 1, 1, none⟩ = some (.int .i64 ((rn n (x, y)).2)) := by rw [← hW]; clear hW; first | (go_simp; done) | ((repeat refine keepcell ((Below.refl _ _).alloc (Nat.le_refl _) _) ?_); go_simp; done) | (simp only [frozen?_alloc_cells]; go_simp; done)
      have : wA.heap.size + 1 < W1.heap.size := World.block_lt_of_cell? W1 ⟨wA.heap.size + 1, 0, none⟩ (by assumption)
      have hBW1 : Below w.heap.size w W1 := by rw [← hW]; (first | ((repeat' with_reducible first | assumption | exact Below.refl _ _ | apply Blw.alloc | apply Blw.drew | apply Blw.drewN | (refine Blw.after ?_ (by assumption)) | (refine Blw.set ?_ (by first | (dsimp only; omega) | (simp; omega)) _)); done) | (repeat' (first | assumption | exact Below.refl _ _ | apply Blw.alloc | apply Blw.drew | apply Blw.drewN | (refine Blw.after ?_ (by assumption)) | (refine Blw.set ?_ (by first | (dsimp only; omega) | (simp; done) | (simp; omega)) _))))
      have hsW1 := hBW1.size
      clear hW
      try clear kW0_1; try clear zW0_1; try clear kW0_2; try clear zW0_2; try clear kW0_3; try clear zW0_3; try clear kW0_4; try clear zW0_4; try clear kW0_5; try clear zW0_5; try clear kW0_6; try clear zW0_6; try clear hbwA; try clear hkwA; try clear hlwA
      go_wp2_with (fail)
      refine (sGaussSmall_c _ _ _).mono ?_
      rintro e wB ⟨rfl, hbwB⟩
      have hkwB : Hld W1 wB := heldM (by (first | ((repeat' with_reducible first | assumption | exact Below.refl _ _ | apply Blw.alloc | apply Blw.drew | apply Blw.drewN | (refine Blw.after ?_ (by assumption)) | (refine Blw.set ?_ (by first | (dsimp only; omega) | (simp; omega)) _)); done) | (repeat' (first | assumption | exact Below.refl _ _ | apply Blw.alloc | apply Blw.drew | apply Blw.drewN | (refine Blw.after ?_ (by assumption)) | (refine Blw.set ?_ (by first | (dsimp only; omega) | (simp; done) | (simp; omega)) _)))))
      have hlwB := hkwB.1
      have hswB := hkwB.2.2.2
      try (have : w.heap.size + 1 < wB.heap.size := by omega)
      try (have : w.heap.size + 2 < wB.heap.size := by omega)
      try (have : wA.heap.size < wB.heap.size := by omega)
      try (have : wA.heap.size + 1 < wB.heap.size := by omega)
      go_wp2_with fail
      have kwB_15 : wB.cell? ⟨w.heap.size + 1, 0, none⟩ = some (.int .i64 (0)) := by go_simp
      have zwB_15 : wB.frozen? ⟨w.heap.size + 1, 0, none⟩ = false := by go_simp
      have kwB_16 : wB.cell? ⟨w.heap.size + 1, 1, none⟩ = some (.int .i64 (0)) := by go_simp
      have zwB_16 : wB.frozen? ⟨w.heap.size + 1, 1, none⟩ = false := by go_simp
      have : w.heap.size + 1 < wB.heap.size := World.block_lt_of_cell? wB ⟨w.heap.size + 1, 0, none⟩ (by assumption)
      have kwB_17 : wB.cell? ⟨w.heap.size + 2, 0, none⟩ = some (.int .i64 (0)) := by go_simp
      have zwB_17 : wB.frozen? ⟨w.heap.size + 2, 0, none⟩ = false := by go_simp
      have kwB_18 : wB.cell? ⟨w.heap.size + 2, 1, none⟩ = some (.int .i64 (0)) := by go_simp
      have zwB_18 : wB.frozen? ⟨w.heap.size + 2, 1, none⟩ = false := by go_simp
      have : w.heap.size + 2 < wB.heap.size := World.block_lt_of_cell? wB ⟨w.heap.size + 2, 0, none⟩ (by assumption)
      have kwB_19 : wB.cell? ⟨wA.heap.size, 0, none⟩ = some (.int .i64 ((qn n (x, y)).1)) := by go_simp
      have kwB_20 : wB.cell? ⟨wA.heap.size, 1, none⟩ = some (.int .i64 ((qn n (x, y)).2)) := by go_simp
      have : wA.heap.size < wB.heap.size := World.block_lt_of_cell? wB ⟨wA.heap.size, 0, none⟩ (by assumption)
      have kwB_21 : wB.cell? ⟨wA.heap.size + 1, 0, none⟩ = some (.int .i64 ((rn n (x, y)).1)) := by go_simp
      have kwB_22 : wB.cell? ⟨wA.heap.size + 1, 1, none⟩ = some (.int .i64 ((rn n (x, y)).2)) := by go_simp
      have : wA.heap.size + 1 < wB.heap.size := World.block_lt_of_cell? wB ⟨wA.heap.size + 1, 0, none⟩ (by assumption)
      have hBwB : Below w.heap.size w wB := by (first | ((repeat' with_reducible first | assumption | exact Below.refl _ _ | apply Blw.alloc | apply Blw.drew | apply Blw.drewN | (refine Blw.after ?_ (by assumption)) | (refine Blw.set ?_ (by first | (dsimp only; omega) | (simp; omega)) _)); done) | (repeat' (first | assumption | exact Below.refl _ _ | apply Blw.alloc | apply Blw.drew | apply Blw.drewN | (refine Blw.after ?_ (by assumption)) | (refine Blw.set ?_ (by first | (dsimp only; omega) | (simp; done) | (simp; omega)) _))))
      have hSwB := hBwB.size
      try clear kW1_7; try clear zW1_7; try clear kW1_8; try clear zW1_8; try clear kW1_9; try clear zW1_9; try clear kW1_10; try clear zW1_10; try clear kW1_11; try clear kW1_12; try clear kW1_13; try clear kW1_14; try clear hbwB; try clear hkwB; try clear hlwB
      refine region_slots (fun w' => w'.cell? ⟨wA.heap.size + 1, 0, none⟩ = some (.int .i64 ((rn n (x, y)).1)) ∧ w'.cell? ⟨wA.heap.size + 1, 1, none⟩ = some (.int .i64 ((rn n (x, y)).2))) [1] [(30, .is (pr (qn n (x, y)).1 (qn n (x, y)).2)), (31, .is (pr (rn n (x, y)).1 (rn n (x, y)).2))] (by kernel_rfl) (by kernel_rfl) (by kernel_rfl) (fun w' hH => by go_simp) (fun _ _ _ _ _ _ h => h) ?_
      simp only [Steps, List.contains_cons, List.contains_nil, Nat.reduceBEq, Nat.reduceAdd, Bool.or_false, Bool.false_or, Bool.or_true, Bool.true_or, Bool.false_eq_true, if_false, if_true]
      refine ⟨?_, ?_, ?_⟩
      · intro u w2 hH hd K hK
        simp only [setU, upd, List.map_cons, List.map_nil, List.contains_cons, List.contains_nil, Nat.reduceBEq, Nat.reduceAdd, Bool.or_false, Bool.false_or, Bool.or_true, Bool.true_or, Bool.false_eq_true, if_false, if_true, ite_true, ite_false, Nat.reduceEqDiff, beq_self_eq_true] at hK ⊢
        go_wp2_with (fail)
        exact hK _ _ (by (first | ((repeat' with_reducible first | assumption | exact Below.refl _ _ | apply Blw.alloc | apply Blw.drew | apply Blw.drewN | (refine Blw.after ?_ (by assumption)) | (refine Blw.set ?_ (by first | (dsimp only; omega) | (simp; omega)) _)); done) | (repeat' (first | assumption | exact Below.refl _ _ | apply Blw.alloc | apply Blw.drew | apply Blw.drewN | (refine Blw.after ?_ (by assumption)) | (refine Blw.set ?_ (by first | (dsimp only; omega) | (simp; done) | (simp; omega)) _))))) rfl
      · intro u w2 hH hd
        simp only [setU, upd, List.map_cons, List.map_nil, List.contains_cons, List.contains_nil, Nat.reduceBEq, Nat.reduceAdd, Bool.or_false, Bool.false_or, Bool.or_true, Bool.true_or, Bool.false_eq_true, if_false, if_true, ite_true, ite_false, Nat.reduceEqDiff, beq_self_eq_true]
        refine ⟨(pr (rn n (x, y)).1 (rn n (x, y)).2), fun w hS => ?_, by first | rfl | trivial, by first | rfl | trivial, by first | rfl | trivial⟩
        first | (go_simp; done) | (go_simp; exact IntWalk.i64_in _ (by omega))
      intro u w2 hH hF hne
      have hH1 := hH.1
      have hH2 := hH.2.2.2
      simp only [allFacts, SlotFact.h] at hF
      obtain ⟨f30, f31, -⟩ := hF
      simp only [setU, upd, List.map_cons, List.map_nil, List.contains_cons, List.contains_nil, Nat.reduceBEq, Nat.reduceAdd, Bool.or_false, Bool.false_or, Bool.or_true, Bool.true_or, Bool.false_eq_true, if_false, if_true, ite_true, ite_false, Nat.reduceEqDiff, beq_self_eq_true]
      rw [f30, f31]
      clear f30 f31 hne
      refine wpListS_step fun K hK => ?_
      go_wp2_with (fail)
      refine hK _ _ (by go_simp) ?_
      clear hK
      refine wpListS_step fun K hK => ?_
      go_wp2_with (fail)
      refine hK _ _ (by go_simp) ?_
      clear hK
      refine wpListS_step fun K hK => ?_
      go_wp2_with (fail)
      refine hK _ _ (by go_simp) ?_
      clear hK
      refine wpListS_nil ?_
      go_wp2_with fail
      exact bodyPost_ret (v := .tuple #[pr (qn n (x, y)).1 (qn n (x, y)).2, pr (rn n (x, y)).1 (rn n (x, y)).2, .bool true]) (by simp [results, Tryd.results20, go_sem, *]) rfl ⟨by rw [HV.out], by (first | ((repeat' with_reducible first | assumption | exact Below.refl _ _ | apply Blw.alloc | apply Blw.drew | apply Blw.drewN | (refine Blw.after ?_ (by assumption)) | (refine Blw.set ?_ (by first | (dsimp only; omega) | (simp; omega)) _)); done) | (repeat' (first | assumption | exact Below.refl _ _ | apply Blw.alloc | apply Blw.drew | apply Blw.drewN | (refine Blw.after ?_ (by assumption)) | (refine Blw.set ?_ (by first | (dsimp only; omega) | (simp; done) | (simp; omega)) _))))⟩
    · have HV := Lib.hid (spV_no (a := a) (x := x) (y := y) (by unfold okT; rw [h1, h2]; rfl))
      go_enter Tryd.func20, Tryd.ntmps20
      go_wp2_with fail
      generalize hW : World.alloc _ _ = W0
      have kW0_23 : W0.cell? ⟨w.heap.size, 0, none⟩ = some (.int .i64 (x)) := by rw [← hW]; clear hW; first | (go_simp; done) | ((repeat refine keepcell ((Below.refl _ _).alloc (Nat.le_refl _) _) ?_); go_simp; done) | (simp only [frozen?_alloc_cells]; go_simp; done)
      have zW0_23 : W0.frozen? ⟨w.heap.size, 0, none⟩ = false := by rw [← hW]; clear hW; first | (go_simp; done) | ((repeat refine keepcell ((Below.refl _ _).alloc (Nat.le_refl _) _) ?_); go_simp; done) | (simp only [frozen?_alloc_cells]; go_simp; done)
      have kW0_24 : W0.cell? ⟨w.heap.size, 1, none⟩ = some (.int .i64 (y)) := by rw [← hW]; clear hW; first | (go_simp; done) | ((repeat refine keepcell ((Below.refl _ _).alloc (Nat.le_refl _) _) ?_); go_simp; done) | (simp only [frozen?_alloc_cells]; go_simp; done)
      have zW0_24 : W0.frozen? ⟨w.heap.size, 1, none⟩ = false := by rw [← hW]; clear hW; first | (go_simp; done) | ((repeat refine keepcell ((Below.refl _ _).alloc (Nat.le_refl _) _) ?_); go_simp; done) | (simp only [frozen?_alloc_cells]; go_simp; done)
      have : w.heap.size < W0.heap.size := World.block_lt_of_cell? W0 ⟨w.heap.size, 0, none⟩ (by assumption)
      have kW0_25 : W0.cell? ⟨w.heap.size + 1, 0, none⟩ = some (.int .i64 (0)) := by rw [← hW]; clear hW; first | (go_simp; done) | ((repeat refine keepcell ((Below.refl _ _).alloc (Nat.le_refl _) _) ?_); go_simp; done) | (simp only [frozen?_alloc_cells]; go_simp; done)
      have zW0_25 : W0.frozen? ⟨w.heap.size + 1, 0, none⟩ = false := by rw [← hW]; clear hW; first | (go_simp; done) | ((repeat refine keepcell ((Below.refl _ _).alloc (Nat.le_refl _) _) ?_); go_simp; done) | (simp only [frozen?_alloc_cells]; go_simp; done)
      have kW0_26 : W0.cell? ⟨w.heap.size + 1, 1, none⟩ = some (.int .i64 (0)) := by rw [← hW]; clear hW; first | (go_simp; done) | ((repeat refine keepcell ((Below.refl _ _).alloc (Nat.le_refl _) _) ?_); go_simp; done) | (simp only [frozen?_alloc_cells]; go_simp; done)
      have zW0_26 : W0.frozen? ⟨w.heap.size + 1, 1, none⟩ = false := by rw [← hW]; clear hW; first | (go_simp; done) | ((repeat refine keepcell ((Below.refl _ _).alloc (Nat.le_refl _) _) ?_); go_simp; done) | (simp only [frozen?_alloc_cells]; go_simp; done)
      have : w.heap.size + 1 < W0.heap.size := World.block_lt_of_cell? W0 ⟨w.heap.size + 1, 0, none⟩ (by assumption)
      have kW0_27 : W0.cell? ⟨w.heap.size + 2, 0, none⟩ = some (.int .i64 (0)) := by rw [← hW]; clear hW; first | (go_simp; done) | ((repeat refine keepcell ((Below.refl _ _).alloc (Nat.le_refl _) _) ?_); go_simp; done) | (simp only [frozen?_alloc_cells]; go_simp; done)
      have zW0_27 : W0.frozen? ⟨w.heap.size + 2, 0, none⟩ = false := by rw [← hW]; clear hW; first | (go_simp; done) | ((repeat refine keepcell ((Below.refl _ _).alloc (Nat.le_refl _) _) ?_); go_simp; done) | (simp only [frozen?_alloc_cells]; go_simp; done)
      have kW0_28 : W0.cell? ⟨w.heap.size + 2, 1, none⟩ = some (.int .i64 (0)) := by rw [← hW]; clear hW; first | (go_simp; done) | ((repeat refine keepcell ((Below.refl _ _).alloc (Nat.le_refl _) _) ?_); go_simp; done) | (simp only [frozen?_alloc_cells]; go_simp; done)
      have zW0_28 : W0.frozen? ⟨w.heap.size + 2, 1, none⟩ = false := by rw [← hW]; clear hW; first | (go_simp; done) | ((repeat refine keepcell ((Below.refl _ _).alloc (Nat.le_refl _) _) ?_); go_simp; done) | (simp only [frozen?_alloc_cells]; go_simp; done)
      have : w.heap.size + 2 < W0.heap.size := World.block_lt_of_cell? W0 ⟨w.heap.size + 2, 0, none⟩ (by assumption)
      have hBW0 : Below w.heap.size w W0 := by rw [← hW]; (first | ((repeat' with_reducible first | assumption | exact Below.refl _ _ | apply Blw.alloc | apply Blw.drew | apply Blw.drewN | (refine Blw.after ?_ (by assumption)) | (refine Blw.set ?_ (by first | (dsimp only; omega) | (simp; omega)) _)); done) | (repeat' (first | assumption | exact Below.refl _ _ | apply Blw.alloc | apply Blw.drew | apply Blw.drewN | (refine Blw.after ?_ (by assumption)) | (refine Blw.set ?_ (by first | (dsimp only; omega) | (simp; done) | (simp; omega)) _))))
      have hsW0 := hBW0.size
      clear hW
      go_wp2_with (first | (go_at_call 48; refine (l6In_c _ _ _ _).mono ?_; rintro e w1 ⟨rfl, rfl⟩) | (go_at_call 49; refine (sGaussSmall_c _ _ _).mono ?_; rintro e w1 ⟨rfl, hb⟩; have hk : Hld W0 w1 := heldM (by (first | ((repeat' with_reducible first | assumption | exact Below.refl _ _ | apply Blw.alloc | apply Blw.drew | apply Blw.drewN | (refine Blw.after ?_ (by assumption)) | (refine Blw.set ?_ (by first | (dsimp only; omega) | (simp; omega)) _)); done) | (repeat' (first | assumption | exact Below.refl _ _ | apply Blw.alloc | apply Blw.drew | apply Blw.drewN | (refine Blw.after ?_ (by assumption)) | (refine Blw.set ?_ (by first | (dsimp only; omega) | (simp; done) | (simp; omega)) _))))); have hk1 := hk.1))
      exact bodyPost_ret (v := .tuple #[pr 0 0, pr 0 0, .bool false]) (by simp [results, Tryd.results20, go_sem, *]) rfl ⟨by rw [HV.out], by (first | ((repeat' with_reducible first | assumption | exact Below.refl _ _ | apply Blw.alloc | apply Blw.drew | apply Blw.drewN | (refine Blw.after ?_ (by assumption)) | (refine Blw.set ?_ (by first | (dsimp only; omega) | (simp; omega)) _)); done) | (repeat' (first | assumption | exact Below.refl _ _ | apply Blw.alloc | apply Blw.drew | apply Blw.drewN | (refine Blw.after ?_ (by assumption)) | (refine Blw.set ?_ (by first | (dsimp only; omega) | (simp; done) | (simp; omega)) _))))⟩
  · have HV := Lib.hid (spV_no (a := a) (x := x) (y := y) (by unfold okT; rw [h1]; rfl))
    go_enter Tryd.func20, Tryd.ntmps20
    go_wp2_with fail
    generalize hW : World.alloc _ _ = W0
    have kW0_29 : W0.cell? ⟨w.heap.size, 0, none⟩ = some (.int .i64 (x)) := by rw [← hW]; clear hW; first | (go_simp; done) | ((repeat refine keepcell ((Below.refl _ _).alloc (Nat.le_refl _) _) ?_); go_simp; done) | (simp only [frozen?_alloc_cells]; go_simp; done)
    have zW0_29 : W0.frozen? ⟨w.heap.size, 0, none⟩ = false := by rw [← hW]; clear hW; first | (go_simp; done) | ((repeat refine keepcell ((Below.refl _ _).alloc (Nat.le_refl _) _) ?_); go_simp; done) | (simp only [frozen?_alloc_cells]; go_simp; done)
    have kW0_30 : W0.cell? ⟨w.heap.size, 1, none⟩ = some (.int .i64 (y)) := by rw [← hW]; clear hW; first | (go_simp; done) | ((repeat refine keepcell ((Below.refl _ _).alloc (Nat.le_refl _) _) ?_); go_simp; done) | (simp only [frozen?_alloc_cells]; go_simp; done)
    have zW0_30 : W0.frozen? ⟨w.heap.size, 1, none⟩ = false := by rw [← hW]; clear hW; first | (go_simp; done) | ((repeat refine keepcell ((Below.refl _ _).alloc (Nat.le_refl _) _) ?_); go_simp; done) | (simp only [frozen?_alloc_cells]; go_simp; done)
    have : w.heap.size < W0.heap.size := World.block_lt_of_cell? W0 ⟨w.heap.size, 0, none⟩ (by assumption)
    have kW0_31 : W0.cell? ⟨w.heap.size + 1, 0, none⟩ = some (.int .i64 (0)) := by rw [← hW]; clear hW; first | (go_simp; done) | ((repeat refine keepcell ((Below.refl _ _).alloc (Nat.le_refl _) _) ?_); go_simp; done) | (simp only [frozen?_alloc_cells]; go_simp; done)
    have zW0_31 : W0.frozen? ⟨w.heap.size + 1, 0, none⟩ = false := by rw [← hW]; clear hW; first | (go_simp; done) | ((repeat refine keepcell ((Below.refl _ _).alloc (Nat.le_refl _) _) ?_); go_simp; done) | (simp only [frozen?_alloc_cells]; go_simp; done)
    have kW0_32 : W0.cell? ⟨w.heap.size + 1, 1, none⟩ = some (.int .i64 (0)) := by rw [← hW]; clear hW; first | (go_simp; done) | ((repeat refine keepcell ((Below.refl _ _).alloc (Nat.le_refl _) _) ?_); go_simp; done) | (simp only [frozen?_alloc_cells]; go_simp; done)
    have zW0_32 : W0.frozen? ⟨w.heap.size + 1, 1, none⟩ = false := by rw [← hW]; clear hW; first | (go_simp; done) | ((repeat refine keepcell ((Below.refl _ _).alloc (Nat.le_refl _) _) ?_); go_simp; done) | (simp only [frozen?_alloc_cells]; go_simp; done)
    have : w.heap.size + 1 < W0.heap.size := World.block_lt_of_cell? W0 ⟨w.heap.size + 1, 0, none⟩ (by assumption)
    have kW0_33 : W0.cell? ⟨w.heap.size + 2, 0, none⟩ = some (.int .i64 (0)) := by rw [← hW]; clear hW; first | (go_simp; done) | ((repeat refine keepcell ((Below.refl _ _).alloc (Nat.le_refl _) _) ?_); go_simp; done) | (simp only [frozen?_alloc_cells]; go_simp; done)
    have zW0_33 : W0.frozen? ⟨w.heap.size + 2, 0, none⟩ = false := by rw [← hW]; clear hW; first | (go_simp; done) | ((repeat refine keepcell ((Below.refl _ _).alloc (Nat.le_refl _) _) ?_); go_simp; done) | (simp only [frozen?_alloc_cells]; go_simp; done)
    have kW0_34 : W0.cell? ⟨w.heap.size + 2, 1, none⟩ = some (.int .i64 (0)) := by rw [← hW]; clear hW; first | (go_simp; done) | ((repeat refine keepcell ((Below.refl _ _).alloc (Nat.le_refl _) _) ?_); go_simp; done) | (simp only [frozen?_alloc_cells]; go_simp; done)
    have zW0_34 : W0.frozen? ⟨w.heap.size + 2, 1, none⟩ = false := by rw [← hW]; clear hW; first | (go_simp; done) | ((repeat refine keepcell ((Below.refl _ _).alloc (Nat.le_refl _) _) ?_); go_simp; done) | (simp only [frozen?_alloc_cells]; go_simp; done)
    have : w.heap.size + 2 < W0.heap.size := World.block_lt_of_cell? W0 ⟨w.heap.size + 2, 0, none⟩ (by assumption)
    have hBW0 : Below w.heap.size w W0 := by rw [← hW]; (first | ((repeat' with_reducible first | assumption | exact Below.refl _ _ | apply Blw.alloc | apply Blw.drew | apply Blw.drewN | (refine Blw.after ?_ (by assumption)) | (refine Blw.set ?_ (by first | (dsimp only; omega) | (simp; omega)) _)); done) | (repeat' (first | assumption | exact Below.refl _ _ | apply Blw.alloc | apply Blw.drew | apply Blw.drewN | (refine Blw.after ?_ (by assumption)) | (refine Blw.set ?_ (by first | (dsimp only; omega) | (simp; done) | (simp; omega)) _))))
    have hsW0 := hBW0.size
    clear hW
    go_wp2_with (first | (go_at_call 48; refine (l6In_c _ _ _ _).mono ?_; rintro e w1 ⟨rfl, rfl⟩) | (go_at_call 49; refine (sGaussSmall_c _ _ _).mono ?_; rintro e w1 ⟨rfl, hb⟩; have hk : Hld W0 w1 := heldM (by (first | ((repeat' with_reducible first | assumption | exact Below.refl _ _ | apply Blw.alloc | apply Blw.drew | apply Blw.drewN | (refine Blw.after ?_ (by assumption)) | (refine Blw.set ?_ (by first | (dsimp only; omega) | (simp; omega)) _)); done) | (repeat' (first | assumption | exact Below.refl _ _ | apply Blw.alloc | apply Blw.drew | apply Blw.drewN | (refine Blw.after ?_ (by assumption)) | (refine Blw.set ?_ (by first | (dsimp only; omega) | (simp; done) | (simp; omega)) _))))); have hk1 := hk.1))
    exact bodyPost_ret (v := .tuple #[pr 0 0, pr 0 0, .bool false]) (by simp [results, Tryd.results20, go_sem, *]) rfl ⟨by rw [HV.out], by (first | ((repeat' with_reducible first | assumption | exact Below.refl _ _ | apply Blw.alloc | apply Blw.drew | apply Blw.drewN | (refine Blw.after ?_ (by assumption)) | (refine Blw.set ?_ (by first | (dsimp only; omega) | (simp; omega)) _)); done) | (repeat' (first | assumption | exact Below.refl _ _ | apply Blw.alloc | apply Blw.drew | apply Blw.drewN | (refine Blw.after ?_ (by assumption)) | (refine Blw.set ?_ (by first | (dsimp only; omega) | (simp; done) | (simp; omega)) _))))⟩
set_option maxRecDepth 100000 in
set_option maxHeartbeats 2000000 in
theorem sTileHas_c (a x y : Int) (w : World) : Calls Tryd.prog 16 #[.int .i64 a, pr x y] w fun e w' => e = .returned (.bool (hasT a x y)) ∧ Below w.heap.size w w' := by
  rcases Bool.eq_false_or_eq_true (inR 0 12 a) with h1 | h1
  · rcases Bool.eq_false_or_eq_true (inB 1000000 x y) with h2 | h2
    · have hk : okT a x y = true := by unfold okT; rw [h1, h2]; rfl
      have HV := Lib.hid (show hasT a x y = (decide ((qn a.toNat (x, y)).1 = 0) && decide ((qn a.toNat (x, y)).2 = 0)) by
        unfold hasT; rw [hk, Bool.true_and, Bool.eq_iff_iff]
        simp only [Bool.and_eq_true, decide_eq_true_eq]
        exact ⟨fun h => by rw [h]; exact ⟨rfl, rfl⟩, fun h => Prod.ext h.1 h.2⟩)
      have H1 := inR_le h1
      have H2 := inB_le h2
      obtain ⟨n, rfl⟩ : ∃ n : Nat, a = (n : Int) := ⟨a.toNat, by omega⟩
      rw [Int.toNat_natCast] at HV
      have HT := Lib.hid (fun w => l6tTail_c x y n w (by omega) ⟨by omega, by omega⟩)
      generalize (qn n (x, y)).1 = X at *
      generalize (qn n (x, y)).2 = Y at *
      by_cases hX : X = 0
      all_goals by_cases hY : Y = 0
      all_goals
        (try subst hX)
        (try subst hY)
        go_enter Tryd.func16, Tryd.ntmps16
        go_wp2_with fail
        generalize hW : World.alloc _ _ = W0
        have kW0_35 : W0.cell? ⟨w.heap.size, 0, none⟩ = some (.int .i64 (x)) := by rw [← hW]; clear hW; first | (go_simp; done) | ((repeat refine keepcell ((Below.refl _ _).alloc (Nat.le_refl _) _) ?_); go_simp; done) | (simp only [frozen?_alloc_cells]; go_simp; done)
        have zW0_35 : W0.frozen? ⟨w.heap.size, 0, none⟩ = false := by rw [← hW]; clear hW; first | (go_simp; done) | ((repeat refine keepcell ((Below.refl _ _).alloc (Nat.le_refl _) _) ?_); go_simp; done) | (simp only [frozen?_alloc_cells]; go_simp; done)
        have kW0_36 : W0.cell? ⟨w.heap.size, 1, none⟩ = some (.int .i64 (y)) := by rw [← hW]; clear hW; first | (go_simp; done) | ((repeat refine keepcell ((Below.refl _ _).alloc (Nat.le_refl _) _) ?_); go_simp; done) | (simp only [frozen?_alloc_cells]; go_simp; done)
        have zW0_36 : W0.frozen? ⟨w.heap.size, 1, none⟩ = false := by rw [← hW]; clear hW; first | (go_simp; done) | ((repeat refine keepcell ((Below.refl _ _).alloc (Nat.le_refl _) _) ?_); go_simp; done) | (simp only [frozen?_alloc_cells]; go_simp; done)
        have : w.heap.size < W0.heap.size := World.block_lt_of_cell? W0 ⟨w.heap.size, 0, none⟩ (by assumption)
        have hBW0 : Below w.heap.size w W0 := by rw [← hW]; (first | ((repeat' with_reducible first | assumption | exact Below.refl _ _ | apply Blw.alloc | apply Blw.drew | apply Blw.drewN | (refine Blw.after ?_ (by assumption)) | (refine Blw.set ?_ (by first | (dsimp only; omega) | (simp; omega)) _)); done) | (repeat' (first | assumption | exact Below.refl _ _ | apply Blw.alloc | apply Blw.drew | apply Blw.drewN | (refine Blw.after ?_ (by assumption)) | (refine Blw.set ?_ (by first | (dsimp only; omega) | (simp; done) | (simp; omega)) _))))
        have hsW0 := hBW0.size
        clear hW
        go_wp2_with (first|(go_at_call 48; refine (l6In_c _ _ _ _).mono ?_; rintro e w1 ⟨rfl, rfl⟩)|(go_at_call 49; refine (sGaussSmall_c _ _ _).mono ?_; rintro e w1 ⟨rfl, hb⟩; have hk : Hld W0 w1 := heldM (by (first | ((repeat' with_reducible first | assumption | exact Below.refl _ _ | apply Blw.alloc | apply Blw.drew | apply Blw.drewN | (refine Blw.after ?_ (by assumption)) | (refine Blw.set ?_ (by first | (dsimp only; omega) | (simp; omega)) _)); done) | (repeat' (first | assumption | exact Below.refl _ _ | apply Blw.alloc | apply Blw.drew | apply Blw.drewN | (refine Blw.after ?_ (by assumption)) | (refine Blw.set ?_ (by first | (dsimp only; omega) | (simp; done) | (simp; omega)) _))))); have hk1 := hk.1))
        refine (HT.out _).mono ?_
        rintro e wA ⟨rfl, hbwA⟩
        have hkwA : Hld W0 wA := heldM (by (first | ((repeat' with_reducible first | assumption | exact Below.refl _ _ | apply Blw.alloc | apply Blw.drew | apply Blw.drewN | (refine Blw.after ?_ (by assumption)) | (refine Blw.set ?_ (by first | (dsimp only; omega) | (simp; omega)) _)); done) | (repeat' (first | assumption | exact Below.refl _ _ | apply Blw.alloc | apply Blw.drew | apply Blw.drewN | (refine Blw.after ?_ (by assumption)) | (refine Blw.set ?_ (by first | (dsimp only; omega) | (simp; done) | (simp; omega)) _)))))
        have hlwA := hkwA.1
        have hswA := hkwA.2.2.2
        try (have : w.heap.size < wA.heap.size := by omega)
        go_wp2_with fail
        go_ret
        exact ⟨by rw [HV.out]; simp [*], by (first | ((repeat' with_reducible first | assumption | exact Below.refl _ _ | apply Blw.alloc | apply Blw.drew | apply Blw.drewN | (refine Blw.after ?_ (by assumption)) | (refine Blw.set ?_ (by first | (dsimp only; omega) | (simp; omega)) _)); done) | (repeat' (first | assumption | exact Below.refl _ _ | apply Blw.alloc | apply Blw.drew | apply Blw.drewN | (refine Blw.after ?_ (by assumption)) | (refine Blw.set ?_ (by first | (dsimp only; omega) | (simp; done) | (simp; omega)) _))))⟩
    · have HV := Lib.hid (show hasT a x y = false by unfold hasT okT; rw [h1, h2]; rfl)
      go_enter Tryd.func16, Tryd.ntmps16
      go_wp2_with fail
      generalize hW : World.alloc _ _ = W0
      have kW0_37 : W0.cell? ⟨w.heap.size, 0, none⟩ = some (.int .i64 (x)) := by rw [← hW]; clear hW; first | (go_simp; done) | ((repeat refine keepcell ((Below.refl _ _).alloc (Nat.le_refl _) _) ?_); go_simp; done) | (simp only [frozen?_alloc_cells]; go_simp; done)
      have zW0_37 : W0.frozen? ⟨w.heap.size, 0, none⟩ = false := by rw [← hW]; clear hW; first | (go_simp; done) | ((repeat refine keepcell ((Below.refl _ _).alloc (Nat.le_refl _) _) ?_); go_simp; done) | (simp only [frozen?_alloc_cells]; go_simp; done)
      have kW0_38 : W0.cell? ⟨w.heap.size, 1, none⟩ = some (.int .i64 (y)) := by rw [← hW]; clear hW; first | (go_simp; done) | ((repeat refine keepcell ((Below.refl _ _).alloc (Nat.le_refl _) _) ?_); go_simp; done) | (simp only [frozen?_alloc_cells]; go_simp; done)
      have zW0_38 : W0.frozen? ⟨w.heap.size, 1, none⟩ = false := by rw [← hW]; clear hW; first | (go_simp; done) | ((repeat refine keepcell ((Below.refl _ _).alloc (Nat.le_refl _) _) ?_); go_simp; done) | (simp only [frozen?_alloc_cells]; go_simp; done)
      have : w.heap.size < W0.heap.size := World.block_lt_of_cell? W0 ⟨w.heap.size, 0, none⟩ (by assumption)
      have hBW0 : Below w.heap.size w W0 := by rw [← hW]; (first | ((repeat' with_reducible first | assumption | exact Below.refl _ _ | apply Blw.alloc | apply Blw.drew | apply Blw.drewN | (refine Blw.after ?_ (by assumption)) | (refine Blw.set ?_ (by first | (dsimp only; omega) | (simp; omega)) _)); done) | (repeat' (first | assumption | exact Below.refl _ _ | apply Blw.alloc | apply Blw.drew | apply Blw.drewN | (refine Blw.after ?_ (by assumption)) | (refine Blw.set ?_ (by first | (dsimp only; omega) | (simp; done) | (simp; omega)) _))))
      have hsW0 := hBW0.size
      clear hW
      go_wp2_with (first | (go_at_call 48; refine (l6In_c _ _ _ _).mono ?_; rintro e w1 ⟨rfl, rfl⟩) | (go_at_call 49; refine (sGaussSmall_c _ _ _).mono ?_; rintro e w1 ⟨rfl, hb⟩; have hk : Hld W0 w1 := heldM (by (first | ((repeat' with_reducible first | assumption | exact Below.refl _ _ | apply Blw.alloc | apply Blw.drew | apply Blw.drewN | (refine Blw.after ?_ (by assumption)) | (refine Blw.set ?_ (by first | (dsimp only; omega) | (simp; omega)) _)); done) | (repeat' (first | assumption | exact Below.refl _ _ | apply Blw.alloc | apply Blw.drew | apply Blw.drewN | (refine Blw.after ?_ (by assumption)) | (refine Blw.set ?_ (by first | (dsimp only; omega) | (simp; done) | (simp; omega)) _))))); have hk1 := hk.1))
      go_ret
      exact ⟨by rw [HV.out]; rfl, by (first | ((repeat' with_reducible first | assumption | exact Below.refl _ _ | apply Blw.alloc | apply Blw.drew | apply Blw.drewN | (refine Blw.after ?_ (by assumption)) | (refine Blw.set ?_ (by first | (dsimp only; omega) | (simp; omega)) _)); done) | (repeat' (first | assumption | exact Below.refl _ _ | apply Blw.alloc | apply Blw.drew | apply Blw.drewN | (refine Blw.after ?_ (by assumption)) | (refine Blw.set ?_ (by first | (dsimp only; omega) | (simp; done) | (simp; omega)) _))))⟩
  · have HV := Lib.hid (show hasT a x y = false by unfold hasT okT; rw [h1]; rfl)
    go_enter Tryd.func16, Tryd.ntmps16
    go_wp2_with fail
    generalize hW : World.alloc _ _ = W0
    have kW0_39 : W0.cell? ⟨w.heap.size, 0, none⟩ = some (.int .i64 (x)) := by rw [← hW]; clear hW; first | (go_simp; done) | ((repeat refine keepcell ((Below.refl _ _).alloc (Nat.le_refl _) _) ?_); go_simp; done) | (simp only [frozen?_alloc_cells]; go_simp; done)
    have zW0_39 : W0.frozen? ⟨w.heap.size, 0, none⟩ = false := by rw [← hW]; clear hW; first | (go_simp; done) | ((repeat refine keepcell ((Below.refl _ _).alloc (Nat.le_refl _) _) ?_); go_simp; done) | (simp only [frozen?_alloc_cells]; go_simp; done)
    have kW0_40 : W0.cell? ⟨w.heap.size, 1, none⟩ = some (.int .i64 (y)) := by rw [← hW]; clear hW; first | (go_simp; done) | ((repeat refine keepcell ((Below.refl _ _).alloc (Nat.le_refl _) _) ?_); go_simp; done) | (simp only [frozen?_alloc_cells]; go_simp; done)
    have zW0_40 : W0.frozen? ⟨w.heap.size, 1, none⟩ = false := by rw [← hW]; clear hW; first | (go_simp; done) | ((repeat refine keepcell ((Below.refl _ _).alloc (Nat.le_refl _) _) ?_); go_simp; done) | (simp only [frozen?_alloc_cells]; go_simp; done)
    have : w.heap.size < W0.heap.size := World.block_lt_of_cell? W0 ⟨w.heap.size, 0, none⟩ (by assumption)
    have hBW0 : Below w.heap.size w W0 := by rw [← hW]; (first | ((repeat' with_reducible first | assumption | exact Below.refl _ _ | apply Blw.alloc | apply Blw.drew | apply Blw.drewN | (refine Blw.after ?_ (by assumption)) | (refine Blw.set ?_ (by first | (dsimp only; omega) | (simp; omega)) _)); done) | (repeat' (first | assumption | exact Below.refl _ _ | apply Blw.alloc | apply Blw.drew | apply Blw.drewN | (refine Blw.after ?_ (by assumption)) | (refine Blw.set ?_ (by first | (dsimp only; omega) | (simp; done) | (simp; omega)) _))))
    have hsW0 := hBW0.size
    clear hW
    go_wp2_with (first | (go_at_call 48; refine (l6In_c _ _ _ _).mono ?_; rintro e w1 ⟨rfl, rfl⟩) | (go_at_call 49; refine (sGaussSmall_c _ _ _).mono ?_; rintro e w1 ⟨rfl, hb⟩; have hk : Hld W0 w1 := heldM (by (first | ((repeat' with_reducible first | assumption | exact Below.refl _ _ | apply Blw.alloc | apply Blw.drew | apply Blw.drewN | (refine Blw.after ?_ (by assumption)) | (refine Blw.set ?_ (by first | (dsimp only; omega) | (simp; omega)) _)); done) | (repeat' (first | assumption | exact Below.refl _ _ | apply Blw.alloc | apply Blw.drew | apply Blw.drewN | (refine Blw.after ?_ (by assumption)) | (refine Blw.set ?_ (by first | (dsimp only; omega) | (simp; done) | (simp; omega)) _))))); have hk1 := hk.1))
    go_ret
    exact ⟨by rw [HV.out]; rfl, by (first | ((repeat' with_reducible first | assumption | exact Below.refl _ _ | apply Blw.alloc | apply Blw.drew | apply Blw.drewN | (refine Blw.after ?_ (by assumption)) | (refine Blw.set ?_ (by first | (dsimp only; omega) | (simp; omega)) _)); done) | (repeat' (first | assumption | exact Below.refl _ _ | apply Blw.alloc | apply Blw.drew | apply Blw.drewN | (refine Blw.after ?_ (by assumption)) | (refine Blw.set ?_ (by first | (dsimp only; omega) | (simp; done) | (simp; omega)) _))))⟩
end Go.Proofs.YtaleeoghifcadaaDoor

namespace Go.Proofs.YtaleeoghifcadaaDoor
set_option linter.unusedSimpArgs false
set_option linter.unusedVariables false
open Go.RowKit

/-- a list of a call's own -/
def OwnG (B : Nat) (v : Value) (l : List ZZ) (w : World) : Prop :=
  ∃ a c, v = .slice a l.length c ∧ GSl a l w ∧ (l = [] ∨ ∃ g, a = some ⟨g, 0, none⟩ ∧ B ≤ g ∧ g < w.heap.size ∧ ∀ j, w.frozen? ⟨g, j, none⟩ = false)
noncomputable def ptsT (a : Int) : List ZZ := if inR 0 8 a = true then allT a.toNat else []
def PtsPost (a : Int) (w : World) (e : Ending) (w' : World) : Prop := ∃ v, e = .returned (.tuple #[v, .bool (inR 0 8 a)]) ∧ OwnG w.heap.size v (ptsT a) w' ∧ Below w.heap.size w w'
theorem allT_in {n : Nat} (h : n ≤ 8) : ∀ z ∈ allT n, z.1.natAbs ≤ 200 ∧ z.2.natAbs ≤ 200 := by
  rw [allT_tp h]
  intro z hz
  obtain ⟨i, hi, rfl⟩ := List.mem_map.1 hz
  exact tp_in h (List.mem_range.1 hi)
def midL (L : List ZZ) (p : ZZ) (k : Nat) : List ZZ := L ++ (L.take k).map (fun z => addP z p)
theorem midL_zero (L : List ZZ) (p : ZZ) : midL L p 0 = L := by simp [midL]
theorem midL_all (L : List ZZ) (p : ZZ) : midL L p L.length = L ++ L.map (fun z => addP z p) := by simp [midL]
theorem midL_succ (L : List ZZ) (p : ZZ) (k : Nat) (h : k < L.length) : midL L p (k + 1) = midL L p k ++ [(L[k].1 + p.1, L[k].2 + p.2)] := by
  unfold midL
  rw [List.take_add_one, List.getElem?_eq_getElem h, List.map_append, List.append_assoc]; rfl
theorem midL_len (L : List ZZ) (p : ZZ) (k : Nat) (h : k ≤ L.length) : (midL L p k).length = L.length + k := by
  simp [midL]; omega
def AllRel (n : Nat) (w : World) (m : Nat) (v i : Value) (wr : World) : Prop :=
  ∃ k g cap : Nat, k + m = n ∧ i = .int .i64 k ∧ v = .slice (some ⟨g, 0, none⟩) (allT k).length cap ∧ wr.ownsRow w.heap.size 24 2 v (allT k).length (gcells (allT k)) ∧ g ≠ w.heap.size + 1 ∧ Own2 wr (w.heap.size + 1) (bpw k).1 (bpw k).2 ∧ Below w.heap.size w wr
def MidRel (L : List ZZ) (p : ZZ) (w : World) (m : Nat) (v i : Value) (wr : World) : Prop :=
  ∃ k g cap N : Nat, k + m = L.length ∧ N = L.length + k ∧ i = .int .i64 k ∧ v = .slice (some ⟨g, 0, none⟩) N cap ∧ wr.ownsRow w.heap.size 24 2 v N (gcells (midL L p k)) ∧ g ≠ w.heap.size + 1 ∧ Own2 wr (w.heap.size + 1) p.1 p.2 ∧ Below w.heap.size w wr
theorem gget {L : List ZZ} {p : ZZ} {k j : Nat} (hj : j < L.length) : (gcells (midL L p k))[j * 2]? = some (.int .i64 L[j].1) ∧ (gcells (midL L p k))[j * 2 + 1]? = some (.int .i64 L[j].2) :=
  gcells_at _ j L[j].1 L[j].2 (by unfold midL; rw [List.getElem?_append_left hj, List.getElem?_eq_getElem hj])
theorem own_setNe {w : World} {B e n sz g n' cap : Nat} {xs : List Value} (h : w.ownsRow B e sz (.slice (some ⟨g, 0, none⟩) n' cap) n xs) {a : Addr} (ha : g ≠ a.block) (u : Value) : (w.setCell a u).ownsRow B e sz (.slice (some ⟨g, 0, none⟩) n' cap) n xs := by
  refine ⟨h.1, h.2.imp id ?_⟩
  rintro ⟨g', cap', cur, h1, h2, h3, h4⟩
  have e1 : g = g' := by simp only [Value.slice.injEq, Option.some.injEq, Addr.mk.injEq, and_true] at h1; exact h1.1
  exact ⟨g', cap', cur, h1, h2, (Below.heap_setCell _ _ _ _ (by rw [← e1]; exact ha)).trans h3, h4⟩
set_option maxRecDepth 100000 in
/-- what an append leaves of the old row -/
theorem append_keep2 (w : World) (t ty : TypeId) (B : Nat) (e : TypeId) (i : TypeInfo) (z : Value) (bytes : Nat) (ht : Tryd.prog.underlying t = some (.slice e)) (hi : Tryd.prog.info? e = some i) (hz : i.zero = some z)
    (hsize : i.size = 2) (hby : i.bytes = bytes) (hzs : z.cells.size = 2) (g n cap : Nat) (xs : List Value) (hown : w.ownsRow B e 2 (.slice (some ⟨g, 0, none⟩) n cap) n xs) (hn : 0 < n)
    (a : Addr) (m c : Nat) (news : List Value) (hl : news.length = m * 2) (hnews : ∀ j u, news[j]? = some u → w.cell? (a.add j) = some u) (h1 : ∀ u ∈ news, u.oneCell' = true) (hm : 0 < m)
    (h63 : n + m ≤ maxLen) (hbytes : (n + m) * bytes ≤ 140737488355328) (hbase : B ≤ w.heap.size) :
    ∃ g' cap' w', (Builtin.append_ #[t, t] ty #[.slice (some ⟨g, 0, none⟩) n cap, .slice (some a) m c]).run Tryd.prog w = .ok (.slice (some ⟨g', 0, none⟩) (n + m) cap') w' ∧ w'.ownsRow B e 2 (.slice (some ⟨g', 0, none⟩) (n + m) cap') (n + m) (xs ++ news) ∧ w.grownBy w' (some g) ∧ (∀ j, j < n * 2 → w'.cell? ⟨g, j, none⟩ = w.cell? ⟨g, j, none⟩) ∧ (g' = g ∨ g' = w.heap.size) := by
  obtain ⟨g', cap', w', hr, h2, h3, h4, _⟩ := run_append_lies (P := Tryd.prog) w t ty B e i z 2 bytes ht hi hz hsize hby hzs (by decide) _ n xs hown a m c news hl hnews h1 hm h63 hbytes hbase w.heap.size rfl
  refine ⟨g', cap', w', hr, h2, h3, fun j hj => ?_, h4.imp (fun h => by have h9 : some g = some g' := h; exact (Option.some.inj h9).symm) id⟩
  have hmx : n + m ≤ 9223372036854775807 := by simp only [maxLen] at h63; omega
  have hgl := (hown.lt g rfl).2
  obtain ⟨cap0, cur, he, hg, hcs⟩ : ∃ (cap0 : Nat) (cur : Array Value), cap0 = cap ∧ w.heap[g]? = some (.cells cur e (0, 0)) ∧ cur.size = cap * 2 := by
    rcases hown.2 with ⟨h0, _⟩ | ⟨g', cap', cur, h1', _, hg, _, _, hcs, _⟩
    · cases h0
    · simp only [Value.slice.injEq, Option.some.injEq, Addr.mk.injEq, and_true, true_and] at h1'
      obtain ⟨rfl, rfl⟩ := h1'
      exact ⟨_, cur, rfl, hg, hcs⟩
  subst he
  have hxs : xs[j]? = w.cell? ⟨g, j, none⟩ := (hown.cellAt j (by omega)).symm
  by_cases hroom : n + m ≤ cap0
  · have hr2 := run_append_room (P := Tryd.prog) w t ty e i ht hi g n cap0 cur hg a m c news (by rw [hsize]; exact hl) hnews h1 hroom (by rw [hsize, hl, hcs, ← Nat.add_mul]; exact Nat.mul_le_mul_right _ hroom)
    rw [hr] at hr2
    injection hr2 with e1 e2
    obtain ⟨rfl, -⟩ : g' = g ∧ True := by
      simp only [Value.slice.injEq, Option.some.injEq, Addr.mk.injEq, and_true, true_and] at e1
      exact ⟨e1.1, trivial⟩
    rw [h2.cellAt j (by omega), List.getElem?_append_left (by rw [hown.1]; omega), hxs]
  · have hr2 := run_append_grow (P := Tryd.prog) w t ty e i z ht hi hz ⟨g, 0, none⟩ n cap0 xs (by rw [hsize]; exact hown.1) (hown.cells (g := g) rfl) a m c news (by rw [hsize]; exact hl) hnews (by omega) (by omega) (growslice_fits (by omega) (by rw [hby]; exact hbytes))
    rw [hr] at hr2
    injection hr2 with e1 e2
    have hb : Below w.heap.size w w' := by
      rw [e2]
      exact ((Below.refl w.heap.size w).drew).alloc (Nat.le_refl _) _
    rw [(bcell hb).1 _ _ hgl]
theorem wp_append_keep2 {w : World} {o : Oper} {a : Act} {K : Act → World → Prop} {Q : Exit → Act → World → Prop} (s x : Operand) (t : TypeId)
    (ho : o.op = .call { callee := .builtin .append, args := #[s, x], argTypes := #[t, t] })
    (B : Nat) (e : TypeId) (i : TypeInfo) (z : Value) (bytes : Nat) (ht : Tryd.prog.underlying t = some (.slice e)) (hi : Tryd.prog.info? e = some i) (hz : i.zero = some z)
    (hsize : i.size = 2) (hby : i.bytes = bytes) (hzs : z.cells.size = 2) (g n cap : Nat) (xs : List Value) (hs : a.eval s = .slice (some ⟨g, 0, none⟩) n cap) (hown : w.ownsRow B e 2 (.slice (some ⟨g, 0, none⟩) n cap) n xs) (hn : 0 < n)
    (ad : Addr) (m c : Nat) (news : List Value) (hx : a.eval x = .slice (some ad) m c) (hl : news.length = m * 2) (hnews : ∀ j u, news[j]? = some u → w.cell? (ad.add j) = some u) (h1 : ∀ u ∈ news, u.oneCell' = true) (hm : 0 < m)
    (h63 : n + m ≤ maxLen) (hbytes : (n + m) * bytes ≤ 140737488355328) (hbase : B ≤ w.heap.size)
    (h : ∀ g' cap' w', w'.ownsRow B e 2 (.slice (some ⟨g', 0, none⟩) (n + m) cap') (n + m) (xs ++ news) → w.grownBy w' (some g) → (∀ j, j < n * 2 → w'.cell? ⟨g, j, none⟩ = w.cell? ⟨g, j, none⟩) → (g' = g ∨ g' = w.heap.size) → K (a.put o.dst (.slice (some ⟨g', 0, none⟩) (n + m) cap')) w') : o.wp Tryd.prog a w K Q := by
  obtain ⟨g', cap', w', hr, h2, h3, h4, h5⟩ := append_keep2 w t o.type B e i z bytes ht hi hz hsize hby hzs g n cap xs hown hn ad m c news hl hnews h1 hm h63 hbytes hbase
  unfold Oper.wp execOp
  simp only [ho, resolve, invoke, builtin, Sem.run_bind, Sem.run_pure, Result.andThen_ok, List.map_toArray, List.map_cons, List.map_nil, hs, hx, hr]
  exact h g' cap' w' h2 h3 h4 h5
set_option maxRecDepth 100000 in
set_option maxHeartbeats 8000000 in
theorem l6tAll_c (n : Nat) (w : World) (hn : n ≤ 8) : Calls Tryd.prog 60 #[.int .i64 n] w fun e w' => ∃ v, e = .returned v ∧ OwnG w.heap.size v (allT n) w' ∧ Below w.heap.size w w' := by
  obtain ⟨i0, hi, hz0, hz1, hz2⟩ := info_parts infoG
  go_enter Tryd.func60, Tryd.ntmps60
  go_wp2_with fail
  generalize hW : World.alloc _ _ = W0
  have o1 : Own2 W0 (w.heap.size + 1) 1 0 := by
    rw [← hW]
    have h := Own2.fresh (w.alloc (.cells #[.int .i64 0, .int .i64 0] 24)) 1 0 24
    rw [alloc_size] at h
    exact h
  have r0 : W0.ownsRow w.heap.size 24 2 (.slice (some ⟨w.heap.size, 0, none⟩) 1 1) 1 (gcells [(0, 0)]) := by
    rw [← hW]
    refine own_below ?_ ((Below.refl _ _).alloc (Nat.le_refl _) _)
    exact World.ownsRow_lit w #[.int .i64 0, .int .i64 0] 1 (Nat.le_refl _) (by unfold maxLen; omega) rfl
  have hB0 : Below w.heap.size w W0 := by rw [← hW]; (first | ((repeat' with_reducible first | assumption | exact Below.refl _ _ | apply Blw.alloc | apply Blw.drew | apply Blw.drewN | (refine Blw.after ?_ (by assumption)) | (refine Blw.set ?_ (by first | (dsimp only; omega) | (simp; omega)) _)); done) | (repeat' (first | assumption | exact Below.refl _ _ | apply Blw.alloc | apply Blw.drew | apply Blw.drewN | (refine Blw.after ?_ (by assumption)) | (refine Blw.set ?_ (by first | (dsimp only; omega) | (simp; done) | (simp; omega)) _))))
  clear hW
  go_loopg [3, 5] n (fun m v i wr => AllRel n w m v i wr)
  case atStart => exact ⟨0, w.heap.size, 1, by omega, rfl, rfl, r0, by omega, o1, hB0⟩
  case round =>
    clear o1 r0 hB0
    obtain ⟨k, g, cap, hk, rfl, rfl, hown, hg, O1, hB⟩ := hrel
    have zr := hB.size
    obtain ⟨gk0, hgk0⟩ : ∃ gk0, gk0 = gk := ⟨_, rfl⟩
    have HGK := Lib.hid hgk0
    rw [← hgk0] at hk
    clear hgk0
    by_cases hlt : k < n
    · have HS := Lib.hid (show allT (k + 1) = allT k ++ (allT k).map (fun z => addP z (bpw k)) from rfl)
      have hLl := allT_len k
      have hL1 : 1 ≤ (allT k).length := by rw [hLl]; exact Nat.one_le_two_pow
      have hL2 : (allT k).length ≤ 256 := by
        rw [hLl]
        have h1 : 2 ^ k ≤ 2 ^ 8 := Nat.pow_le_pow_right (by omega) (by omega)
        have h2 : (2 : Nat) ^ 8 = 256 := by decide
        omega
      have HLI := Lib.hid (allT_in (n := k) (by omega))
      have hb := bpw_in (n := k) (by omega)
      have HBN := Lib.hid (show bpw (k + 1) = (-(bpw k).1 - (bpw k).2, (bpw k).1 - (bpw k).2) by show sd (bpw k) 0 = _; simp [sd])
      generalize allT k = L at *
      generalize bpw k = p at *
      obtain ⟨A, C⟩ := p
      dsimp only at *
      have n1 : -4096 ≤ A ∧ A ≤ 4096 ∧ -4096 ≤ C ∧ C ≤ 4096 := by omega
      have S0 := Lib.hid (show MidRel L (A, C) w L.length (.slice (some ⟨g, 0, none⟩) L.length cap) (.int .i64 0) wr from ⟨0, g, cap, L.length, by omega, by omega, rfl, rfl, by rw [midL_zero]; exact hown, hg, O1, hB⟩)
      clear hb hLl hown O1 hB hg
      go_wp2_with fail
      go_loopg [3, 7] L.length (fun m v i wr => MidRel L (A, C) w m v i wr)
      case atStart => exact S0.out
      case round =>
        clear S0
        obtain ⟨j, g, cap, N, hj, hN, rfl, rfl, hown, hg, O1, hB⟩ := hrel
        have zr := hB.size
        by_cases hlt2 : j < L.length
        · have hc := gget (L := L) (p := (A, C)) (k := j) hlt2
          have c0 : wr.cell? ⟨g, j * 2, none⟩ = some (.int .i64 L[j].1) := (hown.cellAt _ (by omega)).trans hc.1
          have c1 : wr.cell? ⟨g, j * 2 + 1, none⟩ = some (.int .i64 L[j].2) := (hown.cellAt _ (by omega)).trans hc.2
          have hx := HLI.out L[j] (List.getElem_mem hlt2)
          have HMS := Lib.hid (midL_succ L (A, C) j hlt2)
          have HML := Lib.hid (midL_len L (A, C) j (by omega))
          have HO := Lib.hid hown
          have HJ := Lib.hid (show j + 1 + (gk - 1) = L.length by omega)
          have HN := Lib.hid hN
          have hNb : N ≤ 512 := by omega
          have hgk : 1 ≤ gk := by omega
          have hjN : j < N := by omega
          clear hc hown hj hN
          generalize L[j].1 = X at *
          generalize L[j].2 = Y at *
          have n2 : -200 ≤ X ∧ X ≤ 200 ∧ -200 ≤ Y ∧ Y ≤ 200 := by omega
          clear hx
          generalize hMM : midL L (A, C) j = M at *
          clear hMM
          go_upto_region 10 with fail
          have hd : Below wr.heap.size wr wr.drew := (Below.refl _ _).drew
          refine wp_region_held_drew (S := fun w' => w'.cell? ⟨g, j * 2, none⟩ = some (.int .i64 X) ∧ w'.cell? ⟨g, j * 2 + 1, none⟩ = some (.int .i64 Y) ∧ Own2 w' (w.heap.size + 1) A C) (by kernel_rfl) ⟨keepcell hd c0, keepcell hd c1, O1.below hd O1.lt⟩ ?_
          intro hS0
          have HOd := Lib.hid (own_below HO.out hd)
          have hBd : Below w.heap.size w wr.drew := Blw.after hB hd
          have zd : w.heap.size ≤ wr.drew.heap.size := hBd.size
          generalize wr.drew = V0 at *
          clear hd c0 c1 HO hB O1
          refine wpAnyH_take (i := 1) (v := ?_) rfl (by kernel_rfl) (by kernel_rfl) (by kernel_rfl) (fun _ _ _ h => h) (Or.inl ⟨by rfl, ?_⟩) hS0 ?_
          case refine_1 => exact Value.slice (some ⟨g, 0, none⟩) N cap
          · intro wq hSw; go_simp
          refine wpAnyH_take (i := 2) (v := ?_) rfl (by kernel_rfl) (by kernel_rfl) (by kernel_rfl) (fun _ _ _ h => h) (Or.inl ⟨by rfl, ?_⟩) hS0 ?_
          case refine_1 => exact .int .i64 (j : Nat)
          · intro wq hSw; go_simp
          refine wpAnyH_take (i := 3) (v := ?_) rfl (by kernel_rfl) (by kernel_rfl) (by kernel_rfl) (fun _ _ _ h => h) (Or.inl ⟨by rfl, ?_⟩) hS0 ?_
          case refine_1 => exact .pointer (some ⟨g, j * 2, none⟩)
          · intro wq hSw; go_simp
          refine wpAnyH_take (i := 4) (v := ?_) rfl (by kernel_rfl) (by kernel_rfl) (by kernel_rfl) (fun _ _ _ h => h) (Or.inl ⟨by rfl, ?_⟩) hS0 ?_
          case refine_1 => exact .pointer (some ⟨g, j * 2, none⟩)
          · intro wq hSw; go_simp
          refine wpAnyH_take (i := 5) (v := ?_) rfl (by kernel_rfl) (by kernel_rfl) (by kernel_rfl) (fun _ _ _ h => h) (Or.inl ⟨by rfl, ?_⟩) hS0 ?_
          case refine_1 => exact .int .i64 X
          · rintro wq ⟨hSw, _⟩; go_simp
          refine wpAnyH_take (i := 6) (v := ?_) rfl (by kernel_rfl) (by kernel_rfl) (by kernel_rfl) (fun _ _ _ h => h) (Or.inl ⟨by rfl, ?_⟩) hS0 ?_
          case refine_1 => exact .pointer (some ⟨w.heap.size + 1, 0, none⟩)
          · intro wq hSw; go_simp
          refine wpAnyH_take (i := 7) (v := ?_) rfl (by kernel_rfl) (by kernel_rfl) (by kernel_rfl) (fun _ _ _ h => h) (Or.inl ⟨by rfl, ?_⟩) hS0 ?_
          case refine_1 => exact .int .i64 A
          · rintro wq ⟨_, _, ⟨hSw, _, _, _⟩⟩; go_simp
          refine wpAnyH_take (i := 8) (v := ?_) rfl (by kernel_rfl) (by kernel_rfl) (by kernel_rfl) (fun _ _ _ h => h) (Or.inl ⟨by rfl, ?_⟩) hS0 ?_
          case refine_1 => exact .int .i64 (X + A)
          · intro wq hSw; go_simp; exact IntWalk.i64_in _ (by omega)
          refine wpAnyH_take (i := 9) (v := ?_) rfl (by kernel_rfl) (by kernel_rfl) (by kernel_rfl) (fun _ _ _ h => h) (Or.inl ⟨by rfl, ?_⟩) hS0 ?_
          case refine_1 => exact Value.slice (some ⟨g, 0, none⟩) N cap
          · intro wq hSw; go_simp
          refine wpAnyH_take (i := 10) (v := ?_) rfl (by kernel_rfl) (by kernel_rfl) (by kernel_rfl) (fun _ _ _ h => h) (Or.inl ⟨by rfl, ?_⟩) hS0 ?_
          case refine_1 => exact .int .i64 (j : Nat)
          · intro wq hSw; go_simp
          refine wpAnyH_take (i := 11) (v := ?_) rfl (by kernel_rfl) (by kernel_rfl) (by kernel_rfl) (fun _ _ _ h => h) (Or.inl ⟨by rfl, ?_⟩) hS0 ?_
          case refine_1 => exact .pointer (some ⟨g, j * 2, none⟩)
          · intro wq hSw; go_simp
          refine wpAnyH_take (i := 12) (v := ?_) rfl (by kernel_rfl) (by kernel_rfl) (by kernel_rfl) (fun _ _ _ h => h) (Or.inl ⟨by rfl, ?_⟩) hS0 ?_
          case refine_1 => exact .pointer (some ⟨g, j * 2 + 1, none⟩)
          · intro wq hSw; go_simp
          refine wpAnyH_take (i := 13) (v := ?_) rfl (by kernel_rfl) (by kernel_rfl) (by kernel_rfl) (fun _ _ _ h => h) (Or.inl ⟨by rfl, ?_⟩) hS0 ?_
          case refine_1 => exact .int .i64 Y
          · rintro wq ⟨_, hSw, _⟩; go_simp
          refine wpAnyH_take (i := 14) (v := ?_) rfl (by kernel_rfl) (by kernel_rfl) (by kernel_rfl) (fun _ _ _ h => h) (Or.inl ⟨by rfl, ?_⟩) hS0 ?_
          case refine_1 => exact .pointer (some ⟨w.heap.size + 1, 1, none⟩)
          · intro wq hSw; go_simp
          refine wpAnyH_take (i := 15) (v := ?_) rfl (by kernel_rfl) (by kernel_rfl) (by kernel_rfl) (fun _ _ _ h => h) (Or.inl ⟨by rfl, ?_⟩) hS0 ?_
          case refine_1 => exact .int .i64 C
          · rintro wq ⟨_, _, ⟨_, hSw, _, _⟩⟩; go_simp
          refine wpAnyH_take (i := 16) (v := ?_) rfl (by kernel_rfl) (by kernel_rfl) (by kernel_rfl) (fun _ _ _ h => h) (Or.inl ⟨by rfl, ?_⟩) hS0 ?_
          case refine_1 => exact .int .i64 (Y + C)
          · intro wq hSw; go_simp; exact IntWalk.i64_in _ (by omega)
          refine wpAnyH_take (i := 17) (v := ?_) rfl (by kernel_rfl) (by kernel_rfl) (by kernel_rfl) (fun _ _ _ h => h) (Or.inl ⟨by rfl, ?_⟩) hS0 ?_
          case refine_1 => exact .agg #[.int .i64 (X + A), .int .i64 (Y + C)]
          · intro wq hSw; go_simp
          refine wpAnyH_take (i := 0) (v := ?_) rfl (by kernel_rfl) (by kernel_rfl) (by kernel_rfl) (fun _ _ _ h => h) (Or.inl ⟨by rfl, ?_⟩) hS0 ?_
          rotate_left
          · intro wq hSw; go_simp; rfl
          refine wpAnyH_ready (rs := [18]) (by kernel_rfl) (by simp) ?_
          refine AllReadyH.cons rfl (fun K hK => ?_) AllReadyH.nil
          rw [if_pos ?hw]
          case hw => kernel_rfl
          go_wp2_with fail
          have hk1 : Below V0.heap.size V0 (V0.alloc (.cells #[.int .i64 (X + A), .int .i64 (Y + C)] 24)) := (Below.refl _ _).alloc (Nat.le_refl _) _
          have hS1 : (V0.alloc (.cells #[.int .i64 (X + A), .int .i64 (Y + C)] 24)).cell? ⟨g, j * 2, none⟩ = some (.int .i64 X) ∧ (V0.alloc (.cells #[.int .i64 (X + A), .int .i64 (Y + C)] 24)).cell? ⟨g, j * 2 + 1, none⟩ = some (.int .i64 Y) ∧ Own2 (V0.alloc (.cells #[.int .i64 (X + A), .int .i64 (Y + C)] 24)) (w.heap.size + 1) A C := ⟨keepcell hk1 hS0.1, keepcell hk1 hS0.2.1, hS0.2.2.alloc _⟩
          refine hK.out _ _ hS1 ?_
          clear hK K hk1
          intro _
          refine wpAnyH_ready (rs := [19]) (by kernel_rfl) (by simp) ?_
          refine AllReadyH.cons rfl (fun K hK => ?_) AllReadyH.nil
          rw [if_pos ?hw]
          case hw => kernel_rfl
          refine wp_append_keep2 _ _ 34 rfl w.heap.size 24 i0 (.agg #[.int .i64 0, .int .i64 0]) 16 Tryd.underlying34 hi hz0 hz1 hz2 rfl g N cap _ rfl (HOd.out.alloc _) (by omega) ⟨V0.heap.size, 0, none⟩ 1 1 [.int .i64 (X + A), .int .i64 (Y + C)] rfl rfl (cells2 _ _ _ _) (two1 _ _ rfl rfl) (by omega) (by unfold maxLen; omega) (by omega) (by simp; omega) ?_
          intro g' cap' W7 hown' hgrow hkeep hg'
          have hpb := hS1.2.2.lt
          have hB7 : Below w.heap.size w W7 := Below.grown (by (first | ((repeat' with_reducible first | assumption | exact Below.refl _ _ | apply Blw.alloc | apply Blw.drew | apply Blw.drewN | (refine Blw.after ?_ (by assumption)) | (refine Blw.set ?_ (by first | (dsimp only; omega) | (simp; omega)) _)); done) | (repeat' (first | assumption | exact Below.refl _ _ | apply Blw.alloc | apply Blw.drew | apply Blw.drewN | (refine Blw.after ?_ (by assumption)) | (refine Blw.set ?_ (by first | (dsimp only; omega) | (simp; done) | (simp; omega)) _))))) hgrow (by simp; omega) (fun k hk => by cases hk; exact (HOd.out.lt g rfl).1)
          have hS7 : W7.cell? ⟨g, j * 2, none⟩ = some (.int .i64 X) ∧ W7.cell? ⟨g, j * 2 + 1, none⟩ = some (.int .i64 Y) ∧ Own2 W7 (w.heap.size + 1) A C :=
            ⟨(hkeep _ (by omega)).trans hS1.1, (hkeep _ (by omega)).trans hS1.2.1, ⟨hgrow.cell hS1.2.2.c0 (fun e => hg (Option.some.inj e).symm), hgrow.cell hS1.2.2.c1 (fun e => hg (Option.some.inj e).symm), (World.frozen?_of_block (hgrow.block _ hpb (fun e => hg (Option.some.inj e).symm))).trans hS1.2.2.f0, (World.frozen?_of_block (hgrow.block _ hpb (fun e => hg (Option.some.inj e).symm))).trans hS1.2.2.f1⟩⟩
          have HO7 := Lib.hid hown'
          have HG7 := Lib.hid (show g' ≠ w.heap.size + 1 from by
            rcases hg' with h | h
            · rw [h]; exact hg
            · have := hS0.2.2.lt; rw [alloc_size] at h; omega)
          clear hgrow hown' HOd hBd hkeep hg'
          refine hK.out _ _ hS7 ?_
          clear hK K
          intro _
          refine wpAnyH_ready (rs := [20]) (by kernel_rfl) (by simp) ?_
          refine AllReadyH.cons rfl (fun K hK => ?_) AllReadyH.nil
          rw [if_pos ?hw]
          case hw => kernel_rfl
          go_simp
          refine hK.out _ _ hS7 ?_
          clear hK K
          intro _
          refine wpAnyH_done (by kernel_rfl) ?_ _
          go_wp2_with fail
          go_roundg (gk - 1)
          case measure => omega
          case rel => exact ⟨j + 1, g', cap', N + 1, HJ.out, by have := HN.out; omega, by go_num, rfl, by rw [HMS.out, gcells_snoc]; exact HO7.out, HG7.out, hS7.2.2, hB7⟩
        · have HLN := Lib.hid (show k + 1 + (gk0 - 1) = n by omega)
          obtain rfl : j = L.length := by omega
          have HO := Lib.hid hown
          have HX := Lib.hid (And.intro O1 hB)
          obtain ⟨p0, p1, f40, f41⟩ := id O1
          have hLP := O1.lt
          have HE := Lib.hid (show g ≠ w.heap.size + 1 from hg)
          have HNN := Lib.hid (show N = (allT (k + 1)).length by rw [HS.out, List.length_append, List.length_map]; omega)
          have HMA := Lib.hid (midL_all L (A, C))
          clear hown hg O1 hj hN
          go_wp2
          go_roundg (gk0 - 1)
          case measure => have := HGK.out; omega
          case rel =>
            obtain ⟨hO, hB⟩ := HX.out
            refine ⟨k + 1, g, cap, by omega, by go_num, ?_, ?_, HE.out, ?_, by (first | ((repeat' with_reducible first | assumption | exact Below.refl _ _ | apply Blw.alloc | apply Blw.drew | apply Blw.drewN | (refine Blw.after ?_ (by assumption)) | (refine Blw.set ?_ (by first | (dsimp only; omega) | (simp; omega)) _)); done) | (repeat' (first | assumption | exact Below.refl _ _ | apply Blw.alloc | apply Blw.drew | apply Blw.drewN | (refine Blw.after ?_ (by assumption)) | (refine Blw.set ?_ (by first | (dsimp only; omega) | (simp; done) | (simp; omega)) _))))⟩
            · rw [HNN.out]
            · have ho := HO.out
              rw [HMA.out, ← HS.out] at ho
              rw [← HNN.out]
              exact own_setNe (own_setNe ho HE.out _) HE.out _
            · rw [HBN.out]; dsimp only; ((try simp only [Nat.add_assoc, Nat.reduceAdd]) <;> (repeat with_reducible first | assumption | exact Own2.x (by assumption) | apply Own2X.put | (refine Own2.set ?_ (by omega)) | (refine Own2.alloc ?_ _) | (refine Own2X.set ?_ (by omega)) | (refine Own2X.alloc ?_ _)))
    · obtain rfl : k = n := by omega
      have HX := Lib.hid (own_slice hown rfl)
      clear hown
      go_wp2_with fail
      go_ret
      exact ⟨_, rfl, HX.out, hB⟩
end Go.Proofs.YtaleeoghifcadaaDoor

namespace Go.Proofs.YtaleeoghifcadaaDoor
set_option linter.unusedSimpArgs false
set_option linter.unusedVariables false

/-- a list of digits without a leading zero that is the number -/
def Good (l : List UInt8) (n : Int) : Prop := (∀ c ∈ l, bitC c = true) ∧ idxF l = n ∧ l.head? = some 49
theorem idx_pos : ∀ (l : List UInt8), (∀ c ∈ l, bitC c = true) → l.head? = some 49 → 1 ≤ idxF l := by
  intro l
  induction l using rev_ind with
  | h0 => intro _ h; simp at h
  | h1 l c ih =>
    intro hb hh
    have hc := dg_bit (hb c (by simp))
    rw [idxF_snoc]
    cases l with
    | nil =>
      simp at hh
      subst hh
      decide
    | cons a r =>
      have := ih (fun c hc => hb c (by simp at hc ⊢; rcases hc with h | h; exact Or.inl h; exact Or.inr (Or.inl h))) (by simpa using hh)
      omega
theorem good_unique : ∀ (l m : List UInt8) (n : Int), Good l n → Good m n → l = m := by
  intro l
  induction l using rev_ind with
  | h0 => intro m n h; simp [Good] at h
  | h1 l c ih =>
    intro m n h1 h2
    have key : ∃ m' d, m = m' ++ [d] := by
      induction m using rev_ind with
      | h0 => simp [Good] at h2
      | h1 m' d _ => exact ⟨m', d, rfl⟩
    obtain ⟨m', d, rfl⟩ := key
    obtain ⟨b1, i1, g1⟩ := h1
    obtain ⟨b2, i2, g2⟩ := h2
    rw [idxF_snoc] at i1 i2
    have hc := dg_bit (b1 c (by simp))
    have hd := dg_bit (b2 d (by simp))
    have e1 : dg c = dg d := by omega
    have e2 : idxF l = idxF m' := by omega
    have hcd : c = d := by rw [← bitc_dg (b1 c (by simp)), ← bitc_dg (b2 d (by simp)), e1]
    subst hcd
    cases hl : l with
    | nil =>
      cases hm : m' with
      | nil => rfl
      | cons a r =>
        exfalso
        have : 1 ≤ idxF m' := idx_pos m' (fun c hc => b2 c (by simp [hc])) (by rw [hm] at g2 ⊢; simpa using g2)
        rw [← e2, hl] at this
        simp [idxF] at this
    | cons a r =>
      cases hm : m' with
      | nil =>
        exfalso
        have : 1 ≤ idxF l := idx_pos l (fun c hc => b1 c (by simp [hc])) (by rw [hl] at g1 ⊢; simpa using g1)
        rw [e2, hm] at this
        simp [idxF] at this
      | cons a' r' =>
        rw [← hl, ← hm]
        rw [ih m' (idxF l) ⟨fun c hc => b1 c (by simp [hc]), rfl, by rw [hl] at g1 ⊢; simpa using g1⟩ ⟨fun c hc => b2 c (by simp [hc]), e2.symm, by rw [hm] at g2 ⊢; simpa using g2⟩]

/-- the binary digits of a number, so many and one, the highest first -/
def bl : Nat → Nat → List UInt8
  | 0, n => [bitc ((n % 2 : Nat) : Int)]
  | K + 1, n => bl K (n / 2) ++ [bitc ((n % 2 : Nat) : Int)]
theorem bl_len (K : Nat) : ∀ n, (bl K n).length = K + 1 := by
  induction K with
  | zero => intro n; rfl
  | succ K ih => intro n; simp [bl, ih]
theorem bl_bits (K : Nat) : ∀ n, ∀ c ∈ bl K n, bitC c = true := by
  induction K with
  | zero => intro n c h; simp [bl] at h; rw [h]; exact bitc_bit _
  | succ K ih =>
    intro n c h
    simp only [bl, List.mem_append, List.mem_singleton] at h
    rcases h with h | h
    · exact ih _ c h
    · rw [h]; exact bitc_bit _
theorem dg_bitm (n : Nat) : dg (bitc ((n % 2 : Nat) : Int)) = ((n % 2 : Nat) : Int) := dg_bitc (by omega)
theorem bl_idx (K : Nat) : ∀ n, n / 2 ^ K < 2 → idxF (bl K n) = n := by
  induction K with
  | zero =>
    intro n h
    rw [Nat.pow_zero, Nat.div_one] at h
    have : idxF (bl 0 n) = 2 * 0 + dg (bitc ((n % 2 : Nat) : Int)) := by simp [bl, idxF]
    rw [this, dg_bitm]; omega
  | succ K ih =>
    intro n h
    rw [Nat.pow_succ', ← Nat.div_div_eq_div_mul] at h
    simp only [bl]
    rw [idxF_snoc, ih _ h, dg_bitm]; omega
theorem bl_head (K : Nat) : ∀ n, n / 2 ^ K = 1 → (bl K n).head? = some 49 := by
  induction K with
  | zero => intro n h; rw [Nat.pow_zero, Nat.div_one] at h; subst h; rfl
  | succ K ih =>
    intro n h
    rw [Nat.pow_succ', ← Nat.div_div_eq_div_mul] at h
    have := ih _ h
    simp only [bl]
    rw [List.head?_append, this]; rfl
theorem bl_good {K n : Nat} (h : n / 2 ^ K = 1) : Good (bl K n) n := ⟨bl_bits K n, bl_idx K n (by omega), bl_head K n h⟩
theorem bl_at (K : Nat) : ∀ n t, t ≤ K → (bl K n)[t]? = some (bitc ((n / 2 ^ (K - t) % 2 : Nat) : Int)) := by
  induction K with
  | zero => intro n t h; obtain rfl : t = 0 := by omega
            simp [bl]
  | succ K ih =>
    intro n t h
    simp only [bl]
    by_cases ht : t ≤ K
    · rw [List.getElem?_append_left (by rw [bl_len]; omega), ih _ t ht, Nat.div_div_eq_div_mul, ← Nat.pow_succ', show (K - t).succ = K + 1 - t by omega]
    · obtain rfl : t = K + 1 := by omega
      rw [List.getElem?_append_right (by rw [bl_len]; omega), bl_len]
      simp

theorem idx_zeros (l : List UInt8) (m : Nat) : idxF (l ++ List.replicate m 48) = idxF l * (2 ^ m : Nat) := by
  induction m with
  | zero => simp
  | succ m ih =>
    rw [List.replicate_succ', ← List.append_assoc, idxF_snoc, ih, Nat.pow_succ]
    have : dg 48 = 0 := rfl
    rw [this]
    push_cast
    grind
theorem idx_ones (l : List UInt8) (m : Nat) : idxF (l ++ List.replicate m 49) + 1 = (idxF l + 1) * (2 ^ m : Nat) := by
  induction m with
  | zero => simp
  | succ m ih =>
    rw [List.replicate_succ', ← List.append_assoc, idxF_snoc, Nat.pow_succ]
    have : dg 49 = 1 := rfl
    rw [this]
    push_cast at ih ⊢
    grind
/-- what follows a text: the digits ahead of the last 0 (if there is one), 1, and zeros -/
def nextR (s : List UInt8) (k : Nat) : List UInt8 := s.take (k - 1) ++ [49] ++ List.replicate (s.length - k) 48
theorem next_good {s : List UInt8} {k : Nat} (hv : vldL s = true) (hk : k ≤ s.length) (h1 : ∀ j, k ≤ j → j < s.length → s[j]? = some 49) (h0 : 1 ≤ k → s[k - 1]? = some 48) : Good (nextR s k) (idxF s + 1) := by
  obtain ⟨l1, l2, l3, l4⟩ := (vldL_iff s).1 hv
  refine ⟨?_, ?_, ?_⟩
  · intro c hc
    simp only [nextR, List.mem_append, List.mem_singleton, List.mem_replicate] at hc
    rcases hc with (hc | hc) | hc
    · exact l4 c (List.mem_of_mem_take hc)
    · rw [hc]; rfl
    · rw [hc.2]; rfl
  · have hones : s = s.take k ++ List.replicate (s.length - k) 49 := by
      apply List.ext_getElem?
      intro j
      by_cases hj : j < k
      · rw [List.getElem?_append_left (by rw [List.length_take]; omega), List.getElem?_take, if_pos hj]
      · rw [List.getElem?_append_right (by rw [List.length_take]; omega), List.length_take]
        by_cases hjl : j < s.length
        · rw [h1 j (by omega) hjl, List.getElem?_replicate, if_pos (by omega)]
        · rw [List.getElem?_eq_none (by omega), List.getElem?_eq_none (by rw [List.length_replicate]; omega)]
    have e : idxF s + 1 = (idxF (s.take k) + 1) * (2 ^ (s.length - k) : Nat) := by
      conv => lhs; rw [hones]
      rw [idx_ones]
    rw [e]
    unfold nextR
    rw [idx_zeros, idxF_snoc]
    have d1 : dg 49 = 1 := rfl
    rw [d1]
    by_cases hk0 : 1 ≤ k
    · have : s.take k = s.take (k - 1) ++ [48] := by
        conv => lhs; rw [show k = k - 1 + 1 by omega]
        rw [List.take_add_one, h0 hk0]; rfl
      rw [this, idxF_snoc]
      have d0 : dg 48 = 0 := rfl
      rw [d0]; congr 1; omega
    · obtain rfl : k = 0 := by omega
      simp [idxF]
  · unfold nextR
    by_cases hk2 : 2 ≤ k
    · rcases l3 with h | h
      · rw [h] at hk; simp at hk; omega
      · cases s with
        | nil => simp at l1
        | cons c r =>
          have hc := l4 c (by simp)
          rw [bitC_iff] at hc
          have hc9 : c = 49 := by
            rcases hc with hc | hc
            · exfalso; apply h; simp; exact UInt8.toNat_inj.1 (by rw [hc]; rfl)
            · exact UInt8.toNat_inj.1 (by rw [hc]; rfl)
          obtain ⟨q, rfl⟩ : ∃ q, k = q + 2 := ⟨k - 2, by omega⟩
          simp [hc9]
    · have : s.take (k - 1) = [] := by rw [show k - 1 = 0 by omega]; rfl
      rw [this]; rfl
end Go.Proofs.YtaleeoghifcadaaDoor

namespace Go.Proofs.YtaleeoghifcadaaDoor
set_option linter.unusedSimpArgs false
set_option linter.unusedVariables false
open Go.RowKit

theorem bs_sz (l : List UInt8) : (bs l).size = l.length := by rw [← toL_len, toL_bs]
theorem bs_cat (l m : List UInt8) : bs l ++ bs m = bs (l ++ m) := toL_ext (by rw [toL_bs]; simp [toL, bs, ByteArray.data_append])
/-- the one cell of the library's table that is read -/
def Two (w : World) : Prop := w.cell? ⟨5, 1, none⟩ = some (.int .u8 1)
theorem Two.keep {w w' : World} (h : Two w) {B : Nat} (hB : 5 < B) (hb : Below B w w') : Two w' := (hb.cell (p := ⟨5, 1, none⟩) hB).trans h
theorem isPow_c (w : World) : Calls Tryd.prog 114 #[.int .i64 2] w fun e w' => e = .returned (.bool true) ∧ w = w' := by
  have h : bits .and .i64 2 1 = 0 := by decide
  go_enter Tryd.func114, Tryd.ntmps114
  go_wp2
  go_ret
  exact ⟨rfl, rfl⟩
theorem tz64_c (w : World) (h : Two w) : Calls Tryd.prog 123 #[.int .u64 2] w fun e w' => e = .returned (.int .i64 1) ∧ w = w' := by
  unfold Two at h
  have h1 : IntKind.u64.wrap (bits BinOp.and IntKind.u64 2 (IntKind.u64.wrap (-2)) * 285870213051353865) / 288230376151711744 = 1 := by decide
  go_enter Tryd.func123, Tryd.ntmps123
  go_wp2_with (simp only [h1, show (1 : Int).toNat = 1 from rfl])
  go_ret
  exact ⟨rfl, rfl⟩
theorem tz_c (w : World) (h : Two w) : Calls Tryd.prog 115 #[.int .u64 2] w fun e w' => e = .returned (.int .i64 1) ∧ w = w' := by
  have H := Lib.hid h
  clear h
  go_enter Tryd.func115, Tryd.ntmps115
  go_wp2_with (go_at_call 123; refine (tz64_c _ H.out).mono ?_; rintro e w' ⟨rfl, rfl⟩)
  go_ret
  exact ⟨rfl, rfl⟩
theorem open_alloc (w : World) (C : Array Value) (t : TypeId) (n : Nat) (h : C.size = n) : Open w.heap.size n (w.alloc (.cells C t)) := by
  intro j hj
  refine ⟨⟨C[j]'(by omega), ?_⟩, ?_⟩
  · rw [World.cell?_alloc_new]; simp [h, hj]
  · rw [frozen?_alloc_cells]; simp [World.frozen?]
theorem zero65 (w : World) : Sem.run Tryd.prog (zeroValue 144) w = .ok (.agg (Array.replicate 65 (.int .u8 0))) w := by kernel_rfl
def FbRel (n : Nat) (w : World) (m : Nat) (u i : Value) (wr : World) : Prop :=
  ∃ k : Nat, k + m = 60 ∧ k ≤ 51 ∧ u = .int .u64 (n / 2 ^ k : Nat) ∧ i = .int .i64 (65 - k : Nat) ∧ 1 ≤ n / 2 ^ k ∧ (∀ j, j < k → wr.cell? ⟨w.heap.size, 64 - j, none⟩ = some (encB (bitc ((n / 2 ^ j % 2 : Nat) : Int)))) ∧ Open w.heap.size 65 wr ∧ Below w.heap.size w wr
def FbPost (n : Nat) (w : World) (e : Ending) (w' : World) : Prop := ∃ l, e = .returned (.tuple #[.slice none 0 0, .string (bs l)]) ∧ Good l n ∧ Below w.heap.size w w'
theorem and_one (q : Nat) (hq : q < 18446744073709551616) : bits .and .u64 (q : Int) 1 = ((q % 2 : Nat) : Int) := by
  have := u64_and_nat q 1 hq (by omega)
  rw [Nat.and_one_is_mod] at this
  exact this
theorem FbRel.cells {n k : Nat} {w wr : World} {d : Nat} (h : ∀ j, j < k → wr.cell? ⟨w.heap.size, 64 - j, none⟩ = some (encB (bitc ((n / 2 ^ j % 2 : Nat) : Int)))) (ho : Open w.heap.size 65 wr) (hk : k ≤ 64) (hd : n / 2 ^ k % 2 = d) {x : Int} (hx : .int .u8 x = encB (bitc (d : Int))) :
    ∀ j, j < k + 1 → (wr.setCell ⟨w.heap.size, 64 - k, none⟩ (.int .u8 x)).cell? ⟨w.heap.size, 64 - j, none⟩ = some (encB (bitc ((n / 2 ^ j % 2 : Nat) : Int))) := by
  intro j hj
  by_cases e : j = k
  · subst e
    obtain ⟨u, hu⟩ := (ho (64 - j) (by omega)).1
    rw [set_same hu, hx, hd]
  · rw [set_other (by omega)]; exact h j (by omega)
theorem slice_c (b k : Nat) (W : World) (hk : k ≤ 64) : (Instr.sliceAt 144 (.pointer (some ⟨b, 0, none⟩)) (some (.int .i64 ((64 - k : Nat) : Int))) none none).run Tryd.prog W = .ok (.slice (some ⟨b, 64 - k, none⟩) (k + 1) (k + 1)) W := by
  have hA : Tryd.prog.arrayLen 144 = 65 := by kernel_rfl
  rw [run_sliceAt_array_l W _ _ (by kernel_rfl) .i64 _ (by omega) (by rw [hA]; omega), hA, Int.toNat_natCast]
  have hE : Tryd.prog.elem 144 = 5 := by kernel_rfl
  rw [hE]
  have hS : (sizeOf 5).run Tryd.prog W = .ok 1 W := by kernel_rfl
  rw [hS]
  show Result.ok (slicedAt _ _ _ _ _) W = _
  unfold slicedAt
  rw [if_neg (by omega)]
  simp [Addr.add]
  omega
theorem conv_c (b k n : Nat) (W : World) (hk : k ≤ 64) (hW : ∀ j, j < k + 1 → W.cell? ⟨b, 64 - j, none⟩ = some (encB (bitc ((n / 2 ^ j % 2 : Nat) : Int)))) : (convert 22 9 (.slice (some ⟨b, 64 - k, none⟩) (k + 1) (k + 1))).run Tryd.prog W = .ok (.string (bs (bl k n))) W := by
  have e := run_convert_bytes_back (P := Tryd.prog) W 22 9 5 ⟨b, 64 - k, none⟩ (k + 1) (bl k n) Tryd.underlying22 Tryd.underlying5 Tryd.underlying9 (fun j hj => by
    have hj2 : j < k + 1 := by have := bl_len k n; omega
    rw [show (⟨b, 64 - k, none⟩ : Addr).add j = ⟨b, 64 - (k - j), none⟩ by rw [Addr.add_lit, show 64 - k + j = 64 - (k - j) by omega]]
    rw [hW (k - j) (by omega)]
    have h2 := bl_at k n j (by omega)
    rw [List.getElem?_eq_getElem (by rw [bl_len]; omega)] at h2
    rw [Option.some.inj h2]; rfl)
  rw [bl_len] at e
  exact e

set_option maxRecDepth 100000 in
set_option maxHeartbeats 8000000 in
theorem formatBits_c (n : Nat) (w : World) (hn : 1 ≤ n) (hn2 : n ≤ 2251799813685247) (hT : Two w) (h6 : 5 < w.heap.size) : Calls Tryd.prog 103 #[.slice none 0 0, .int .u64 n, .int .i64 2, .bool false, .bool false] w (FbPost n w) := by
  have HT := Lib.hid hT
  clear hT
  go_enter Tryd.func103, Tryd.ntmps103
  go_wp2_with (rw [zero65])
  generalize hW : World.alloc _ _ = W0
  have hO := Lib.hid (show Open w.heap.size 65 W0 by rw [← hW]; exact open_alloc w _ _ 65 rfl)
  have hB0 := Lib.hid (show Below w.heap.size w W0 by rw [← hW]; (repeat' (first | assumption | exact Below.refl _ _ | apply Blw.alloc | apply Blw.drew | apply Blw.drewN | (refine Blw.after ?_ (by assumption)) | (refine Blw.set ?_ (by first | (dsimp only; omega) | (simp; done) | (simp; omega)) _))))
  have HT0 := Lib.hid (HT.out.keep h6 hB0.out)
  clear hW
  go_wp2_with (first | (go_at_call 114; refine (isPow_c _).mono ?_; rintro e w' ⟨rfl, rfl⟩) | (go_at_call 115; refine (tz_c _ HT0.out).mono ?_; rintro e w' ⟨rfl, rfl⟩))
  have S0 := Lib.hid (show FbRel n w 60 (.int .u64 n) (.int .i64 65) W0 from ⟨0, by omega, by omega, by rw [Nat.pow_zero, Nat.div_one], rfl, by rw [Nat.pow_zero, Nat.div_one]; exact hn, fun j hj => by omega, hO.out, hB0.out⟩)
  go_loopg [1, 13] 60 (fun m u i wr => FbRel n w m u i wr)
  case atStart => exact S0.out
  case round =>
    clear S0
    obtain ⟨k, hk, hk51, rfl, rfl, hq1, hc, ho, hB⟩ := hrel
    have HC := Lib.hid hc
    have HO := Lib.hid ho
    have hqn : n / 2 ^ k ≤ n := Nat.div_le_self _ _
    obtain ⟨⟨u0, c0⟩, f0⟩ := ho (64 - k) (by omega)
    have e1 : (((65 - k : Nat) : Int) - 1) = ((64 - k : Nat) : Int) := by omega
    clear hc ho
    by_cases h2 : 2 ≤ n / 2 ^ k
    · have hk50 : k + 1 ≤ 51 := by
        apply Nat.le_of_not_lt
        intro hlt
        have h51 : k = 51 := by omega
        rw [h51] at h2
        have := (Nat.le_div_iff_mul_le (by decide)).1 h2
        have e : (2 : Nat) ^ 51 = 2251799813685248 := by decide
        rw [e] at this
        omega
      have HD := Lib.hid (show n / 2 ^ (k + 1) = n / 2 ^ k / 2 by rw [Nat.pow_succ, ← Nat.div_div_eq_div_mul])
      have ha := and_one (n / 2 ^ k) (by omega)
      rcases Nat.mod_two_eq_zero_or_one (n / 2 ^ k) with hm | hm
      all_goals
        rw [hm] at ha
        have HCE := Lib.hid (fun x hx => FbRel.cells (d := _) (x := x) HC.out HO.out (by omega) hm hx)
        clear hm
        generalize hq : n / 2 ^ k = q at *
        have HQ := Lib.hid hq
        clear hq
        go_wp2
        go_roundg (gk - 1)
        case measure => omega
        case rel => exact ⟨k + 1, by omega, hk50, by rw [HD.out]; rfl, by congr 1; omega, by rw [HD.out]; omega, HCE.out _ rfl, HO.out.set, by (repeat' (first | assumption | exact Below.refl _ _ | apply Blw.alloc | apply Blw.drew | apply Blw.drewN | (refine Blw.after ?_ (by assumption)) | (refine Blw.set ?_ (by first | (dsimp only; omega) | (simp; done) | (simp; omega)) _)))⟩
    · have hq : n / 2 ^ k = 1 := by omega
      have HQ := Lib.hid hq
      have HCE := Lib.hid (fun x hx => FbRel.cells (d := 1) (x := x) HC.out HO.out (by omega) (by rw [hq]) hx)
      rw [hq]
      clear hq
      have hsl := fun W => slice_c w.heap.size k W (by omega)
      have hcv := fun W hW => conv_c w.heap.size k n W (by omega) hW
      go_wp2_with (rw [hcv]; rotate_left; exact HCE.out _ rfl)
      go_ret2
      exact ⟨bl k n, rfl, bl_good HQ.out, by (repeat' (first | assumption | exact Below.refl _ _ | apply Blw.alloc | apply Blw.drew | apply Blw.drewN | (refine Blw.after ?_ (by assumption)) | (refine Blw.set ?_ (by first | (dsimp only; omega) | (simp; done) | (simp; omega)) _)))⟩
end Go.Proofs.YtaleeoghifcadaaDoor

namespace Go.Proofs.YtaleeoghifcadaaDoor
set_option linter.unusedSimpArgs false
set_option linter.unusedVariables false
open Go.RowKit

def NextPost (s : ByteArray) (w : World) (e : Ending) (w' : World) : Prop := ∃ l, e = .returned (resD l) ∧ (vldB s = true → Good l (idxF (toL s) + 1)) ∧ (vldB s = false → l = []) ∧ Below w.heap.size w w'
theorem resD_nil : resD [] = .tuple #[.string ⟨#[]⟩, .bool false] := rfl
def NKRel (s : ByteArray) (w : World) (m : Nat) (kv : Value) (wr : World) : Prop :=
  ∃ k : Nat, k = m ∧ k ≤ s.size ∧ kv = .int .i64 k ∧ wr = w ∧ ∀ j, k ≤ j → j < s.size → (toL s)[j]? = some 49
def NZRel (s : ByteArray) (w : World) (k : Nat) (m : Nat) (zv iv : Value) (wr : World) : Prop :=
  ∃ i : Nat, i + m = s.size ∧ k ≤ i ∧ iv = .int .i64 i ∧ wr = w ∧ zv = .string (bs (List.replicate (i - k) 48))


theorem toL_take (s : ByteArray) (k : Nat) : s.extract 0 k = bs ((toL s).take k) := by
  apply toL_ext
  rw [toL_bs, ← bs_toL s]
  show toL ((ByteArray.mk (toL s).toArray).extract 0 k) = _
  rw [ByteArray.extract_mk]
  simp [toL, bs]
end Go.Proofs.YtaleeoghifcadaaDoor

namespace Go.Proofs.YtaleeoghifcadaaDoor
set_option linter.unusedSimpArgs false
set_option linter.unusedVariables false
open Go.RowKit

def FmPost (v : Int) (w : World) (e : Ending) (w' : World) : Prop := ∃ l, e = .returned (.string (bs l)) ∧ Good l v ∧ Below w.heap.size w w'
set_option maxRecDepth 100000 in
theorem fmtIn_c (n : Nat) (w : World) (hn : 1 ≤ n) (hn2 : n ≤ 2251799813685247) (hT : Two w) (h6 : 5 < w.heap.size) : Calls Tryd.prog 88 #[.int .i64 n, .int .i64 2] w (FmPost n w) := by
  have HT := Lib.hid hT
  clear hT
  go_enter Tryd.func88, Tryd.ntmps88
  go_wp2_with (go_at_call 103; rw [show decide ((n : Int) < 0) = false from decide_eq_false (by omega)]; refine (formatBits_c n _ hn hn2 HT.out h6).mono ?_; rintro e w' ⟨l, rfl, hg, hb⟩; have HG := Lib.hid hg; clear hg)
  go_ret
  exact ⟨l, rfl, HG.out, hb⟩
theorem fmt_c (v : Int) (w : World) (hn : 1 ≤ v) (hn2 : v ≤ 2251799813685247) (hT : Two w) (h6 : 5 < w.heap.size) : Calls Tryd.prog 78 #[.int .i64 v, .int .i64 2] w (FmPost v w) := by
  obtain ⟨n, rfl⟩ : ∃ n : Nat, v = (n : Int) := ⟨v.toNat, by omega⟩
  have HT := Lib.hid hT
  clear hT
  have h1 : 1 ≤ n := by omega
  have h2 : n ≤ 2251799813685247 := by omega
  go_enter Tryd.func78, Tryd.ntmps78
  go_wp2_with (go_at_call 88; refine (fmtIn_c n _ h1 h2 HT.out h6).mono ?_; rintro e w' ⟨l, rfl, hg, hb⟩; have HG := Lib.hid hg; clear hg)
  go_ret
  exact ⟨l, rfl, HG.out, hb⟩

theorem resD_yes {l : List UInt8} {v : Int} (h : Good l v) (hl : l.length ≤ 50) : resD l = .tuple #[.string (bs l), .bool true] := by
  obtain ⟨b, _, g⟩ := h
  have hs : strip l = toL (bs l) := by rw [toL_bs]; exact strip_keep (by cases l with | nil => simp at g | cons a r => simp at g ⊢; rw [g]; decide)
  refine resD_t hs ?_
  show vldL (toL (bs l)) = true
  rw [toL_bs, vldL_iff]
  cases l with
  | nil => simp at g
  | cons a r => refine ⟨by simp, hl, Or.inr ?_, b⟩; simp at g ⊢; rw [g]; decide
theorem resD_over {l : List UInt8} {v : Int} (h : Good l v) (hl : 50 < l.length) : resD l = .tuple #[.string ⟨#[]⟩, .bool false] := by
  obtain ⟨b, _, g⟩ := h
  have hs : strip l = toL (bs l) := by rw [toL_bs]; exact strip_keep (by cases l with | nil => simp at g | cons a r => simp at g ⊢; rw [g]; decide)
  refine resD_f hs ?_
  show vldL (toL (bs l)) = false
  rw [toL_bs, ← Bool.not_eq_true, vldL_iff]
  rintro ⟨_, h2, _⟩
  omega

theorem Next_same {s : ByteArray} {l m : List UInt8} (h1 : vldB s = true → Good l (idxF (toL s) + 1)) (h2 : vldB s = false → l = []) (k1 : vldB s = true → Good m (idxF (toL s) + 1)) (k2 : vldB s = false → m = []) : l = m := by
  rcases Bool.eq_false_or_eq_true (vldB s) with hv | hv
  · exact good_unique _ _ _ (h1 hv) (k1 hv)
  · rw [h2 hv, k2 hv]
end Go.Proofs.YtaleeoghifcadaaDoor

namespace Go.Proofs.YtaleeoghifcadaaDoor
set_option linter.unusedSimpArgs false
set_option linter.unusedVariables false
open Go.RowKit

/-- a numeral: its digits, not more than 50, and its number -/
def Num (l : List UInt8) (n : Nat) : Prop := (∀ c ∈ l, bitC c = true) ∧ idxF l = n ∧ l.length ≤ 50
theorem idx_big : ∀ (l : List UInt8), (∀ c ∈ l, bitC c = true) → l.head? = some 49 → (2 ^ l.length : Nat) ≤ 2 * idxF l := by
  intro l
  induction l using rev_ind with
  | h0 => intro _ h; cases h
  | h1 l c ih =>
    intro hb hh
    have hc := dg_bit (hb c (by simp))
    rw [idxF_snoc, List.length_append, List.length_singleton, Nat.pow_succ]
    cases l with
    | nil =>
      simp only [List.nil_append, List.head?_cons, Option.some.injEq] at hh
      subst hh
      decide
    | cons a r =>
      have := ih (fun d hd => hb d (List.mem_append_left _ hd)) (by simpa using hh)
      have e : (((2 ^ (a :: r).length * 2 : Nat)) : Int) = 2 * ((2 ^ (a :: r).length : Nat) : Int) := by omega
      rw [e]; omega
theorem num_of {l : List UInt8} {n : Nat} (h : Good l n) (hn : n ≤ 1000) : Num l n := by
  obtain ⟨b, i, g⟩ := h
  refine ⟨b, i, ?_⟩
  have h1 := idx_big l b g
  rw [i] at h1
  apply Classical.byContradiction
  intro hl
  have h2 : 2 ^ 11 ≤ 2 ^ l.length := Nat.pow_le_pow_right (by omega) (by omega)
  have h3 : (2 : Nat) ^ 11 = 2048 := by decide
  omega
set_option maxRecDepth 100000 in
set_option maxHeartbeats 8000000 in
theorem formatBits0_c (w : World) (hT : Two w) (h6 : 5 < w.heap.size) : Calls Tryd.prog 103 #[.slice none 0 0, .int .u64 0, .int .i64 2, .bool false, .bool false] w fun e w' => e = .returned (.tuple #[.slice none 0 0, .string (bs [48])]) ∧ Below w.heap.size w w' := by
  have HT := Lib.hid hT
  clear hT
  go_enter Tryd.func103, Tryd.ntmps103
  go_wp2_with (rw [zero65])
  generalize hW : World.alloc _ _ = W0
  have hO := Lib.hid (show Open w.heap.size 65 W0 by rw [← hW]; exact open_alloc w _ _ 65 rfl)
  have hB0 := Lib.hid (show Below w.heap.size w W0 by rw [← hW]; (first | ((repeat' with_reducible first | assumption | exact Below.refl _ _ | apply Blw.alloc | apply Blw.drew | apply Blw.drewN | (refine Blw.after ?_ (by assumption)) | (refine Blw.set ?_ (by first | (dsimp only; omega) | (simp; omega)) _)); done) | (repeat' (first | assumption | exact Below.refl _ _ | apply Blw.alloc | apply Blw.drew | apply Blw.drewN | (refine Blw.after ?_ (by assumption)) | (refine Blw.set ?_ (by first | (dsimp only; omega) | (simp; done) | (simp; omega)) _)))))
  have HT0 := Lib.hid (HT.out.keep h6 hB0.out)
  clear hW
  go_wp2_with (first | (go_at_call 114; refine (isPow_c _).mono ?_; rintro e w' ⟨rfl, rfl⟩) | (go_at_call 115; refine (tz_c _ HT0.out).mono ?_; rintro e w' ⟨rfl, rfl⟩))
  go_loopg [1, 13] 60 (fun m u i wr => u = .int .u64 0 ∧ i = .int .i64 65 ∧ wr = W0)
  case atStart => exact ⟨rfl, rfl, rfl⟩
  case round =>
    obtain ⟨rfl, rfl, rfl⟩ := hrel
    obtain ⟨⟨u0, c0⟩, f0⟩ := hO.out 64 (by omega)
    have HCE := Lib.hid (fun x (hx : Value.int .u8 x = encB (bitc (0 : Nat))) => FbRel.cells (n := 0) (k := 0) (w := w) (wr := wr) (d := 0) (x := x) (fun j hj => by omega) hO.out (by omega) (by decide) hx)
    have hsl := fun W => slice_c w.heap.size 0 W (by omega)
    have hcv := fun W hW => conv_c w.heap.size 0 0 W (by omega) hW
    rw [show bl 0 0 = [48] by decide] at hcv
    go_wp2_with (rw [hcv]; rotate_left; exact HCE.out _ rfl)
    go_ret2
    exact ⟨rfl, by (first | ((repeat' with_reducible first | assumption | exact Below.refl _ _ | apply Blw.alloc | apply Blw.drew | apply Blw.drewN | (refine Blw.after ?_ (by assumption)) | (refine Blw.set ?_ (by first | (dsimp only; omega) | (simp; omega)) _)); done) | (repeat' (first | assumption | exact Below.refl _ _ | apply Blw.alloc | apply Blw.drew | apply Blw.drewN | (refine Blw.after ?_ (by assumption)) | (refine Blw.set ?_ (by first | (dsimp only; omega) | (simp; done) | (simp; omega)) _))))⟩
def NumPost (n : Nat) (w : World) (e : Ending) (w' : World) : Prop := ∃ l, e = .returned (.string (bs l)) ∧ Num l n ∧ Below w.heap.size w w'
set_option maxRecDepth 100000 in
theorem fmtIn0_c (w : World) (hT : Two w) (h6 : 5 < w.heap.size) : Calls Tryd.prog 88 #[.int .i64 0, .int .i64 2] w (NumPost 0 w) := by
  have HT := Lib.hid hT
  clear hT
  go_enter Tryd.func88, Tryd.ntmps88
  go_wp2_with (go_at_call 103; refine (formatBits0_c _ HT.out h6).mono ?_; rintro e w' ⟨rfl, hb⟩)
  go_ret
  exact ⟨[48], rfl, ⟨by decide, by decide, by decide⟩, hb⟩
theorem num_c (n : Nat) (w : World) (hn : n ≤ 1000) (hT : Two w) (h6 : 5 < w.heap.size) : Calls Tryd.prog 78 #[.int .i64 n, .int .i64 2] w (NumPost n w) := by
  by_cases h0 : n = 0
  · subst h0
    have HT := Lib.hid hT
    clear hT
    go_enter Tryd.func78, Tryd.ntmps78
    go_wp2_with (go_at_call 88; refine (fmtIn0_c _ HT.out h6).mono ?_; rintro e w' ⟨l, rfl, hg, hb⟩; have HG := Lib.hid hg; clear hg)
    go_ret
    exact ⟨l, rfl, HG.out, hb⟩
  · refine (fmt_c n w (by omega) (by omega) hT h6).mono ?_
    rintro e w' ⟨l, rfl, hg, hb⟩
    exact ⟨l, rfl, num_of hg hn, hb⟩
end Go.Proofs.YtaleeoghifcadaaDoor

namespace Go.Proofs.YtaleeoghifcadaaDoor
set_option linter.unusedSimpArgs false
set_option linter.unusedVariables false
open Go.RowKit

theorem convP_c {t u : TypeId} {k l : FloatKind} {a b c d : Nat} (ht : Tryd.prog.underlying t = some (.complex k)) (hu : Tryd.prog.underlying u = some (.complex l)) (h1 : floatToFloatBits k a l = some c) (h2 : floatToFloatBits k b l = some d) (w : World) :
    (convert t u (.complex k a b)).run Tryd.prog w = .ok (.complex l c d) w :=
  run_convert_complex (P := Tryd.prog) w t u k l a b c d (by rw [ht]; rfl) hu (by simp [cConvBits, h1, h2])
theorem sum_c {t : TypeId} {o : BinOp} {k : FloatKind} {a b c d r i : Nat} (ho : o = .add ∨ o = .sub) (h1 : floatBits o k a c = some r) (h2 : floatBits o k b d = some i) (w : World) :
    (binOp o t (.complex k a b) (.complex k c d)).run Tryd.prog w = .ok (.complex k r i) w :=
  run_complex_sum (P := Tryd.prog) w o ho t k a b c d r i (by simp [cSumBits, h1, h2])
theorem conv_same (k : FloatKind) (a : Nat) : floatToFloatBits k a k = some a := by simp [floatToFloatBits]
/-! ### powers -/
def pickN (b : Bool) (x : Nat) : Nat := if b then x else 0
abbrev powV (k : FloatKind) (n : Int) : Value := .tuple #[.complex k (pickN (inR 0 320 n) (pw k n.toNat).1) (pickN (inR 0 320 n) (pw k n.toNat).2), .bool (inR 0 320 n)]
theorem powV_no {k : FloatKind} {n : Int} (h : inR 0 320 n = false) : powV k n = .tuple #[.complex k 0 0, .bool false] := by unfold powV pickN; rw [h]; rfl
theorem powV_yes {k : FloatKind} {n : Int} (h : inR 0 320 n = true) : powV k n = .tuple #[.complex k (pw k n.toNat).1 (pw k n.toNat).2, .bool true] := by unfold powV pickN; rw [h]; rfl
def PwRel (k : FloatKind) (w : World) (t : Nat) (m : Nat) (z c : Value) (wr : World) : Prop := ∃ j : Nat, j + m = t ∧ wr = w ∧ c = .int .i64 j ∧ z = .complex k (pw k j).1 (pw k j).2
end Go.Proofs.YtaleeoghifcadaaDoor

namespace Go.Proofs.YtaleeoghifcadaaDoor
set_option linter.unusedSimpArgs false
set_option linter.unusedVariables false
open Go.RowKit
/-- the place of the first point, or the length -/
def dotL : List UInt8 → Nat
  | [] => 0
  | c :: l => if c == 46 then 0 else dotL l + 1
theorem dotL_le : ∀ l, dotL l ≤ l.length
  | [] => Nat.le_refl _
  | c :: l => by
    unfold dotL
    split
    · omega
    · have := dotL_le l; simp only [List.length_cons]; omega
theorem dotL_get : ∀ {l : List UInt8}, dotL l < l.length → l[dotL l]? = some 46
  | [], h => by simp [dotL] at h
  | c :: l, h => by
    unfold dotL at h ⊢
    split
    · rename_i hc
      simp only [List.getElem?_cons_zero, Option.some.injEq]
      exact beq_iff_eq.1 hc
    · rename_i hc
      rw [if_neg hc] at h
      simp only [List.length_cons] at h
      rw [List.getElem?_cons_succ]
      exact dotL_get (by omega)
theorem dotL_before : ∀ {l : List UInt8} {k : Nat}, k < dotL l → l[k]? ≠ some 46
  | [], k, h => by simp [dotL] at h
  | c :: l, k, h => by
    unfold dotL at h
    split at h
    · omega
    · rename_i hc
      cases k with
      | zero => simp only [List.getElem?_cons_zero, ne_eq, Option.some.injEq]; intro e; apply hc; rw [e]; rfl
      | succ k => rw [List.getElem?_cons_succ]; exact dotL_before (by omega)
theorem indexByte_dot : ∀ l : List UInt8, Lib.indexByte l 46 = if dotL l < l.length then (dotL l : Int) else -1
  | [] => rfl
  | c :: l => by
    have hl : dotL (c :: l) = if c == 46 then 0 else dotL l + 1 := rfl
    have hi : Lib.indexByte (c :: l) 46 = if c == 46 then 0 else if Lib.indexByte l 46 == -1 then -1 else Lib.indexByte l 46 + 1 := rfl
    rw [hl, hi, indexByte_dot l, List.length_cons]
    by_cases hc : (c == 46) = true
    · rw [if_pos hc, if_pos hc, if_pos (by omega)]; rfl
    · rw [if_neg hc, if_neg hc]
      by_cases h : dotL l < l.length
      · rw [if_pos h, if_pos (show dotL l + 1 < l.length + 1 by omega), if_neg (by simp)]; omega
      · rw [if_neg h, if_neg (show ¬ dotL l + 1 < l.length + 1 by omega), if_pos (by decide)]
def atP (s : ByteArray) : Nat := dotL (toL s)
theorem atP_le (s : ByteArray) : atP s ≤ s.size := by have := dotL_le (toL s); rwa [toL_len] at this
theorem atP_dot {s : ByteArray} (h : atP s < s.size) : s[atP s].toNat = 46 := by
  have := dotL_get (l := toL s) (by rw [toL_len]; exact h)
  have g := toL_get s (atP s) h
  have e : some s[atP s] = some 46 := g.symm.trans this
  rw [Option.some.injEq] at e
  rw [e]; rfl
theorem atP_before {s : ByteArray} {k : Nat} (h : k < atP s) : s[k]'(by have := atP_le s; omega) ≠ 46 := by
  intro e
  have g := toL_get s k (by have := atP_le s; omega)
  rw [e] at g
  exact dotL_before (l := toL s) h g
theorem atP_lt {s : ByteArray} {k : Nat} (hk : k ≤ atP s) (h : k < s.size) (h46 : s[k].toNat ≠ 46) : k + 1 ≤ atP s := by
  rcases Nat.lt_or_ge k (atP s) with c | c
  · exact c
  · have e : atP s = k := by omega
    have := atP_dot (s := s) (by omega)
    simp only [e] at this
    exact absurd this h46
theorem atP_at {s : ByteArray} {k : Nat} (hk : k ≤ atP s) (h : k < s.size) (h46 : s[k].toNat = 46) : atP s = k := by
  rcases Nat.lt_or_ge k (atP s) with c | c
  · exact absurd (UInt8.toNat_inj.1 (by rw [h46]; rfl)) (atP_before c)
  · omega
theorem index_dot (s : ByteArray) : Lib.indexByte s.data.toList 46 = if atP s < s.size then (atP s : Int) else -1 := by
  have := indexByte_dot (toL s)
  rw [toL_len] at this
  exact this
def hdS (s : ByteArray) : ByteArray := s.extract 0 (atP s)
def tlS (s : ByteArray) : ByteArray := s.extract (atP s + 1) s.size
theorem toL_extract (s : ByteArray) (i j : Nat) : toL (s.extract i j) = ((toL s).take j).drop i := by
  show (s.extract i j).data.toList = _
  rw [ByteArray.data_extract, Array.toList_extract, List.extract_eq_take_drop, List.drop_take]
theorem hdS_size (s : ByteArray) : (hdS s).size = atP s := by
  have h := congrArg List.length (toL_extract s 0 (atP s))
  rw [toL_len, List.drop_zero, List.length_take, toL_len] at h
  have := atP_le s
  show (s.extract 0 (atP s)).size = _
  omega
theorem tlS_size (s : ByteArray) : (tlS s).size = s.size - (atP s + 1) := by
  have h := congrArg List.length (toL_extract s (atP s + 1) s.size)
  rw [toL_len, List.length_drop, List.length_take, toL_len] at h
  show (s.extract (atP s + 1) s.size).size = _
  omega
def dotB (s : ByteArray) : Bool := decide (atP s < s.size) && onlyB (tlS s)
def cutB (s : ByteArray) : Bool := dotB s && (vldB (hdS s) && decide ((tlS s).size ≤ 320))
def pickS (b : Bool) (s : ByteArray) : ByteArray := if b then s else ⟨#[]⟩
abbrev cutS (s : ByteArray) : Value := .tuple #[.string (pickS (dotB s) (hdS s)), .string (pickS (dotB s) (tlS s)), .bool (cutB s)]
abbrev cutI (s : ByteArray) : Value := .tuple #[.string (pickS (cutB s) (hdS s)), .string (pickS (cutB s) (tlS s)), .bool (cutB s)]
theorem cutB_dot {s : ByteArray} (h : cutB s = true) : dotB s = true := by unfold cutB at h; rw [Bool.and_eq_true] at h; exact h.1
theorem cutB_facts {s : ByteArray} (h : cutB s = true) : atP s < s.size ∧ onlyB (tlS s) = true ∧ vldB (hdS s) = true ∧ (tlS s).size ≤ 320 := by
  simp only [cutB, dotB, Bool.and_eq_true, decide_eq_true_eq] at h
  exact ⟨h.1.1, h.1.2, h.2.1, h.2.2⟩
theorem cutS_yes {s : ByteArray} (h : cutB s = true) : cutS s = .tuple #[.string (hdS s), .string (tlS s), .bool true] := by
  unfold cutS pickS; rw [h, cutB_dot h]; rfl
theorem cutI_yes {s : ByteArray} (h : cutB s = true) : cutI s = .tuple #[.string (hdS s), .string (tlS s), .bool true] := by
  unfold cutI pickS; rw [h]; rfl
theorem cutI_no {s : ByteArray} (h : cutB s = false) : cutI s = .tuple #[.string ⟨#[]⟩, .string ⟨#[]⟩, .bool false] := by
  unfold cutI pickS; rw [h]; rfl
end Go.Proofs.YtaleeoghifcadaaDoor

namespace Go.Proofs.YtaleeoghifcadaaDoor
set_option linter.unusedSimpArgs false
set_option linter.unusedVariables false
open Go.RowKit

def ptB (s : ByteArray) : Bool := cutB s && inB 1000000 (valX (toL (hdS s))) (valY (toL (hdS s)))
def ptR (k : FloatKind) (s : ByteArray) : Nat := whR k (pv k (toL (tlS s))) (valX (toL (hdS s)))
def ptI (k : FloatKind) (s : ByteArray) : Nat := whI k (pv k (toL (tlS s))) (valY (toL (hdS s)))
abbrev ptV (k : FloatKind) (s : ByteArray) : Value := .tuple #[.complex k (pickN (ptB s) (ptR k s)) (pickN (ptB s) (ptI k s)), .bool (ptB s)]
theorem ptV_yes {k : FloatKind} {s : ByteArray} (h : cutB s = true) (hi : inB 1000000 (valX (toL (hdS s))) (valY (toL (hdS s))) = true) :
    ptV k s = .tuple #[.complex k (whR k (pv k (toL (tlS s))) (valX (toL (hdS s)))) (whI k (pv k (toL (tlS s))) (valY (toL (hdS s)))), .bool true] := by
  have : ptB s = true := by unfold ptB; rw [h, hi]; rfl
  unfold ptV pickN; rw [this]; rfl
theorem ptV_no {k : FloatKind} {s : ByteArray} (h : cutB s = false ∨ inB 1000000 (valX (toL (hdS s))) (valY (toL (hdS s))) = false) :
    ptV k s = .tuple #[.complex k 0 0, .bool false] := by
  have : ptB s = false := by unfold ptB; rcases h with h | h <;> rw [h] <;> simp
  unfold ptV pickN; rw [this]; rfl
theorem bitW_int (k : FloatKind) {c : UInt8} (h : c.toNat = 48 ∨ c.toNat = 49) : bitW k c = floatOfInt k ((c.toNat : Int) - 48) := by
  have e : c = 48 ∨ c = 49 := by
    rcases h with h | h
    · exact .inl (UInt8.toNat_inj.1 (by rw [h]; rfl))
    · exact .inr (UInt8.toNat_inj.1 (by rw [h]; rfl))
  rcases e with rfl | rfl
  · exact (zero_word k).symm
  · exact (one_word k).symm
theorem drop_consB (T : ByteArray) (i : Nat) (h : i < T.size) : (toL T).drop i = T[i] :: (toL T).drop (i + 1) := by
  have h' : i < (toL T).length := by rw [toL_len]; exact h
  rw [List.drop_eq_getElem_cons h']
  congr 1
/-- what one place asks of the floats -/
theorem place_ops (k : FloatKind) {T : ByteArray} (hb : ∀ c ∈ toL T, bitC c = true) (hs : T.size ≤ 320) {i : Nat} (h : i < T.size) :
    ∃ r j, floatBits .add k (pv k ((toL T).drop (i + 1))).1 (floatOfInt k ((T[i].toNat : Int) - 48)) = some r ∧ floatBits .add k (pv k ((toL T).drop (i + 1))).2 0 = some j ∧
      Div k r j (pv k ((toL T).drop i)).1 (pv k ((toL T).drop i)).2 := by
  have hl : ((toL T).drop (i + 1)).length ≤ 320 := by rw [List.length_drop, toL_len]; omega
  obtain ⟨h1, h2, h3, -⟩ := pv_step (k := k) (c := T[i]) (B := ((toL T).drop (i + 1)).length) (by omega) (pv_pt k _ (by omega))
  have hbit : T[i].toNat = 48 ∨ T[i].toNat = 49 := (bitC_iff _).1 (hb _ (List.mem_of_getElem? (toL_get T i h)))
  rw [bitW_int k hbit] at h1
  rw [drop_consB T i h]
  exact ⟨_, _, h1, h2, h3⟩
theorem last_ops (k : FloatKind) {T : ByteArray} (hs : T.size ≤ 320) {X Y : Int} (hX : -1000000 ≤ X ∧ X ≤ 1000000) (hY : -1000000 ≤ Y ∧ Y ≤ 1000000) :
    floatBits .add k (pv k (toL T)).1 (floatOfInt k X) = some (whR k (pv k (toL T)) X) ∧ floatBits .add k (pv k (toL T)).2 (floatOfInt k Y) = some (whI k (pv k (toL T)) Y) ∧
    Pt k.format (un k) 1001000 (whR k (pv k (toL T)) X) (whI k (pv k (toL T)) Y) :=
  wh_ops ((pv_pt k (toL T) (by rw [toL_len]; omega)).mono (by rw [toL_len]; omega)) hX hY
def PtRel (k : FloatKind) (T : ByteArray) (W : World) (m : Nat) (z i : Value) (wr : World) : Prop :=
  m ≤ T.size ∧ i = .int .i64 ((m : Int) - 1) ∧ wr = W ∧ z = .complex k (pv k ((toL T).drop m)).1 (pv k ((toL T).drop m)).2
def PtRelI (k : FloatKind) (T : ByteArray) (w : World) (b : Nat) (X Y : Int) (m : Nat) (z i : Value) (wr : World) : Prop :=
  m ≤ T.size ∧ i = .int .i64 ((m : Int) - 1) ∧ Below w.heap.size w wr ∧ wr.cell? ⟨b, 0, none⟩ = some (.int .i64 X) ∧ wr.cell? ⟨b, 1, none⟩ = some (.int .i64 Y) ∧ z = .complex k (pv k ((toL T).drop m)).1 (pv k ((toL T).drop m)).2
theorem drop_end (T : ByteArray) : (toL T).drop T.size = [] := List.drop_of_length_le (by rw [toL_len]; exact Nat.le_refl _)
end Go.Proofs.YtaleeoghifcadaaDoor

namespace Go.Proofs.YtaleeoghifcadaaDoor
set_option linter.unusedSimpArgs false
set_option linter.unusedVariables false
open Go.RowKit

theorem toL_app (a b : ByteArray) : toL (a ++ b) = toL a ++ toL b := by
  show (a ++ b).data.toList = _
  rw [ByteArray.data_append, Array.toList_append]
theorem toL_hd (s : ByteArray) : toL (hdS s) = (toL s).take (atP s) := by
  show toL (s.extract 0 (atP s)) = _
  rw [toL_extract, List.drop_zero]
theorem toL_tl (s : ByteArray) : toL (tlS s) = (toL s).drop (atP s + 1) := by
  show toL (s.extract (atP s + 1) s.size) = _
  rw [toL_extract, List.take_of_length_le (by rw [toL_len]; exact Nat.le_refl _)]
theorem split_at {s : ByteArray} (h : atP s < s.size) : toL s = toL (hdS s) ++ 46 :: toL (tlS s) := by
  have hl : atP s < (toL s).length := by rw [toL_len]; exact h
  have hg : (toL s)[atP s]? = some 46 := dotL_get hl
  rw [toL_hd, toL_tl]
  conv => lhs; rw [← List.take_append_drop (atP s) (toL s)]
  congr 1
  rw [List.drop_eq_getElem_cons hl]
  rw [List.getElem?_eq_getElem hl, Option.some.injEq] at hg
  rw [hg]
theorem nodot (s : ByteArray) : ∀ c ∈ toL (hdS s), c ≠ 46 := by
  intro c hc e
  subst e
  rw [toL_hd] at hc
  obtain ⟨i, hi, he⟩ := List.mem_iff_getElem.1 hc
  rw [List.length_take] at hi
  have : (toL s)[i]? = some 46 := by
    rw [List.getElem_take] at he
    rw [List.getElem?_eq_getElem (by omega), he]
  exact dotL_before (l := toL s) (by show i < atP s; omega) this
theorem dotL_app : ∀ {a : List UInt8} (r : List UInt8), (∀ c ∈ a, c ≠ 46) → dotL (a ++ 46 :: r) = a.length
  | [], r, _ => rfl
  | c :: a, r, h => by
    have hc : ¬ (c == 46) = true := by simpa using h c (by simp)
    show (if c == 46 then 0 else dotL (a ++ 46 :: r) + 1) = _
    rw [if_neg hc, dotL_app r (fun c hc => h c (by simp [hc]))]; rfl
theorem cut_of {s : ByteArray} {a r : List UInt8} (h : toL s = a ++ 46 :: r) (ha : ∀ c ∈ a, c ≠ 46) : atP s = a.length ∧ atP s < s.size ∧ toL (hdS s) = a ∧ toL (tlS s) = r := by
  have e : atP s = a.length := by unfold atP; rw [h]; exact dotL_app r ha
  have hs : s.size = a.length + (r.length + 1) := by rw [← toL_len, h, List.length_append, List.length_cons]
  refine ⟨e, by omega, ?_, ?_⟩
  · rw [toL_hd, e, h, List.take_left]
  · rw [toL_tl, e, h]
    have : (a ++ 46 :: r).drop (a.length + 1) = r := by
      rw [← List.drop_drop, List.drop_left]; rfl
    exact this
theorem onlyB_iff (s : ByteArray) : onlyB s = true ↔ ∀ c ∈ toL s, bitC c = true := ⟨onlyB_bits, onlyB_good⟩
/-- what is a number text, told by its lists -/
theorem cutB_iff {s : ByteArray} {a r : List UInt8} (h : toL s = a ++ 46 :: r) (ha : ∀ c ∈ a, c ≠ 46) : cutB s = true ↔ (∀ c ∈ r, bitC c = true) ∧ vldL a = true ∧ r.length ≤ 320 := by
  obtain ⟨h1, h2, h3, h4⟩ := cut_of h ha
  have ht : (tlS s).size = r.length := by rw [← toL_len, h4]
  unfold cutB dotB
  simp only [Bool.and_eq_true, decide_eq_true_eq]
  rw [onlyB_iff, h4, ht]
  unfold vldB
  rw [h3]
  exact ⟨fun h => ⟨h.1.2, h.2.1, h.2.2⟩, fun h => ⟨⟨h2, h.1⟩, h.2.1, h.2.2⟩⟩
theorem hd_same {s t : ByteArray} {a r q : List UInt8} (hs : toL s = a ++ 46 :: r) (ht : toL t = a ++ 46 :: q) (ha : ∀ c ∈ a, c ≠ 46) : hdS t = hdS s := by
  apply toL_ext
  rw [(cut_of hs ha).2.2.1, (cut_of ht ha).2.2.1]
/-- two number texts with the same digits ahead of the point -/
theorem ptB_same {s t : ByteArray} (h : hdS t = hdS s) (hs : cutB s = true) (ht : cutB t = true) : ptB t = ptB s := by
  unfold ptB; rw [h, hs, ht]
theorem pv_nought (k : FloatKind) : pv k [48] = (0, 0) := by cases k <;> decide +kernel
theorem pv_snoc0 (k : FloatKind) : ∀ l : List UInt8, pv k (l ++ [48]) = pv k l
  | [] => pv_nought k
  | c :: l => by
    have ih := pv_snoc0 k l
    rw [List.cons_append]
    simp only [pv, ih]
theorem pt_fin' (k : FloatKind) {s : ByteArray} (h : ptB s = true) : Pt k.format (un k) 1001000 (ptR k s) (ptI k s) := by
  unfold ptB at h
  rw [Bool.and_eq_true] at h
  obtain ⟨h, hi⟩ := h
  obtain ⟨x1, x2, y1, y2⟩ := inB_le hi
  exact (last_ops k (cutB_facts h).2.2.2 ⟨x1, x2⟩ ⟨y1, y2⟩).2.2
end Go.Proofs.YtaleeoghifcadaaDoor

namespace Go.Proofs.YtaleeoghifcadaaDoor
set_option linter.unusedSimpArgs false
set_option linter.unusedVariables false
open Go.RowKit Ieee

def tb (p : Int × Int) : Int × Int := (-p.1 - p.2, p.1 - p.2)
def tbI : Nat → Int × Int → Int × Int
  | 0, p => p
  | n + 1, p => tb (tbI n p)
/-- two words that stand for two values -/
def Vl2 (k : FloatKind) (x y : Nat) (p : Int × Int) : Prop := Vl k x p.1 ∧ Vl k y p.2
def Okv2 (k : FloatKind) (p : Int × Int) : Prop := Okv k p.1 ∧ Okv k p.2
def TbPost (p : Int × Int) (w : World) (e : Ending) (w' : World) : Prop := ∃ r i, e = .returned (.complex .f64 r i) ∧ Vl2 .f64 r i p ∧ r < 18446744073709551616 ∧ w = w'
def TbRel (k : Nat) (p : Int × Int) (w : World) (m : Nat) (z c : Value) (wr : World) : Prop :=
  ∃ j r i : Nat, j + m = k ∧ c = .int .i64 j ∧ wr = w ∧ z = .complex .f64 r i ∧ Vl2 .f64 r i (tbI j p) ∧ r < 18446744073709551616
theorem tb_step {r i : Nat} {p : Int × Int} (h : Vl2 .f64 r i p) (hr : r < 18446744073709551616) (ho : Okv2 .f64 (tb p)) :
    ∃ a b, floatBits .sub .f64 (Op.negFloat .f64 r) i = some a ∧ floatBits .sub .f64 r i = some b ∧ Vl2 .f64 a b (tb p) ∧ a < 18446744073709551616 := by
  obtain ⟨a, a1, a2⟩ := vl_sub (vl_neg h.1 hr) h.2 ho.1
  obtain ⟨b, b1, b2⟩ := vl_sub h.1 h.2 ho.2
  exact ⟨a, b, a1, b1, ⟨a2, b2⟩, Format.sub_lt _ a1⟩
end Go.Proofs.YtaleeoghifcadaaDoor

namespace Go.Proofs.YtaleeoghifcadaaDoor
set_option linter.unusedSimpArgs false
set_option linter.unusedVariables false
open Ieee

/-- the unit of a number with n places of twos -/
def uu (n : Nat) : Nat := un .f64 - n
theorem uu_split {n : Nat} (hn : n ≤ 60) : 2 ^ n * 2 ^ uu n = 2 ^ un .f64 := by
  rw [← Nat.pow_add, show n + uu n = un .f64 by unfold uu; have : un .f64 = 1074 := rfl; omega]
theorem uu_succ {n : Nat} (hn : n < 60) : uu n = uu (n + 1) + 1 := by unfold uu; have : un .f64 = 1074 := rfl; omega
theorem uu_zero : uu 0 = un .f64 := rfl
theorem natAbs_pow (m : Int) (e : Nat) : (m * 2 ^ e).natAbs = m.natAbs * 2 ^ e := by rw [Int.natAbs_mul, Int.natAbs_pow]; rfl
theorem okn {m : Int} {n : Nat} (hn : n ≤ 60) (h1 : m.natAbs < 2 ^ 53) (h2 : m.natAbs ≤ 2000000 * 2 ^ n) : Okv .f64 (m * 2 ^ uu n) := by
  refine ⟨?_, ?_⟩
  · rw [natAbs_pow]; exact rep_scale (rep_small h1) _
  · rw [natAbs_pow, ← uu_split hn, ← Nat.mul_assoc]; exact Nat.mul_le_mul_right _ h2
theorem sg_of {s : Bool} {V : Nat} {m : Int} {e : Nat} (h : sg s V = m * 2 ^ e) : V = m.natAbs * 2 ^ e := by
  have := congrArg Int.natAbs h
  rwa [sg_abs, natAbs_pow] at this
theorem vl_half {x : Nat} {m : Int} {e : Nat} (hx : Vl .f64 x (m * 2 ^ (e + 1))) (h1 : m.natAbs < 2 ^ 53) (hl : m.natAbs * 2 ^ (e + 1) ≤ 2000000 * 2 ^ un .f64) :
    ∃ r, floatBits .quo .f64 x 4611686018427387904 = some r ∧ Vl .f64 r (m * 2 ^ e) := by
  obtain ⟨s, V, h2, h3⟩ := hx
  have hV := sg_of h3
  refine ⟨_, fl_div2 h2 two_d, s, m.natAbs * 2 ^ e, ?_, ?_⟩
  · have h4 := fl_half (f := double) s V (lim_d (u := 1) (by rw [hV]; omega))
    have e1 : rndU double 1 V = m.natAbs * 2 ^ e := by
      rw [hV, Nat.pow_succ, ← Nat.mul_assoc]
      have := rndU_exact (f := double) (u := 1) (c := m.natAbs * 2 ^ e) (rep_scale (rep_small h1) e)
      rwa [Nat.pow_one] at this
    rw [e1] at h4
    exact h4
  · rw [hV] at h3
    have hp : (2 : Int) ^ (e + 1) ≠ 0 := Int.pow_ne_zero (by decide)
    rw [sg_scale] at h3 ⊢
    rw [Int.eq_of_mul_eq_mul_right hp h3]
theorem vl_zero : Vl .f64 0 0 := ⟨false, 0, fl0_d, rfl⟩
theorem vl_divide {x y : Nat} {A B : Int} {n : Nat} (hn : n < 60) (hx : Vl .f64 x (A * 2 ^ uu n)) (hy : Vl .f64 y (B * 2 ^ uu n)) (h1 : A.natAbs + B.natAbs < 2 ^ 53) (h2 : A.natAbs + B.natAbs ≤ 2000000 * 2 ^ n) :
    Vl2 .f64 (divR .f64 x y) (divI .f64 x y) ((B - A) * 2 ^ uu (n + 1), (-A - B) * 2 ^ uu (n + 1)) := by
  have a1 : (B - A).natAbs ≤ A.natAbs + B.natAbs := by omega
  have a2 : (-A - B).natAbs ≤ A.natAbs + B.natAbs := by omega
  have hle : ∀ m : Int, m.natAbs ≤ A.natAbs + B.natAbs → m.natAbs * 2 ^ (uu (n + 1) + 1) ≤ 2000000 * 2 ^ un .f64 := fun m hm => by
    rw [← uu_succ hn, ← uu_split (show n ≤ 60 by omega), ← Nat.mul_assoc]
    exact Nat.mul_le_mul_right _ (by omega)
  obtain ⟨d, d1, d2⟩ := vl_sub hy hx (by rw [← Int.sub_mul]; exact okn (by omega) (by omega) (by omega))
  obtain ⟨m, m1, m2⟩ := vl_sub vl_zero hx (by rw [Int.zero_sub, ← Int.neg_mul]; exact okn (by omega) (by omega) (by omega))
  rw [Int.zero_sub, ← Int.neg_mul] at m2
  obtain ⟨e, e1, e2⟩ := vl_sub m2 hy (by rw [← Int.sub_mul]; exact okn (by omega) (by omega) (by omega))
  rw [← Int.sub_mul, uu_succ hn] at d2 e2
  obtain ⟨r, r1, r2⟩ := vl_half d2 (by omega) (hle _ a1)
  obtain ⟨i, i1, i2⟩ := vl_half e2 (by omega) (hle _ a2)
  obtain ⟨q1, q2⟩ := div_of (k := .f64) (d := d) (n := m) (e := e) ⟨d1, r1, m1, e1, i1⟩
  rw [q1, q2]
  exact ⟨r2, i2⟩
/-- the value of places, in units of 2 to the power of minus their number -/
def ev : List UInt8 → Int × Int
  | [] => (0, 0)
  | c :: l => ((ev l).2 - ((ev l).1 + dg c * 2 ^ l.length), -((ev l).1 + dg c * 2 ^ l.length) - (ev l).2)
theorem ev_le : ∀ (l : List UInt8), (∀ c ∈ l, bitC c = true) → (ev l).1.natAbs ≤ l.length * 2 ^ l.length ∧ (ev l).2.natAbs ≤ l.length * 2 ^ l.length
  | [], _ => by simp [ev]
  | c :: l, h => by
    obtain ⟨h1, h2⟩ := ev_le l (fun c hc => h c (by simp [hc]))
    have hd := dg_bit (h c (by simp))
    have hdn : (dg c * 2 ^ l.length).natAbs ≤ 2 ^ l.length := by
      rw [natAbs_pow]
      have : (dg c).natAbs ≤ 1 := by omega
      calc (dg c).natAbs * 2 ^ l.length ≤ 1 * 2 ^ l.length := Nat.mul_le_mul_right _ this
        _ = 2 ^ l.length := Nat.one_mul _
    have e : (l.length + 1) * 2 ^ (l.length + 1) = 2 * (l.length * 2 ^ l.length) + 2 * 2 ^ l.length := by rw [Nat.pow_succ, Nat.add_mul, Nat.one_mul, ← Nat.mul_assoc, Nat.mul_comm (l.length * 2 ^ l.length) 2, Nat.mul_comm (2 ^ l.length) 2]
    simp only [ev, List.length_cons]
    rw [e]
    generalize 2 ^ l.length = P at *
    generalize dg c * (2 : Int) ^ l.length = D at *
    generalize l.length * P = Q at *
    omega
theorem bitW_vl (c : UInt8) (h : bitC c = true) : Vl .f64 (bitW .f64 c) (dg c * 2 ^ un .f64) := by
  rw [bitW_int .f64 ((bitC_iff c).1 h)]
  have hd := dg_bit h
  refine ⟨_, _, fl_wholeK .f64 (decide (dg c < 0)) (m := (dg c).natAbs) (by omega), ?_⟩
  rw [sg_scale]
  congr 1
  rw [decide_eq_false (by omega)]
  show (((dg c).natAbs : Nat) : Int) = dg c
  omega
theorem int_vl {x : Int} (h : -1000000 ≤ x ∧ x ≤ 1000000) : Vl .f64 (floatOfInt .f64 x) (x * 2 ^ un .f64) := by
  refine ⟨_, _, fl_wholeK .f64 (decide (x < 0)) (m := x.natAbs) (by omega), ?_⟩
  rw [sg_scale]
  congr 1
  by_cases c : x < 0
  · rw [decide_eq_true c]; show -((x.natAbs : Nat) : Int) = x; omega
  · rw [decide_eq_false c]; show ((x.natAbs : Nat) : Int) = x; omega
theorem scale_up (d : Int) {n : Nat} (hn : n ≤ 60) : d * 2 ^ un .f64 = d * 2 ^ n * 2 ^ uu n := by
  rw [Int.mul_assoc, ← Int.pow_add]
  congr 2
  unfold uu
  have : un .f64 = 1074 := rfl
  omega
theorem len_pow {n : Nat} (hn : n ≤ 45) : (2 * n + 1) * 2 ^ n < 2 ^ 53 := by
  have h1 : (2 * n + 1) * 2 ^ n ≤ 91 * 2 ^ 45 := Nat.mul_le_mul (by omega) (Nat.pow_le_pow_right (by omega) hn)
  have h2 : 91 * 2 ^ 45 < 2 ^ 53 := by decide
  omega
theorem pv_ex : ∀ (l : List UInt8), (∀ c ∈ l, bitC c = true) → l.length ≤ 45 → Vl2 .f64 (pv .f64 l).1 (pv .f64 l).2 ((ev l).1 * 2 ^ uu l.length, (ev l).2 * 2 ^ uu l.length)
  | [], _, _ => by
    have e : ev [] = (0, 0) := rfl
    rw [e]
    simp only [Int.zero_mul]
    exact ⟨vl_zero, vl_zero⟩
  | c :: l, h, hl => by
    simp only [List.length_cons] at hl
    have hb := fun c hc => h c (List.mem_cons_of_mem _ hc)
    obtain ⟨v1, v2⟩ := pv_ex l hb (by omega)
    obtain ⟨b1, b2⟩ := ev_le l hb
    have hc := h c (by simp)
    have hd := dg_bit hc
    have hp := len_pow (n := l.length) (by omega)
    have w1 := bitW_vl c hc
    rw [scale_up (dg c) (n := l.length) (by omega)] at w1
    have hdn : (dg c * 2 ^ l.length).natAbs ≤ 2 ^ l.length := by
      rw [natAbs_pow]
      have : (dg c).natAbs ≤ 1 := by omega
      calc (dg c).natAbs * 2 ^ l.length ≤ 1 * 2 ^ l.length := Nat.mul_le_mul_right _ this
        _ = 2 ^ l.length := Nat.one_mul _
    have e2 : (2 * l.length + 1) * 2 ^ l.length = 2 * (l.length * 2 ^ l.length) + 2 ^ l.length := by rw [Nat.add_mul, Nat.one_mul, Nat.mul_assoc]
    have hsum : ((ev l).1 + dg c * 2 ^ l.length).natAbs + (ev l).2.natAbs ≤ (2 * l.length + 1) * 2 ^ l.length := by omega
    have hbig : (2 * l.length + 1) * 2 ^ l.length ≤ 2000000 * 2 ^ l.length := Nat.mul_le_mul_right _ (by omega)
    obtain ⟨x, x1, x2⟩ := vl_add v1 w1 (by rw [← Int.add_mul]; exact okn (by omega) (by omega) (by omega))
    obtain ⟨y, y1, y2⟩ := vl_add v2 vl_zero (by rw [Int.add_zero]; exact okn (by omega) (by omega) (by omega))
    rw [← Int.add_mul] at x2
    rw [Int.add_zero] at y2
    have ex : plR .f64 (pv .f64 l) c = x := by simp [plR, gd, x1]
    have ey : plI .f64 (pv .f64 l) = y := by simp [plI, gd, y1]
    have hv := vl_divide (n := l.length) (by omega) x2 y2 (by omega) (by omega)
    have ep : pv .f64 (c :: l) = (divR .f64 (plR .f64 (pv .f64 l) c) (plI .f64 (pv .f64 l)), divI .f64 (plR .f64 (pv .f64 l) c) (plI .f64 (pv .f64 l))) := rfl
    rw [ep, ex, ey]
    exact hv
/-- with the whole number -/
theorem wh_ex {l : List UInt8} (hb : ∀ c ∈ l, bitC c = true) (hl : l.length ≤ 45) {X Y : Int} (hX : -1000000 ≤ X ∧ X ≤ 1000000) (hY : -1000000 ≤ Y ∧ Y ≤ 1000000)
    (h1 : ((ev l).1 + X * 2 ^ l.length).natAbs < 2 ^ 53) (h2 : ((ev l).2 + Y * 2 ^ l.length).natAbs < 2 ^ 53)
    (h3 : ((ev l).1 + X * 2 ^ l.length).natAbs ≤ 2000000 * 2 ^ l.length) (h4 : ((ev l).2 + Y * 2 ^ l.length).natAbs ≤ 2000000 * 2 ^ l.length) :
    Vl2 .f64 (whR .f64 (pv .f64 l) X) (whI .f64 (pv .f64 l) Y) (((ev l).1 + X * 2 ^ l.length) * 2 ^ uu l.length, ((ev l).2 + Y * 2 ^ l.length) * 2 ^ uu l.length) := by
  obtain ⟨v1, v2⟩ := pv_ex l hb hl
  have w1 := int_vl hX
  have w2 := int_vl hY
  rw [scale_up X (n := l.length) (by omega)] at w1
  rw [scale_up Y (n := l.length) (by omega)] at w2
  obtain ⟨x, x1, x2⟩ := vl_add v1 w1 (by rw [← Int.add_mul]; exact okn (by omega) h1 h3)
  obtain ⟨y, y1, y2⟩ := vl_add v2 w2 (by rw [← Int.add_mul]; exact okn (by omega) h2 h4)
  have ex : whR .f64 (pv .f64 l) X = x := by simp [whR, gd, x1]
  have ey : whI .f64 (pv .f64 l) Y = y := by simp [whI, gd, y1]
  rw [← Int.add_mul] at x2 y2
  rw [ex, ey]
  exact ⟨x2, y2⟩
end Go.Proofs.YtaleeoghifcadaaDoor

namespace Go.Proofs.YtaleeoghifcadaaDoor
set_option linter.unusedSimpArgs false
set_option linter.unusedVariables false
open Go.RowKit

theorem pwide_c (x y : Int) (w : World) : Calls Tryd.prog 82 #[pr x y] w fun e w' => e = .returned (.complex .f64 (floatOfInt .f64 x) (floatOfInt .f64 y)) ∧ Below w.heap.size w w' := by
  go_enter Tryd.func82, Tryd.ntmps82
  go_wp2
  go_ret
  exact ⟨rfl, by (first | ((repeat' with_reducible first | assumption | exact Below.refl _ _ | apply Blw.alloc | apply Blw.drew | apply Blw.drewN | (refine Blw.after ?_ (by assumption)) | (refine Blw.set ?_ (by first | (dsimp only; omega) | (simp; omega)) _)); done) | (repeat' (first | assumption | exact Below.refl _ _ | apply Blw.alloc | apply Blw.drew | apply Blw.drewN | (refine Blw.after ?_ (by assumption)) | (refine Blw.set ?_ (by first | (dsimp only; omega) | (simp; done) | (simp; omega)) _))))⟩
end Go.Proofs.YtaleeoghifcadaaDoor

namespace Go.Proofs.YtaleeoghifcadaaDoor
set_option linter.unusedSimpArgs false
set_option linter.unusedVariables false
open Go.RowKit Ieee

theorem cut_zero (s : Bool) (n p : Nat) : Toward.zero.cut s n p = n / 2 ^ p := by
  unfold Toward.cut
  simp only [Nat.one_shiftLeft, Bool.toNat_false, Nat.add_zero]
  rcases Nat.le_total p (n.log2 + 2) with h | h
  · rw [Nat.min_eq_left h]
  · rw [Nat.min_eq_right h]
    have h1 : n < 2 ^ (n.log2 + 1) := Nat.lt_log2_self
    have h2 : 2 ^ (n.log2 + 2) = 2 * 2 ^ (n.log2 + 1) := by rw [Nat.pow_succ]; omega
    have h3 : 2 ^ (n.log2 + 2) ≤ 2 ^ p := Nat.pow_le_pow_right (by omega) h
    rw [Nat.div_eq_of_lt (by omega), Nat.div_eq_of_lt (by omega)]
theorem toInt_vl {x : Nat} {X : Int} (h : Vl .f64 x (X * 2 ^ un .f64)) : (FloatKind.f64.decode x).toInt .zero = some X := by
  obtain ⟨s, V, ⟨m, k, h1, h2, _⟩, h3⟩ := h
  have hV := sg_of h3
  have hd : FloatKind.f64.decode x = .number s m (double.leastPlace + (k : Int)) := h1
  rw [hd]
  unfold Datum.toInt Datum.integral
  simp only [cut_zero, Nat.shiftLeft_eq, signed_sg, Nat.pow_zero, Nat.mul_one]
  rw [least_d]
  have hu : un .f64 = 1074 := rfl
  have e : m * 2 ^ ((-1074 : Int) + (k : Int)).toNat / 2 ^ (-((-1074 : Int) + (k : Int))).toNat = X.natAbs := by
    have hmk : m * 2 ^ k = X.natAbs * 2 ^ un .f64 := by rw [h2, hV]
    rcases Nat.le_total (un .f64) k with c | c
    · rw [show (-((-1074 : Int) + (k : Int))).toNat = 0 by omega, Nat.pow_zero, Nat.div_one, show ((-1074 : Int) + (k : Int)).toNat = k - un .f64 by omega]
      have e2 : m * 2 ^ k = m * 2 ^ (k - un .f64) * 2 ^ un .f64 := by rw [Nat.mul_assoc, ← Nat.pow_add, show k - un .f64 + un .f64 = k by omega]
      rw [e2] at hmk
      exact Nat.eq_of_mul_eq_mul_right (Nat.two_pow_pos _) hmk
    · rw [show ((-1074 : Int) + (k : Int)).toNat = 0 by omega, Nat.pow_zero, Nat.mul_one, show (-((-1074 : Int) + (k : Int))).toNat = un .f64 - k by omega]
      have e2 : X.natAbs * 2 ^ un .f64 = X.natAbs * 2 ^ (un .f64 - k) * 2 ^ k := by rw [Nat.mul_assoc, ← Nat.pow_add, show un .f64 - k + k = un .f64 by omega]
      rw [e2] at hmk
      rw [Nat.eq_of_mul_eq_mul_right (Nat.two_pow_pos _) hmk, Nat.mul_div_cancel _ (Nat.two_pow_pos _)]
  rw [e]
  rw [hV, sg_scale] at h3
  have hp : (2 : Int) ^ un .f64 ≠ 0 := Int.pow_ne_zero (by decide)
  rw [Int.eq_of_mul_eq_mul_right hp h3]
theorem toInt_val {x : Nat} {X : Int} (h : Vl .f64 x (X * 2 ^ un .f64)) (hX : -1000000 ≤ X ∧ X ≤ 1000000) : floatToIntVal .f64 x .i64 = some X := by
  unfold floatToIntVal
  rw [toInt_vl h]
  have e1 : IntKind.i64.min = -9223372036854775808 := rfl
  have e2 : IntKind.i64.max = 9223372036854775807 := rfl
  simp only [e1, e2]
  rw [if_pos (by omega)]
theorem leq_of {x y : Nat} {a b : Int} (hx : Vl .f64 x (a * 2 ^ un .f64)) (hy : Vl .f64 y (b * 2 ^ un .f64)) (h : a ≤ b) :
    (FloatKind.f64.format.order x y == some .lt || FloatKind.f64.format.order x y == some .eq) = true := by
  rw [vl_order hx hy, scale_cmp]
  rcases Int.lt_or_eq_of_le h with h | h
  · rw [Int.compare_eq_lt.2 h]; rfl
  · rw [Int.compare_eq_eq.2 h]; rfl
theorem low_word : floatOfInt .f64 (-1000000) = 13920209183539462144 := by decide +kernel
theorem high_word : floatOfInt .f64 1000000 = 4696837146684686336 := by decide +kernel
set_option maxHeartbeats 2000000 in
theorem wpair_c (x y : Nat) (X Y : Int) (w : World) (hx : Vl .f64 x (X * 2 ^ un .f64)) (hy : Vl .f64 y (Y * 2 ^ un .f64)) (hX : -1000000 ≤ X ∧ X ≤ 1000000) (hY : -1000000 ≤ Y ∧ Y ≤ 1000000) :
    Calls Tryd.prog 79 #[.complex .f64 x y] w fun e w' => e = .returned (.tuple #[pr X Y, .bool true]) ∧ Below w.heap.size w w' := by
  have lo := int_vl (x := -1000000) (by omega)
  have hi := int_vl (x := 1000000) (by omega)
  rw [low_word] at lo
  rw [high_word] at hi
  have c1 := leq_of lo hx hX.1
  have c2 := leq_of hx hi hX.2
  have c3 := leq_of lo hy hY.1
  have c4 := leq_of hy hi hY.2
  have g1 : FloatKind.f64.format.order (floatOfInt .f64 X) x = some .eq := vl_same (int_vl hX) hx
  have g2 : FloatKind.f64.format.order (floatOfInt .f64 Y) y = some .eq := vl_same (int_vl hY) hy
  have f1 := fun w => run_convert_float_int (P := Tryd.prog) w 108 3 .f64 .i64 x X (by rw [Tryd.underlying108]; rfl) Tryd.underlying3 (toInt_val hx hX)
  have f2 := fun w => run_convert_float_int (P := Tryd.prog) w 108 3 .f64 .i64 y Y (by rw [Tryd.underlying108]; rfl) Tryd.underlying3 (toInt_val hy hY)
  clear lo hi hx hy hX hY
  go_enter Tryd.func79, Tryd.ntmps79
  go_wp2_with fail
  generalize hW : World.alloc (World.alloc w _) _ = W0
  have kW0_1 : W0.cell? ⟨w.heap.size, 0, none⟩ = some (.int .i64 (0)) := by rw [← hW]; clear hW; first | (go_simp; done) | ((repeat refine keepcell ((Below.refl _ _).alloc (Nat.le_refl _) _) ?_); go_simp; done) | (simp only [frozen?_alloc_cells]; go_simp; done)
  have zW0_1 : W0.frozen? ⟨w.heap.size, 0, none⟩ = false := by rw [← hW]; clear hW; first | (go_simp; done) | ((repeat refine keepcell ((Below.refl _ _).alloc (Nat.le_refl _) _) ?_); go_simp; done) | (simp only [frozen?_alloc_cells]; go_simp; done)
  have kW0_2 : W0.cell? ⟨w.heap.size, 1, none⟩ = some (.int .i64 (0)) := by rw [← hW]; clear hW; first | (go_simp; done) | ((repeat refine keepcell ((Below.refl _ _).alloc (Nat.le_refl _) _) ?_); go_simp; done) | (simp only [frozen?_alloc_cells]; go_simp; done)
  have zW0_2 : W0.frozen? ⟨w.heap.size, 1, none⟩ = false := by rw [← hW]; clear hW; first | (go_simp; done) | ((repeat refine keepcell ((Below.refl _ _).alloc (Nat.le_refl _) _) ?_); go_simp; done) | (simp only [frozen?_alloc_cells]; go_simp; done)
  have : w.heap.size < W0.heap.size := World.block_lt_of_cell? W0 ⟨w.heap.size, 0, none⟩ (by assumption)
  have kW0_3 : W0.cell? ⟨w.heap.size + 1, 0, none⟩ = some (.int .i64 (X)) := by rw [← hW]; clear hW; first | (go_simp; done) | ((repeat refine keepcell ((Below.refl _ _).alloc (Nat.le_refl _) _) ?_); go_simp; done) | (simp only [frozen?_alloc_cells]; go_simp; done)
  have kW0_4 : W0.cell? ⟨w.heap.size + 1, 1, none⟩ = some (.int .i64 (Y)) := by rw [← hW]; clear hW; first | (go_simp; done) | ((repeat refine keepcell ((Below.refl _ _).alloc (Nat.le_refl _) _) ?_); go_simp; done) | (simp only [frozen?_alloc_cells]; go_simp; done)
  have : w.heap.size + 1 < W0.heap.size := World.block_lt_of_cell? W0 ⟨w.heap.size + 1, 0, none⟩ (by assumption)
  have hBW0 : Below w.heap.size w W0 := by rw [← hW]; (first | ((repeat' with_reducible first | assumption | exact Below.refl _ _ | apply Blw.alloc | apply Blw.drew | apply Blw.drewN | (refine Blw.after ?_ (by assumption)) | (refine Blw.set ?_ (by first | (dsimp only; omega) | (simp; omega)) _)); done) | (repeat' (first | assumption | exact Below.refl _ _ | apply Blw.alloc | apply Blw.drew | apply Blw.drewN | (refine Blw.after ?_ (by assumption)) | (refine Blw.set ?_ (by first | (dsimp only; omega) | (simp; done) | (simp; omega)) _))))
  have hsW0 := hBW0.size
  clear hW
  go_wp2_with ((go_at_call 82; refine (pwide_c _ _ _).mono ?_; rintro e w1 ⟨rfl, hb⟩; have hk : Hld W0 w1 := heldM (by (first | ((repeat' with_reducible first | assumption | exact Below.refl _ _ | apply Blw.alloc | apply Blw.drew | apply Blw.drewN | (refine Blw.after ?_ (by assumption)) | (refine Blw.set ?_ (by first | (dsimp only; omega) | (simp; omega)) _)); done) | (repeat' (first | assumption | exact Below.refl _ _ | apply Blw.alloc | apply Blw.drew | apply Blw.drewN | (refine Blw.after ?_ (by assumption)) | (refine Blw.set ?_ (by first | (dsimp only; omega) | (simp; done) | (simp; omega)) _))))); have hk1 := hk.1))
  exact bodyPost_ret (v := .tuple #[pr X Y, .bool true]) (by simp [results, Tryd.results79, go_sem, *]) rfl ⟨rfl, by (first | ((repeat' with_reducible first | assumption | exact Below.refl _ _ | apply Blw.alloc | apply Blw.drew | apply Blw.drewN | (refine Blw.after ?_ (by assumption)) | (refine Blw.set ?_ (by first | (dsimp only; omega) | (simp; omega)) _)); done) | (repeat' (first | assumption | exact Below.refl _ _ | apply Blw.alloc | apply Blw.drew | apply Blw.drewN | (refine Blw.after ?_ (by assumption)) | (refine Blw.set ?_ (by first | (dsimp only; omega) | (simp; done) | (simp; omega)) _))))⟩
theorem keepfz {w w' : World} {p : Addr} (h : Below w.heap.size w w') (hp : p.block < w.heap.size) (hf : w.frozen? p = false) : w'.frozen? p = false := (h.frozen hp).trans hf
end Go.Proofs.YtaleeoghifcadaaDoor

namespace Go.Proofs.YtaleeoghifcadaaDoor
set_option linter.unusedSimpArgs false
set_option linter.unusedVariables false
open Go.RowKit
open Go.ChangeMaps Go.MapKept Go.WideShapes

/-- what a type's keys must keep -/
structure KeyOk {α : Type} (P : Program) (T : TypeId) (enc : α → Value) (ok : α → Prop) : Prop where
  eq : ∀ (w : World) (a b : α), ok a → ok b → ∃ q : Bool, (q = true ↔ a = b) ∧ (Op.equal T (enc a) (enc b)).run P w = .ok q w
  under : ∃ d, P.underlying T = some d ∧ ∀ a b, Instr.sameNow d (enc a) (enc b) = none
  check : ∀ (w : World) (em : Bool) (a : α), ok a → (Instr.checkKey em 10000 T (enc a)).run P w = .ok () w
  bits : ∀ a, Instr.sameBits 10000 (enc a) (enc a) = true

/-- an entry: its stamp, its key, its value -/
abbrev En (α : Type) := Nat × α × Value
section
variable {α : Type}
def mk1 (enc : α → Value) (x : En α) : MapEntry := { key := enc x.2.1, val := x.2.2, born := x.1 }
def mkA (enc : α → Value) (E : List (En α)) : Array MapEntry := (E.map (mk1 enc)).toArray
def fndE [DecidableEq α] (a : α) : List (En α) → Nat → Option (Nat × Value)
  | [], _ => none
  | x :: r, i => if a = x.2.1 then some (i, x.2.2) else fndE a r (i + 1)
def hasE [DecidableEq α] (E : List (En α)) (a : α) : Bool := E.any fun x => decide (a = x.2.1)
section
variable [DecidableEq α]
theorem hasE_iff (E : List (En α)) (a : α) : hasE E a = true ↔ ∃ x ∈ E, a = x.2.1 := by simp [hasE]
theorem fndE_none {a : α} (E : List (En α)) : ∀ i, hasE E a = false → fndE a E i = none := by
  induction E with
  | nil => intro i _; rfl
  | cons x r ih =>
    intro i h
    simp only [hasE, List.any_cons, Bool.or_eq_false_iff, decide_eq_false_iff_not] at h
    unfold fndE
    rw [if_neg h.1]
    exact ih _ h.2
theorem fndE_some {a : α} (E : List (En α)) : ∀ i, hasE E a = true → ∃ j x, fndE a E i = some (i + j, x.2.2) ∧ E[j]? = some x ∧ x.2.1 = a := by
  induction E with
  | nil => intro i h; simp [hasE] at h
  | cons x r ih =>
    intro i h
    unfold fndE
    by_cases e : a = x.2.1
    · rw [if_pos e]; exact ⟨0, x, rfl, rfl, e.symm⟩
    · rw [if_neg e]
      obtain ⟨j, y, h1, h2, h3⟩ := ih (i + 1) (by simpa [hasE, e] using h)
      exact ⟨j + 1, y, by rw [h1]; congr 2; omega, h2, h3⟩
omit [DecidableEq α] in
theorem map_er {β : Type} (f : En α → β) : ∀ (L : List (En α)) (j : Nat), (L.map f).eraseIdx j = (L.eraseIdx j).map f
  | [], _ => by simp
  | _ :: _, 0 => by simp
  | y :: r, j + 1 => by simp [map_er f r j]
theorem erase_at {E : List (En α)} {j : Nat} {x : En α} (hn : (E.map (fun y => y.2.1)).Nodup) (h : E[j]? = some x) : E.eraseIdx j = E.filter (fun y => !decide (y.2.1 = x.2.1)) := by
  induction E generalizing j with
  | nil => simp
  | cons y r ih =>
    obtain ⟨h1, h2⟩ := List.nodup_cons.1 hn
    dsimp only at h1
    cases j with
    | zero =>
      simp only [List.getElem?_cons_zero, Option.some.injEq] at h
      subst h
      simp only [List.eraseIdx_cons_zero]
      rw [List.filter_cons, if_neg (by simp)]
      symm
      rw [List.filter_eq_self]
      intro z hz
      simp only [Bool.not_eq_eq_eq_not, Bool.not_true, decide_eq_false_iff_not]
      exact fun e => h1 (by rw [← e]; exact List.mem_map.2 ⟨z, hz, rfl⟩)
    | succ j =>
      simp only [List.getElem?_cons_succ] at h
      rw [List.eraseIdx_cons_succ, ih h2 h, List.filter_cons, if_pos]
      have hx : x ∈ r := List.mem_of_getElem? h
      simp only [Bool.not_eq_eq_eq_not, Bool.not_true, decide_eq_false_iff_not]
      exact fun e => h1 (by rw [e]; exact List.mem_map.2 ⟨x, hx, rfl⟩)
variable {P : Program} {M T el : TypeId} {enc : α → Value} {ok : α → Prop}
theorem askE (K : KeyOk P T enc ok) (w : World) {a : α} (ha : ok a) (E : List (En α)) : ∀ i, (∀ x ∈ E, ok x.2.1) → (Instr.findAsking T (enc a) (E.map (mk1 enc)) i).run P w = .ok (fndE a E i) w := by
  induction E with
  | nil => intro i _; rfl
  | cons x r ih =>
    intro i hB
    obtain ⟨q, hq, h1⟩ := K.eq w a x.2.1 ha (hB x (by simp))
    unfold fndE
    have hk : (mk1 enc x).key = enc x.2.1 := rfl
    have hv : (mk1 enc x).val = x.2.2 := rfl
    show (Instr.findAsking T (enc a) (mk1 enc x :: r.map (mk1 enc)) i).run P w = _
    unfold Instr.findAsking
    by_cases e : a = x.2.1
    · rw [if_pos e]
      rw [hq.2 e] at h1
      simp [hk, hv, h1]
    · rw [if_neg e]
      have hq0 : q = false := by
        cases q with
        | false => rfl
        | true => exact absurd (hq.1 rfl) e
      rw [hq0] at h1
      have h2 := ih (i + 1) (fun y hy => hB y (by simp [hy]))
      simp [hk, h1, h2]
theorem findE (K : KeyOk P T enc ok) (w : World) {a : α} (ha : ok a) (E : List (En α)) (hB : ∀ x ∈ E, ok x.2.1) : (Instr.findKey T (enc a) (E.map (mk1 enc))).run P w = .ok (fndE a E 0) w := by
  have h := askE K w ha E 0 hB
  obtain ⟨d, hd, hn⟩ := K.under
  unfold Instr.findKey
  cases E with
  | nil => simp [run_underlying hd, Instr.findNow, fndE]
  | cons x r =>
    have e : Instr.findNow d (enc a) ((x :: r).map (mk1 enc)) 0 = none := by simp [mk1, Instr.findNow, hn]
    simp only [Sem.run_bind, run_underlying hd, Result.andThen, e]
    exact h
/-- '_, has := m[k]' -/
theorem lookE (hM : P.underlying M = some (.map T el)) (K : KeyOk P T enc ok) {zv : Value} (w : World) (hz0 : (zeroValue el).run P w = .ok zv w) {b c : Nat} {E : List (En α)} (hb : w.heap[b]? = some (.map (mkA enc E) c)) {a : α} (ha : ok a) (hB : ∀ x ∈ E, ok x.2.1) :
    ∃ v, (Instr.lookup M (.map (some b)) (enc a) true).run P w = .ok (.tuple #[v, .bool (hasE E a)]) w := by
  have h1 := findE K w ha E hB
  have h1' : (Instr.findKey T (enc a) (mkA enc E).toList).run P w = .ok (fndE a E 0) w := h1
  unfold Instr.lookup
  rcases Bool.eq_false_or_eq_true (hasE E a) with hh | hh
  · obtain ⟨j, x, h2, _, _⟩ := fndE_some E 0 hh
    rw [h2] at h1'
    exact ⟨x.2.2, by rw [hh]; simp [run_underlying hM, Go.MapKept.run_getObj_map hb, K.check w _ a ha, h1']⟩
  · rw [fndE_none E 0 hh] at h1'
    exact ⟨zv, by rw [hh]; simp [run_underlying hM, Go.MapKept.run_getObj_map hb, K.check w _ a ha, h1', hz0]⟩
/-- a key that isn't there is laid at the end -/
theorem newE (hM : P.underlying M = some (.map T el)) (K : KeyOk P T enc ok) (w : World) {b c : Nat} {E : List (En α)} (hb : w.heap[b]? = some (.map (mkA enc E) c)) {a : α} (ha : ok a) (hB : ∀ x ∈ E, ok x.2.1) (hh : hasE E a = false) (v : Value) :
    (Instr.mapUpdate M (.map (some b)) (enc a) v).run P w = .ok () (setBlock w b (.map (mkA enc (E ++ [(c, a, v)])) (c + 1))) := by
  have h1 : (Instr.findKey T (enc a) (mkA enc E).toList).run P w = .ok (fndE a E 0) w := findE K w ha E hB
  rw [fndE_none E 0 hh] at h1
  have e2 : (mkA enc E).push { key := enc a, val := v, born := c } = mkA enc (E ++ [(c, a, v)]) := by simp [mkA, mk1]
  unfold Instr.mapUpdate
  simp [run_underlying hM, Go.MapKept.run_getObj_map hb, K.check w _ a ha, h1, Go.MapKept.run_setObj_map _ hb, e2, setBlock]
/-- a key that is there, with the value that it has: the map reads on as it did -/
theorem sameE (hM : P.underlying M = some (.map T el)) (K : KeyOk P T enc ok) (w : World) {b c : Nat} {E : List (En α)} (hb : w.heap[b]? = some (.map (mkA enc E) c)) {a : α} (ha : ok a) (hB : ∀ x ∈ E, ok x.2.1) (hh : hasE E a = true) (v : Value) (hv : ∀ x ∈ E, x.2.2 = v) :
    (Instr.mapUpdate M (.map (some b)) (enc a) v).run P w = .ok () (setBlock w b (.map (mkA enc E) c)) := by
  have h1 : (Instr.findKey T (enc a) (mkA enc E).toList).run P w = .ok (fndE a E 0) w := findE K w ha E hB
  obtain ⟨j, x, h2, h3, h4⟩ := fndE_some E 0 hh
  rw [h2, Nat.zero_add] at h1
  have k0 : (mkA enc E)[j]? = some (mk1 enc x) := by simp [mkA, h3]
  have hk : ((((mkA enc E)[j]?).map (·.key)).getD (enc a)) = enc a := by rw [k0]; simp [mk1, h4]
  have hs : (Instr.keyThatStays (enc a) (enc a)).run P w = .ok (enc a) w := by
    unfold Instr.keyThatStays
    simp [K.bits a]
  have e2 : (mkA enc E).modify j (fun e => { e with key := enc a, val := v }) = mkA enc E := by
    apply Array.ext_getElem?
    intro i
    rw [Array.getElem?_modify]
    by_cases e : j = i
    · subst e
      rw [if_pos rfl, k0]
      simp [mk1, h4, hv x (List.mem_of_getElem? h3)]
    · rw [if_neg e]
  unfold Instr.mapUpdate
  simp only [Sem.run_bind, run_underlying hM, Result.andThen, Go.MapKept.run_getObj_map hb, K.check w _ a ha, h1, hk, hs, e2, Go.MapKept.run_setObj_map _ hb, setBlock]
/-- 'delete' -/
theorem dropE (hM : P.underlying M = some (.map T el)) (K : KeyOk P T enc ok) (w : World) {b c : Nat} {E : List (En α)} (hb : w.heap[b]? = some (.map (mkA enc E) c)) {a : α} (ha : ok a) (hB : ∀ x ∈ E, ok x.2.1) (hn : (E.map (fun y => y.2.1)).Nodup) (ty : TypeId) :
    (Builtin.delete_ #[M, T] ty #[.map (some b), enc a]).run P w = .ok (.tuple #[]) (setBlock w b (.map (mkA enc (E.filter fun y => !decide (y.2.1 = a))) c)) := by
  have h1 : (Instr.findKey T (enc a) (mkA enc E).toList).run P w = .ok (fndE a E 0) w := findE K w ha E hB
  rcases Bool.eq_false_or_eq_true (hasE E a) with hh | hh
  · obtain ⟨j, x, h2, h3, h4⟩ := fndE_some E 0 hh
    rw [h2, Nat.zero_add] at h1
    have e2 : (mkA enc E).eraseIdxIfInBounds j = mkA enc (E.filter fun y => !decide (y.2.1 = a)) := by
      rw [← h4, ← erase_at hn h3]
      have hj : j < (mkA enc E).size := by simp [mkA, (List.getElem?_eq_some_iff.1 h3).1]
      have hsub : ((mkA enc E).eraseIdxIfInBounds j).toList = (mkA enc E).toList.eraseIdx j := by
        unfold Array.eraseIdxIfInBounds
        rw [dif_pos hj]
        simp
      apply Array.toList_inj.1
      rw [hsub]
      exact map_er (mk1 enc) E j
    simp [Builtin.delete_, run_underlying hM, Go.MapKept.run_getObj_map hb, K.check w _ a ha, h1, Go.MapKept.run_setObj_map _ hb, e2, setBlock]
  · rw [fndE_none E 0 hh] at h1
    have e2 : E.filter (fun y => !decide (y.2.1 = a)) = E := by
      rw [List.filter_eq_self]
      intro y hy
      simp only [Bool.not_eq_eq_eq_not, Bool.not_true, decide_eq_false_iff_not]
      intro e
      have := (hasE_iff E a).2 ⟨y, hy, e.symm⟩
      rw [hh] at this; cases this
    simp [Builtin.delete_, run_underlying hM, Go.MapKept.run_getObj_map hb, K.check w _ a ha, h1, Go.MapKept.run_setObj_map _ hb, e2, setBlock]

end
/-! ### ranged over -/
section
variable {P : Program} {M T el : TypeId} {enc : α → Value}
/-- a loop over the map at b is under way, its iterator at r: D has come, in this order, and R is still to come -/
def IterAt (enc : α → Value) (w : World) (b r : Nat) (E : List (En α)) (c : Nat) (D R : List (En α)) : Prop :=
  ∃ since seen c0, w.heap[b]? = some (.map (mkA enc E) c) ∧ w.heap[r]? = some (.mapIter (some b) since seen c0) ∧ (∀ x ∈ E, x.1 < since) ∧ since ≤ c0 ∧ since ≤ c ∧ (E.map (·.1)).Nodup ∧ R = E.filter (fun x => !seen.contains x.1) ∧ (D ++ R).Perm E
theorem leftE (E : List (En α)) (seen : Array Nat) : (leftOf (mkA enc E) seen).toList = (E.filter (fun x => !seen.contains x.1)).map (mk1 enc) := by
  unfold leftOf mkA
  rw [Array.toList_filter, List.filter_map]
  rfl
theorem perm_out : ∀ (R : List (En α)), (R.map (·.1)).Nodup → ∀ x ∈ R, R.Perm (x :: R.filter (fun y => y.1 != x.1)) := by
  intro R
  induction R with
  | nil => intro _ x hx; simp at hx
  | cons y r ih =>
    intro hn x hx
    obtain ⟨h1, h2⟩ := List.nodup_cons.1 hn
    dsimp only at h1
    rcases List.mem_cons.1 hx with rfl | hx
    · rw [List.filter_cons, if_neg (by simp)]
      have : r.filter (fun y => y.1 != x.1) = r := by
        rw [List.filter_eq_self]
        intro z hz
        simp only [bne_iff_ne]
        exact fun e => h1 (by rw [← e]; exact List.mem_map.2 ⟨z, hz, rfl⟩)
      rw [this]
    · have hne : y.1 ≠ x.1 := fun e => h1 (by rw [e]; exact List.mem_map.2 ⟨x, hx, rfl⟩)
      rw [List.filter_cons, if_pos (by simpa using hne)]
      exact ((ih h2 x hx).cons y).trans (List.Perm.swap x y _)
theorem startE (hM : P.underlying M = some (.map T el)) (w : World) {b c : Nat} {E : List (En α)} (hb : w.heap[b]? = some (.map (mkA enc E) c)) (hc : ∀ x ∈ E, x.1 < c) (hn : (E.map (·.1)).Nodup) :
    (Instr.range M (.map (some b))).run P w = .ok (.pointer (some ⟨w.heap.size, 0, none⟩)) (w.alloc (.mapIter (some b) c #[] c)) ∧ IterAt enc (w.alloc (.mapIter (some b) c #[] c)) b w.heap.size E c [] E := by
  have hlt : b < w.heap.size := (Array.getElem?_eq_some_iff.1 hb).1
  exact ⟨run_range_map w M T el b _ c hM hb, c, #[], c, ((MapKept.heap_alloc w _).2 b hlt).trans hb, (MapKept.heap_alloc w _).1, hc, Nat.le_refl _, Nat.le_refl _, hn, by rw [List.filter_eq_self.2 (fun x _ => by simp)], by simp⟩
theorem stepE {w : World} {b r c : Nat} {E D R : List (En α)} (h : IterAt enc w b r E c D R) (ty : TypeId) :
    (R = [] ∧ D.Perm E ∧ (Instr.next (.pointer (some ⟨r, 0, none⟩)) false ty).run P w = .ok (.tuple #[.bool false]) w) ∨
    ∃ x ∈ R, ∃ w' R', (Instr.next (.pointer (some ⟨r, 0, none⟩)) false ty).run P w = .ok (.tuple #[.bool true, enc x.2.1, x.2.2]) w' ∧ IterAt enc w' b r E c (D ++ [x]) R' ∧ R'.length < R.length ∧ R.Perm (x :: R') ∧ w.grownBy w' (some r) ∧ w'.heap.size = w.heap.size ∧
      (Instr.entry (.pointer (some ⟨r, 0, none⟩))).run P w' = .ok (.tuple #[enc x.2.1, x.2.2]) w' := by
  obtain ⟨since, seen, c0, hb, hr, hold, h1, h2, hn, hR, hp⟩ := h
  have hne : r ≠ b := fun e => by rw [e, hb] at hr; cases hr
  have hold' : ∀ x ∈ (mkA enc E).toList, x.born < since := fun x hx => by
    obtain ⟨y, hy, rfl⟩ := List.mem_map.1 (show x ∈ E.map (mk1 enc) from hx)
    exact hold y hy
  have hnb : ((mkA enc E).toList.map (·.born)).Nodup := by
    have e : (mkA enc E).toList.map (·.born) = E.map (·.1) := by simp [mkA, mk1, Function.comp_def]
    rw [e]; exact hn
  rcases run_next_at (P := P) w ty r b since c0 seen (mkA enc E) c hr hb hold' h1 with ⟨h0, hrun⟩ | ⟨e, he, w1, hal, hrun⟩
  · left
    have hR0 : R = [] := by
      have := leftE (enc := enc) E seen
      rw [← hR] at this
      have h3 : R.length = 0 := by rw [← List.length_map (f := mk1 enc), ← this, Array.length_toList]; exact h0
      exact List.eq_nil_of_length_eq_zero h3
    exact ⟨hR0, by rw [hR0, List.append_nil] at hp; exact hp, hrun⟩
  · right
    rw [leftE, ← hR] at he
    obtain ⟨x, hx, rfl⟩ := List.mem_map.1 he
    have hxE : x ∈ E := by rw [hR] at hx; exact (List.mem_filter.1 hx).1
    have hr1 : w1.heap[r]? = some (.mapIter (some b) since seen c0) := by rcases hal with rfl | rfl <;> exact hr
    have hb1 : w1.heap[b]? = some (.map (mkA enc E) c) := by rcases hal with rfl | rfl <;> exact hb
    have hset := heap_set (o' := .mapIter (some b) since (seen.push x.1) c) hr1
    have hb' : (setBlock w1 r (.mapIter (some b) since (seen.push x.1) c)).heap[b]? = some (.map (mkA enc E) c) := (hset.2 b (fun e1 => hne e1.symm)).trans hb1
    have hsub : R.Sublist E := by rw [hR]; exact List.filter_sublist
    have hnR : (R.map (·.1)).Nodup := (hsub.map _).nodup hn
    have hpo := perm_out R hnR x hx
    have hR' : E.filter (fun y => !(seen.push x.1).contains y.1) = R.filter (fun y => y.1 != x.1) := by
      rw [hR, List.filter_filter]
      congr 1
      funext y
      rw [contains_push, Bool.not_or]
      rw [show (y.1 != x.1) = !(y.1 == x.1) from rfl, Bool.and_comm]
    refine ⟨x, hx, _, R.filter (fun y => y.1 != x.1), hrun, ⟨since, seen.push x.1, c, hb', hset.1, hold, h2, h2, hn, hR'.symm, ?_⟩, ?_, hpo, ?_, ?_, ?_⟩
    · rw [List.append_assoc]; exact (List.Perm.append_left D hpo.symm).trans hp
    · have := hpo.length_eq; rw [List.length_cons] at this; omega
    · rcases hal with rfl | rfl <;> exact ⟨rfl, rfl, rfl, by simp [setBlock], fun i _ hi => hset.2 i (fun e1 => hi (by rw [e1]))⟩
    · rcases hal with rfl | rfl <;> simp [setBlock]
    · exact run_entry_at _ r b since seen (mkA enc E) c (mk1 enc x) hset.1 hb' (List.mem_map.2 ⟨x, hxE, rfl⟩) hnb
theorem IterAt.kept {w w' : World} {b r c : Nat} {E D R : List (En α)} {row : Option Nat} (h : IterAt enc w b r E c D R) (hg : w.grownBy w' row) (hb' : some b ≠ row) (hr' : some r ≠ row) : IterAt enc w' b r E c D R := by
  obtain ⟨since, seen, c0, hb, hr, rest⟩ := h
  exact ⟨since, seen, c0, (hg.block b (Array.getElem?_eq_some_iff.1 hb).1 hb').trans hb, (hg.block r (Array.getElem?_eq_some_iff.1 hr).1 hr').trans hr, rest⟩
theorem IterAt.map {w : World} {b r c : Nat} {E D R : List (En α)} (h : IterAt enc w b r E c D R) : w.heap[b]? = some (.map (mkA enc E) c) := by
  obtain ⟨_, _, _, hb, _⟩ := h; exact hb
theorem IterAt.perm {w : World} {b r c : Nat} {E D R : List (En α)} (h : IterAt enc w b r E c D R) : (D ++ R).Perm E := by
  obtain ⟨_, _, _, _, _, _, _, _, _, _, hp⟩ := h; exact hp
theorem IterAt.mem {w : World} {b r c : Nat} {E D R : List (En α)} (h : IterAt enc w b r E c D R) {x : En α} (hx : x ∈ R) : x ∈ E := h.perm.mem_iff.1 (List.mem_append_right _ hx)
section
variable (w : World) {ops : Array Oper} {rest : List Oper} {o : Oper} {a : Act} {Q : Exit → Act → World → Prop}
theorem wpList_rangeE (hg : o.guard = none) (m : Operand) (hop : o.op = Op.range M m) (hM : P.underlying M = some (.map T el)) (b c : Nat) (E : List (En α)) (hm : a.eval m = .map (some b)) (hb : w.heap[b]? = some (.map (mkA enc E) c)) (hc : ∀ x ∈ E, x.1 < c) (hn : (E.map (·.1)).Nodup)
    (hK : ∀ w', IterAt enc w' b w.heap.size E c [] E → w.grownBy w' none → w'.heap.size = w.heap.size + 1 → wpList P ops Q rest (a.put o.dst (.pointer (some ⟨w.heap.size, 0, none⟩))) w') :
    wpList P ops Q (o :: rest) a w := by
  refine wpList_plain hg fun K' hK' => ?_
  obtain ⟨hrun, r1⟩ := startE (P := P) (M := M) (T := T) (el := el) (enc := enc) hM w hb hc hn
  unfold Oper.wp
  simp [execOp, hop, hm, hrun, Result.andThen]
  exact hK' _ _ (hK _ r1 (World.grownBy_alloc w _ none) (by simp))
theorem wpList_nextE (hg : o.guard = none) (it : Operand) (hop : o.op = Op.next it false) (b r c : Nat) (E D R : List (En α)) (hit : a.eval it = .pointer (some ⟨r, 0, none⟩)) (h : IterAt enc w b r E c D R)
    (hDone : R = [] → D.Perm E → wpList P ops Q rest (a.put o.dst (.tuple #[.bool false])) w)
    (hMore : ∀ (x : En α) (w' : World) (R' : List (En α)), x ∈ R → IterAt enc w' b r E c (D ++ [x]) R' → R'.length < R.length → R.Perm (x :: R') → w.grownBy w' (some r) → w'.heap.size = w.heap.size →
      (Instr.entry (.pointer (some ⟨r, 0, none⟩))).run P w' = .ok (.tuple #[enc x.2.1, x.2.2]) w' → wpList P ops Q rest (a.put o.dst (.tuple #[.bool true, enc x.2.1, x.2.2])) w') :
    wpList P ops Q (o :: rest) a w := by
  refine wpList_plain hg fun K' hK' => ?_
  unfold Oper.wp
  rcases stepE (P := P) h o.type with ⟨h0, hl, hrun⟩ | ⟨x, hx, w', R', hrun, hi, hlt, hp, hgr, hsz, hen⟩
  · simp [execOp, hop, hit, hrun, Result.andThen]
    exact hK' _ _ (hDone h0 hl)
  · simp [execOp, hop, hit, hrun, Result.andThen]
    exact hK' _ _ (hMore x w' R' hx hi hlt hp hgr hsz hen)
theorem wpList_deleteE [DecidableEq α] {ok : α → Prop} (hg : o.guard = none) (m x : Operand) (hop : o.op = Op.call { callee := Callee.builtin Builtin.delete, args := #[m, x], argTypes := #[M, T] }) (hM : P.underlying M = some (.map T el)) (K : KeyOk P T enc ok) (b c : Nat) (E : List (En α)) (z : α)
    (hm : a.eval m = .map (some b)) (hx : a.eval x = enc z) (hb : w.heap[b]? = some (.map (mkA enc E) c)) (hz : ok z) (hB : ∀ y ∈ E, ok y.2.1) (hn : (E.map (fun y => y.2.1)).Nodup)
    (hK : wpList P ops Q rest (a.put o.dst (.tuple #[])) (setBlock w b (.map (mkA enc (E.filter fun y => !decide (y.2.1 = z))) c))) :
    wpList P ops Q (o :: rest) a w := by
  refine wpList_plain hg fun K' hK' => ?_
  have hrun := dropE hM K w hb hz hB hn o.type
  unfold Oper.wp
  simp [execOp, hop, resolve, invoke, builtin, hm, hx, hrun, Result.andThen]
  exact hK' _ _ hK
end
end
end
end Go.Proofs.YtaleeoghifcadaaDoor

namespace Go.Proofs.YtaleeoghifcadaaDoor
set_option linter.unusedSimpArgs false
set_option linter.unusedVariables false
open Go.RowKit Ieee

def okP (z : ZZ) : Prop := z.1.natAbs ≤ 100000 ∧ z.2.natAbs ≤ 100000
theorem pointAt_c (z : ZZ) (w : World) (h : okP z) : Calls Tryd.prog 67 #[pr z.1 z.2] w fun e w' => e = .returned (encP z) ∧ Below w.heap.size w w' := by
  have hc := fun w => convP_c (t := 96) (u := 75) Tryd.underlying96 Tryd.underlying75 (ff_conv .f64 .f32 (a := z.1) (by have := h.1; omega)) (ff_conv .f64 .f32 (a := z.2) (by have := h.2; omega)) w
  have hc2 := fun w => convP_c (t := 97) (u := 75) Tryd.underlying97 Tryd.underlying75 (ff_conv .f64 .f32 (a := z.1) (by have := h.1; omega)) (ff_conv .f64 .f32 (a := z.2) (by have := h.2; omega)) w
  clear h
  obtain ⟨x, y⟩ := z
  dsimp only at *
  go_enter Tryd.func67, Tryd.ntmps67
  go_wp2_with fail
  generalize hW : World.alloc _ _ = W0
  have kW0_1 : W0.cell? ⟨w.heap.size, 0, none⟩ = some (.int .i64 (x)) := by rw [← hW]; clear hW; first | (go_simp; done) | ((repeat refine keepcell ((Below.refl _ _).alloc (Nat.le_refl _) _) ?_); go_simp; done) | (simp only [frozen?_alloc_cells]; go_simp; done)
  have kW0_2 : W0.cell? ⟨w.heap.size, 1, none⟩ = some (.int .i64 (y)) := by rw [← hW]; clear hW; first | (go_simp; done) | ((repeat refine keepcell ((Below.refl _ _).alloc (Nat.le_refl _) _) ?_); go_simp; done) | (simp only [frozen?_alloc_cells]; go_simp; done)
  have : w.heap.size < W0.heap.size := World.block_lt_of_cell? W0 ⟨w.heap.size, 0, none⟩ (by assumption)
  have hBW0 : Below w.heap.size w W0 := by rw [← hW]; (first | ((repeat' with_reducible first | assumption | exact Below.refl _ _ | apply Blw.alloc | apply Blw.drew | apply Blw.drewN | (refine Blw.after ?_ (by assumption)) | (refine Blw.set ?_ (by first | (dsimp only; omega) | (simp; omega)) _)); done) | (repeat' (first | assumption | exact Below.refl _ _ | apply Blw.alloc | apply Blw.drew | apply Blw.drewN | (refine Blw.after ?_ (by assumption)) | (refine Blw.set ?_ (by first | (dsimp only; omega) | (simp; done) | (simp; omega)) _))))
  have hsW0 := hBW0.size
  clear hW
  go_wp2_with ((go_at_call 82; refine (pwide_c _ _ _).mono ?_; rintro e w1 ⟨rfl, hb⟩; have hk : Hld W0 w1 := heldM (by (first | ((repeat' with_reducible first | assumption | exact Below.refl _ _ | apply Blw.alloc | apply Blw.drew | apply Blw.drewN | (refine Blw.after ?_ (by assumption)) | (refine Blw.set ?_ (by first | (dsimp only; omega) | (simp; omega)) _)); done) | (repeat' (first | assumption | exact Below.refl _ _ | apply Blw.alloc | apply Blw.drew | apply Blw.drewN | (refine Blw.after ?_ (by assumption)) | (refine Blw.set ?_ (by first | (dsimp only; omega) | (simp; done) | (simp; omega)) _))))); have hk1 := hk.1))
  go_ret
  exact ⟨rfl, by (first | ((repeat' with_reducible first | assumption | exact Below.refl _ _ | apply Blw.alloc | apply Blw.drew | apply Blw.drewN | (refine Blw.after ?_ (by assumption)) | (refine Blw.set ?_ (by first | (dsimp only; omega) | (simp; omega)) _)); done) | (repeat' (first | assumption | exact Below.refl _ _ | apply Blw.alloc | apply Blw.drew | apply Blw.drewN | (refine Blw.after ?_ (by assumption)) | (refine Blw.set ?_ (by first | (dsimp only; omega) | (simp; done) | (simp; omega)) _))))⟩
set_option maxRecDepth 100000 in
set_option maxHeartbeats 1000000 in
theorem gaussAt_c (z : ZZ) (w : World) (h : okP z) : Calls Tryd.prog 59 #[encP z] w fun e w' => e = .returned (pr z.1 z.2) ∧ Below w.heap.size w w' := by
  have hc : ∀ w, (convert 75 97 (encP z)).run Tryd.prog w = .ok (.complex .f64 (floatOfInt .f64 z.1) (floatOfInt .f64 z.2)) w := fun w => convP_c (t := 75) (u := 97) Tryd.underlying75 Tryd.underlying97 (ff_conv .f32 .f64 (a := z.1) (by have := h.1; omega)) (ff_conv .f32 .f64 (a := z.2) (by have := h.2; omega)) w
  have h1 : -1000000 ≤ z.1 ∧ z.1 ≤ 1000000 := by have := h.1; omega
  have h2 : -1000000 ≤ z.2 ∧ z.2 ≤ 1000000 := by have := h.2; omega
  have HP := Lib.hid (fun w => wpair_c (floatOfInt .f64 z.1) (floatOfInt .f64 z.2) z.1 z.2 w (int_vl h1) (int_vl h2) h1 h2)
  clear h h1 h2
  obtain ⟨x, y⟩ := z
  dsimp only at *
  go_enter Tryd.func59, Tryd.ntmps59
  go_wp2_with fail
  generalize hW : World.alloc _ _ = W0
  have kW0_3 : W0.cell? ⟨w.heap.size, 0, none⟩ = some (.int .i64 (0)) := by rw [← hW]; clear hW; first | (go_simp; done) | ((repeat refine keepcell ((Below.refl _ _).alloc (Nat.le_refl _) _) ?_); go_simp; done) | (simp only [frozen?_alloc_cells]; go_simp; done)
  have zW0_3 : W0.frozen? ⟨w.heap.size, 0, none⟩ = false := by rw [← hW]; clear hW; first | (go_simp; done) | ((repeat refine keepcell ((Below.refl _ _).alloc (Nat.le_refl _) _) ?_); go_simp; done) | (simp only [frozen?_alloc_cells]; go_simp; done)
  have kW0_4 : W0.cell? ⟨w.heap.size, 1, none⟩ = some (.int .i64 (0)) := by rw [← hW]; clear hW; first | (go_simp; done) | ((repeat refine keepcell ((Below.refl _ _).alloc (Nat.le_refl _) _) ?_); go_simp; done) | (simp only [frozen?_alloc_cells]; go_simp; done)
  have zW0_4 : W0.frozen? ⟨w.heap.size, 1, none⟩ = false := by rw [← hW]; clear hW; first | (go_simp; done) | ((repeat refine keepcell ((Below.refl _ _).alloc (Nat.le_refl _) _) ?_); go_simp; done) | (simp only [frozen?_alloc_cells]; go_simp; done)
  have : w.heap.size < W0.heap.size := World.block_lt_of_cell? W0 ⟨w.heap.size, 0, none⟩ (by assumption)
  have hBW0 : Below w.heap.size w W0 := by rw [← hW]; (first | ((repeat' with_reducible first | assumption | exact Below.refl _ _ | apply Blw.alloc | apply Blw.drew | apply Blw.drewN | (refine Blw.after ?_ (by assumption)) | (refine Blw.set ?_ (by first | (dsimp only; omega) | (simp; omega)) _)); done) | (repeat' (first | assumption | exact Below.refl _ _ | apply Blw.alloc | apply Blw.drew | apply Blw.drewN | (refine Blw.after ?_ (by assumption)) | (refine Blw.set ?_ (by first | (dsimp only; omega) | (simp; done) | (simp; omega)) _))))
  have hsW0 := hBW0.size
  clear hW
  go_wp2_with (fail)
  refine (HP.out _).mono ?_
  rintro e wA ⟨rfl, hbwA⟩
  have hkwA : Hld W0 wA := heldM (by (first | ((repeat' with_reducible first | assumption | exact Below.refl _ _ | apply Blw.alloc | apply Blw.drew | apply Blw.drewN | (refine Blw.after ?_ (by assumption)) | (refine Blw.set ?_ (by first | (dsimp only; omega) | (simp; omega)) _)); done) | (repeat' (first | assumption | exact Below.refl _ _ | apply Blw.alloc | apply Blw.drew | apply Blw.drewN | (refine Blw.after ?_ (by assumption)) | (refine Blw.set ?_ (by first | (dsimp only; omega) | (simp; done) | (simp; omega)) _)))))
  have hlwA := hkwA.1
  have hswA := hkwA.2.2.2
  try (have : w.heap.size < wA.heap.size := by omega)
  go_wp2_with fail
  generalize hW : World.alloc _ _ = W1
  have kW1_5 : W1.cell? ⟨w.heap.size, 0, none⟩ = some (.int .i64 (0)) := by rw [← hW]; clear hW; first | (go_simp; done) | ((repeat refine keepcell ((Below.refl _ _).alloc (Nat.le_refl _) _) ?_); go_simp; done) | (simp only [frozen?_alloc_cells]; go_simp; done)
  have zW1_5 : W1.frozen? ⟨w.heap.size, 0, none⟩ = false := by rw [← hW]; clear hW; first | (go_simp; done) | ((repeat refine keepcell ((Below.refl _ _).alloc (Nat.le_refl _) _) ?_); go_simp; done) | (simp only [frozen?_alloc_cells]; go_simp; done)
  have kW1_6 : W1.cell? ⟨w.heap.size, 1, none⟩ = some (.int .i64 (0)) := by rw [← hW]; clear hW; first | (go_simp; done) | ((repeat refine keepcell ((Below.refl _ _).alloc (Nat.le_refl _) _) ?_); go_simp; done) | (simp only [frozen?_alloc_cells]; go_simp; done)
  have zW1_6 : W1.frozen? ⟨w.heap.size, 1, none⟩ = false := by rw [← hW]; clear hW; first | (go_simp; done) | ((repeat refine keepcell ((Below.refl _ _).alloc (Nat.le_refl _) _) ?_); go_simp; done) | (simp only [frozen?_alloc_cells]; go_simp; done)
  have : w.heap.size < W1.heap.size := World.block_lt_of_cell? W1 ⟨w.heap.size, 0, none⟩ (by assumption)
  have kW1_7 : W1.cell? ⟨wA.heap.size, 0, none⟩ = some (.int .i64 (x)) := by rw [← hW]; clear hW; first | (go_simp; done) | ((repeat refine keepcell ((Below.refl _ _).alloc (Nat.le_refl _) _) ?_); go_simp; done) | (simp only [frozen?_alloc_cells]; go_simp; done)
  have kW1_8 : W1.cell? ⟨wA.heap.size, 1, none⟩ = some (.int .i64 (y)) := by rw [← hW]; clear hW; first | (go_simp; done) | ((repeat refine keepcell ((Below.refl _ _).alloc (Nat.le_refl _) _) ?_); go_simp; done) | (simp only [frozen?_alloc_cells]; go_simp; done)
  have : wA.heap.size < W1.heap.size := World.block_lt_of_cell? W1 ⟨wA.heap.size, 0, none⟩ (by assumption)
  have hBW1 : Below w.heap.size w W1 := by rw [← hW]; (first | ((repeat' with_reducible first | assumption | exact Below.refl _ _ | apply Blw.alloc | apply Blw.drew | apply Blw.drewN | (refine Blw.after ?_ (by assumption)) | (refine Blw.set ?_ (by first | (dsimp only; omega) | (simp; omega)) _)); done) | (repeat' (first | assumption | exact Below.refl _ _ | apply Blw.alloc | apply Blw.drew | apply Blw.drewN | (refine Blw.after ?_ (by assumption)) | (refine Blw.set ?_ (by first | (dsimp only; omega) | (simp; done) | (simp; omega)) _))))
  have hsW1 := hBW1.size
  clear hW
  try clear kW0_3; try clear zW0_3; try clear kW0_4; try clear zW0_4; try clear hbwA; try clear hkwA; try clear hlwA
  go_wp2_with (fail)
  refine (gauss_c _ _ _).mono ?_
  rintro e wB ⟨rfl, hbwB⟩
  have hkwB : Hld W1 wB := heldM (by (first | ((repeat' with_reducible first | assumption | exact Below.refl _ _ | apply Blw.alloc | apply Blw.drew | apply Blw.drewN | (refine Blw.after ?_ (by assumption)) | (refine Blw.set ?_ (by first | (dsimp only; omega) | (simp; omega)) _)); done) | (repeat' (first | assumption | exact Below.refl _ _ | apply Blw.alloc | apply Blw.drew | apply Blw.drewN | (refine Blw.after ?_ (by assumption)) | (refine Blw.set ?_ (by first | (dsimp only; omega) | (simp; done) | (simp; omega)) _)))))
  have hlwB := hkwB.1
  have hswB := hkwB.2.2.2
  try (have : w.heap.size < wB.heap.size := by omega)
  try (have : wA.heap.size < wB.heap.size := by omega)
  go_wp2_with fail
  exact bodyPost_ret (v := pr x y) (by simp [results, Tryd.results59, go_sem, *]) rfl ⟨rfl, by (first | ((repeat' with_reducible first | assumption | exact Below.refl _ _ | apply Blw.alloc | apply Blw.drew | apply Blw.drewN | (refine Blw.after ?_ (by assumption)) | (refine Blw.set ?_ (by first | (dsimp only; omega) | (simp; omega)) _)); done) | (repeat' (first | assumption | exact Below.refl _ _ | apply Blw.alloc | apply Blw.drew | apply Blw.drewN | (refine Blw.after ?_ (by assumption)) | (refine Blw.set ?_ (by first | (dsimp only; omega) | (simp; done) | (simp; omega)) _))))⟩
/-- points are keys -/
theorem keyP : KeyOk Tryd.prog 75 encP okP where
  eq := fun w a b ha hb => by
    have h1 := ff_order (k := .f32) (a := a.1) (b := b.1) (by have := ha.1; omega) (by have := hb.1; omega)
    have h2 := ff_order (k := .f32) (a := a.2) (b := b.2) (by have := ha.2; omega) (by have := hb.2; omega)
    refine ⟨decide (a.1 = b.1) && decide (a.2 = b.2), ?_, ?_⟩
    · simp only [Bool.and_eq_true, decide_eq_true_eq]
      exact ⟨fun h => Prod.ext h.1 h.2, fun h => by rw [h]; exact ⟨rfl, rfl⟩⟩
    · change (Op.equalIn (9999 + 1) 75 _ _).run _ w = _
      unfold Op.equalIn
      change FloatKind.f32.format.order (px a) (px b) = _ at h1
      change FloatKind.f32.format.order (py a) (py b) = _ at h2
      simp [run_underlying (show Tryd.prog.underlying 75 = some (.complex .f32) from Tryd.underlying75), Op.floatEq, h1, h2, cmp_sg]
  under := ⟨_, Tryd.underlying75, fun a b => rfl⟩
  check := fun w em a _ => by
    change (Instr.checkKey em (9999 + 1) 75 (encP a)).run _ w = _
    unfold Instr.checkKey
    simp [run_underlying (show Tryd.prog.underlying 75 = some (.complex .f32) from Tryd.underlying75)]
  bits := fun a => by
    change Instr.sameBits (9999 + 1) (encP a) (encP a) = true
    simp [Instr.sameBits]
end Go.Proofs.YtaleeoghifcadaaDoor

namespace Go.Proofs.YtaleeoghifcadaaDoor
set_option linter.unusedSimpArgs false
set_option linter.unusedVariables false
open Go.RowKit

def InZ (B : Int) (z : ZZ) : Prop := (-B ≤ z.1 ∧ z.1 ≤ B) ∧ (-B ≤ z.2 ∧ z.2 ≤ B)
theorem two_in {B C : Int} (hC : B + 1 ≤ 2 * C + 1) {z : ZZ} (h : InZ B z) : InZ C (nx (nx z)) := by
  obtain ⟨x, y⟩ := z
  obtain ⟨⟨a, b⟩, c, d⟩ := h
  have h1 := two_nX x y
  have h2 := two_nY x y
  have e := lastD_01 x y
  have h3 := two_nX (nX x y) (nY x y)
  have h4 := two_nY (nX x y) (nY x y)
  have e2 := lastD_01 (nX x y) (nY x y)
  show InZ C (nX (nX x y) (nY x y), nY (nX x y) (nY x y))
  unfold InZ
  dsimp only at a b c d ⊢
  omega
def halfs : Nat → Int → Int
  | 0, B => B
  | n + 1, B => halfs n ((B + 1) / 2)
theorem halfs_in : ∀ (k : Nat) (B : Int) (z : ZZ), InZ B z → InZ (halfs k B) (qn (2 * k) z) := by
  intro k
  induction k with
  | zero => intro B z h; exact h
  | succ k ih =>
    intro B z h
    have := ih ((B + 1) / 2) (nx (nx z)) (two_in (by omega) h)
    rw [qn_nx, qn_nx] at this
    exact this
theorem nine : ∀ a ∈ [-1, 0, 1], ∀ b ∈ [-1, 0, 1], qn 6 (a, b) = (0, 0) := by decide +kernel
theorem qn_add (m : Nat) (z : ZZ) : ∀ n, qn (n + m) z = qn n (qn m z) := by
  intro n
  induction n with
  | zero => rw [Nat.zero_add]; rfl
  | succ n ih => rw [Nat.add_right_comm]; show nx (qn (n + m) z) = nx (qn n (qn m z)); rw [ih]
theorem small_46 {x y : Int} (h : inB 1000000 x y = true) : qn 46 (x, y) = (0, 0) := by
  have h1 := inB_le h
  have h2 := halfs_in 20 1000000 (x, y) ⟨⟨h1.1, h1.2.1⟩, h1.2.2⟩
  rw [show halfs 20 1000000 = 1 by decide] at h2
  rw [show (46 : Nat) = 6 + 2 * 20 from rfl, qn_add]
  generalize qn (2 * 20) (x, y) = z at *
  obtain ⟨a, b⟩ := z
  obtain ⟨⟨a1, a2⟩, b1, b2⟩ := h2
  dsimp only at a1 a2 b1 b2
  exact nine a (by have : a = -1 ∨ a = 0 ∨ a = 1 := by omega
                   simpa using this) b (by have : b = -1 ∨ b = 0 ∨ b = 1 := by omega
                                           simpa using this)
theorem dgz_head : ∀ (n : Nat) (z : ZZ), ms z.1 z.2 = n → z ≠ (0, 0) → (dgz z).reverse.head? = some 49 := by
  intro n
  induction n using Nat.strongRecOn with
  | ind n ih =>
    intro z hn hz
    have hl := ms_less (x := z.1) (y := z.2) (fun h => hz (Prod.ext h.1 h.2))
    rw [dgz_step hz, List.reverse_cons]
    by_cases h0 : nx z = (0, 0)
    · have e := sd_nx z
      rw [h0] at e
      rw [h0, dgz_zero]
      rcases ld_01 z with hd | hd
      · rw [hd, sd_zero] at e; exact absurd e.symm hz
      · rw [hd]; rfl
    · have := ih _ (by rw [← hn]; exact hl) (nx z) rfl h0
      rw [List.head?_append, this]; rfl
/-- the digits of a number, from the first one on -/
def txL (x y : Int) : List UInt8 := (dgs1 x y).reverse
def txB (x y : Int) : ByteArray := bs (txL x y)
theorem txL_eq (x y : Int) : txL x y = if (x, y) = ((0, 0) : ZZ) then [48] else (dgz (x, y)).reverse := by
  unfold txL dgs1
  by_cases h : x = 0 ∧ y = 0
  · rw [if_pos h, if_pos (Prod.ext h.1 h.2)]; rfl
  · rw [if_neg h, if_neg (fun e => h ⟨congrArg Prod.fst e, congrArg Prod.snd e⟩)]; rfl
theorem txL_bits (x y : Int) : ∀ c ∈ txL x y, bitC c = true := by
  rw [txL_eq]
  split
  · intro c hc; simp at hc; subst hc; rfl
  · intro c hc; exact dgs_bits x y c (show c ∈ dgz (x, y) by simpa using hc)
theorem txL_len {x y : Int} (h : inB 1000000 x y = true) : (txL x y).length ≤ 46 := by
  rw [txL_eq]
  split
  · simp
  · rw [List.length_reverse]; exact (dgz_len 46 (x, y)).2 (small_46 h)
theorem txL_head (x y : Int) : txL x y = [48] ∨ (txL x y).head? = some 49 := by
  rw [txL_eq]
  split
  · left; rfl
  · right; rename_i h; exact dgz_head _ _ rfl h
theorem txL_ne (x y : Int) : txL x y ≠ [] := by
  rcases txL_head x y with h | h <;> intro e <;> rw [e] at h <;> cases h
theorem txL_vld {x y : Int} (h : inB 1000000 x y = true) : vldL (txL x y) = true := by
  rw [vldL_iff]
  have h1 := txL_len h
  refine ⟨List.length_pos_iff.2 (txL_ne x y), by omega, ?_, txL_bits x y⟩
  rcases txL_head x y with h | h
  · left; exact h
  · right; rw [h]; decide
theorem ofV_tx {x y : Int} (h : inB 1000000 x y = true) : ofV x y = .tuple #[.string (txB x y), .bool true] := by
  unfold ofV
  rw [h, if_pos rfl]
  refine resD_t ?_ ?_
  · show strip (txL x y) = toL (bs (txL x y))
    rw [toL_bs]
    rcases txL_head x y with h | h
    · rw [h]; rfl
    · exact strip_keep (by rw [← List.head?_eq_getElem?, h]; decide)
  · show vldL (toL (bs (txL x y))) = true
    rw [toL_bs]; exact txL_vld h
theorem split_val (x y : Int) (n : Nat) : valF ((txL x y).take ((txL x y).length - n)) = qn n (x, y) ∧ valF ((txL x y).drop ((txL x y).length - n)) = rn n (x, y) := by
  rw [txL_eq]
  split
  · rename_i h
    rw [h, qn_zero, rn_zero]
    cases n with
    | zero => decide
    | succ n => rw [show ([48] : List UInt8).length - (n + 1) = 0 by simp]; decide
  · rw [List.length_reverse, ← List.reverse_drop, ← List.reverse_take]
    exact ⟨val_drop n _, val_take n _⟩
end Go.Proofs.YtaleeoghifcadaaDoor

namespace Go.Proofs.YtaleeoghifcadaaDoor
set_option linter.unusedSimpArgs false
set_option linter.unusedVariables false
open Go.RowKit

theorem valX_step {s : ByteArray} {k : Nat} (hk : k < s.size) : valX ((toL s).take (k + 1)) = -valX ((toL s).take k) - valY ((toL s).take k) + ((s[k].toNat : Int) - 48) := by
  rw [take_snocB s k hk, valX_snoc]; rfl
theorem valY_step {s : ByteArray} {k : Nat} (hk : k < s.size) : valY ((toL s).take (k + 1)) = valX ((toL s).take k) - valY ((toL s).take k) := by
  rw [take_snocB s k hk, valY_snoc]
theorem val_at {s : ByteArray} (h : vldB s = true) (k : Nat) : (-1125899906842624 ≤ valX ((toL s).take k) ∧ valX ((toL s).take k) ≤ 1125899906842624) ∧ (-1125899906842624 ≤ valY ((toL s).take k) ∧ valY ((toL s).take k) ≤ 1125899906842624) :=
  val_in (take_bits h k) (Nat.le_trans (List.length_take_le' _ _) (by rw [toL_len]; exact (vldB_len h).2))
def valB (s : ByteArray) : Bool := vldB s && inB 1000000 (valX (toL s)) (valY (toL s))
abbrev valV (s : ByteArray) : Value := res2 (valB s) (valX (toL s)) (valY (toL s))
theorem valV_no {s : ByteArray} (h : vldB s = false) : valV s = .tuple #[pr 0 0, .bool false] := by
  have : valB s = false := by unfold valB; rw [h]; rfl
  unfold valV; rw [this]; rfl
theorem valV_yes {s : ByteArray} (h : vldB s = true) : valV s = res2 (inB 1000000 (valX (toL s)) (valY (toL s))) (valX (toL s)) (valY (toL s)) := by
  have : valB s = inB 1000000 (valX (toL s)) (valY (toL s)) := by unfold valB; rw [h]; rfl
  unfold valV; rw [this]

/-- the model's number in its block -/
def ValRel (s : ByteArray) (w : World) (rb zb : Nat) (m : Nat) (i : Value) (wr : World) : Prop :=
  ∃ k : Nat, k + m = s.size ∧ i = .int .i64 k ∧ Below w.heap.size w wr ∧ wr.cell? ⟨zb, 0, none⟩ = some (.int .i64 (valX ((toL s).take k))) ∧ wr.cell? ⟨zb, 1, none⟩ = some (.int .i64 (valY ((toL s).take k))) ∧
    wr.frozen? ⟨zb, 0, none⟩ = false ∧ wr.frozen? ⟨zb, 1, none⟩ = false ∧ wr.cell? ⟨rb, 0, none⟩ = some (.int .i64 0) ∧ wr.cell? ⟨rb, 1, none⟩ = some (.int .i64 0) ∧ wr.frozen? ⟨rb, 0, none⟩ = false ∧ wr.frozen? ⟨rb, 1, none⟩ = false
/-! ### the program's side -/
theorem plusW_c (x y x' y' : Int) (w : World) (h : -9007199254740992 ≤ x ∧ x ≤ 9007199254740992 ∧ -9007199254740992 ≤ y ∧ y ≤ 9007199254740992) (h' : -9007199254740992 ≤ x' ∧ x' ≤ 9007199254740992 ∧ -9007199254740992 ≤ y' ∧ y' ≤ 9007199254740992) : Calls Tryd.prog 77 #[pr x y, pr x' y'] w fun e w' => e = .returned (pr (x + x') (y + y')) ∧ Below w.heap.size w w' := by
  obtain ⟨h1, h2, h3, h4⟩ := h
  obtain ⟨h1', h2', h3', h4'⟩ := h'
  go_enter Tryd.func77, Tryd.ntmps77
  go_wp2
  exact bodyPost_ret (v := pr (x + x') (y + y')) (by simp [results, Tryd.results77, go_sem]) rfl ⟨rfl, by (repeat' (first | assumption | exact Below.refl _ _ | apply Blw.alloc | apply Blw.drew | apply Blw.drewN | (refine Blw.after ?_ (by assumption)) | (refine Blw.set ?_ (by first | (dsimp only; omega) | (simp; done) | (simp; omega)) _)))⟩
theorem timesBase_c (x y : Int) (w : World) (h : -1125899906842624 ≤ x ∧ x ≤ 1125899906842624) (h' : -1125899906842624 ≤ y ∧ y ≤ 1125899906842624) : Calls Tryd.prog 76 #[pr x y, pr (-1) 1] w fun e w' => e = .returned (pr (-x - y) (x - y)) ∧ Below w.heap.size w w' := by
  obtain ⟨h1, h2⟩ := h
  obtain ⟨h3, h4⟩ := h'
  have e1 : x * -1 = -x := by omega
  have e2 : y * -1 = -y := by omega
  have HE := Lib.hid (show -x + -y = -x - y by omega)
  go_enter Tryd.func76, Tryd.ntmps76
  go_wp2
  exact bodyPost_ret (v := pr (-x - y) (x - y)) (by simp [results, Tryd.results76, go_sem]; omega) rfl ⟨rfl, by (repeat' (first | assumption | exact Below.refl _ _ | apply Blw.alloc | apply Blw.drew | apply Blw.drewN | (refine Blw.after ?_ (by assumption)) | (refine Blw.set ?_ (by first | (dsimp only; omega) | (simp; done) | (simp; omega)) _)))⟩

def ValRelR (s : ByteArray) (w : World) (rb zb ib : Nat) (m : Nat) (wr : World) : Prop :=
  ∃ k : Nat, k + m = s.size ∧ wr.heap[ib]? = some (.stringIter s k) ∧ Below w.heap.size w wr ∧ wr.cell? ⟨zb, 0, none⟩ = some (.int .i64 (valX ((toL s).take k))) ∧ wr.cell? ⟨zb, 1, none⟩ = some (.int .i64 (valY ((toL s).take k))) ∧
    wr.frozen? ⟨zb, 0, none⟩ = false ∧ wr.frozen? ⟨zb, 1, none⟩ = false ∧ wr.cell? ⟨rb, 0, none⟩ = some (.int .i64 0) ∧ wr.cell? ⟨rb, 1, none⟩ = some (.int .i64 0) ∧ wr.frozen? ⟨rb, 0, none⟩ = false ∧ wr.frozen? ⟨rb, 1, none⟩ = false
theorem val_atB {s : ByteArray} (h : ∀ c ∈ toL s, bitC c = true) (hl : s.size ≤ 50) (k : Nat) : (-1125899906842624 ≤ valX ((toL s).take k) ∧ valX ((toL s).take k) ≤ 1125899906842624) ∧ (-1125899906842624 ≤ valY ((toL s).take k) ∧ valY ((toL s).take k) ≤ 1125899906842624) :=
  val_in (fun c hc => h c (List.mem_of_mem_take hc)) (Nat.le_trans (List.length_take_le' _ _) (by rw [toL_len]; exact hl))
theorem bit_at {s : ByteArray} (h : ∀ c ∈ toL s, bitC c = true) (k : Nat) (hk : k < s.size) : s[k].toNat = 48 ∨ s[k].toNat = 49 :=
  (bitC_iff _).1 (h _ (List.mem_of_getElem? (toL_get s k hk)))
theorem byte_atB {s : ByteArray} (h : ∀ c ∈ toL s, bitC c = true) (k : Nat) (hk : k < s.size) : 48 ≤ (s[k].toNat : Int) ∧ (s[k].toNat : Int) ≤ 49 := by
  have := bit_at h k hk; omega
theorem decode_bit {s : ByteArray} (h : ∀ c ∈ toL s, bitC c = true) (k : Nat) (hk : k < s.size) : Utf8.decode s k = (s[k].toNat, 1) :=
  decode_ascii s k hk (by have := bit_at h k hk; omega)
set_option maxRecDepth 100000 in
set_option maxHeartbeats 2000000 in
theorem digitsPair_c (s : ByteArray) (w : World) (hb0 : ∀ c ∈ toL s, bitC c = true) (hl0 : s.size ≤ 50) : Calls Tryd.prog 55 #[.string s] w fun e w' => e = .returned (pr (valX (toL s)) (valY (toL s))) ∧ Below w.heap.size w w' := by
  have HV := Lib.hid hb0
  clear hb0
  go_enter Tryd.func55, Tryd.ntmps55
  go_wp2_with fail
  generalize hW : World.alloc (World.alloc w _) _ = A
  have kA_13 : A.cell? ⟨w.heap.size, 0, none⟩ = some (.int .i64 (0)) := by rw [← hW]; clear hW; first | (go_simp; done) | ((repeat refine keepcell ((Below.refl _ _).alloc (Nat.le_refl _) _) ?_); go_simp; done) | (simp only [frozen?_alloc_cells]; go_simp; done)
  have zA_13 : A.frozen? ⟨w.heap.size, 0, none⟩ = false := by rw [← hW]; clear hW; first | (go_simp; done) | ((repeat refine keepcell ((Below.refl _ _).alloc (Nat.le_refl _) _) ?_); go_simp; done) | (simp only [frozen?_alloc_cells]; go_simp; done)
  have kA_14 : A.cell? ⟨w.heap.size, 1, none⟩ = some (.int .i64 (0)) := by rw [← hW]; clear hW; first | (go_simp; done) | ((repeat refine keepcell ((Below.refl _ _).alloc (Nat.le_refl _) _) ?_); go_simp; done) | (simp only [frozen?_alloc_cells]; go_simp; done)
  have zA_14 : A.frozen? ⟨w.heap.size, 1, none⟩ = false := by rw [← hW]; clear hW; first | (go_simp; done) | ((repeat refine keepcell ((Below.refl _ _).alloc (Nat.le_refl _) _) ?_); go_simp; done) | (simp only [frozen?_alloc_cells]; go_simp; done)
  have : w.heap.size < A.heap.size := World.block_lt_of_cell? A ⟨w.heap.size, 0, none⟩ (by assumption)
  have kA_15 : A.cell? ⟨w.heap.size + 1, 0, none⟩ = some (.int .i64 (0)) := by rw [← hW]; clear hW; first | (go_simp; done) | ((repeat refine keepcell ((Below.refl _ _).alloc (Nat.le_refl _) _) ?_); go_simp; done) | (simp only [frozen?_alloc_cells]; go_simp; done)
  have zA_15 : A.frozen? ⟨w.heap.size + 1, 0, none⟩ = false := by rw [← hW]; clear hW; first | (go_simp; done) | ((repeat refine keepcell ((Below.refl _ _).alloc (Nat.le_refl _) _) ?_); go_simp; done) | (simp only [frozen?_alloc_cells]; go_simp; done)
  have kA_16 : A.cell? ⟨w.heap.size + 1, 1, none⟩ = some (.int .i64 (0)) := by rw [← hW]; clear hW; first | (go_simp; done) | ((repeat refine keepcell ((Below.refl _ _).alloc (Nat.le_refl _) _) ?_); go_simp; done) | (simp only [frozen?_alloc_cells]; go_simp; done)
  have zA_16 : A.frozen? ⟨w.heap.size + 1, 1, none⟩ = false := by rw [← hW]; clear hW; first | (go_simp; done) | ((repeat refine keepcell ((Below.refl _ _).alloc (Nat.le_refl _) _) ?_); go_simp; done) | (simp only [frozen?_alloc_cells]; go_simp; done)
  have : w.heap.size + 1 < A.heap.size := World.block_lt_of_cell? A ⟨w.heap.size + 1, 0, none⟩ (by assumption)
  have hBA : Below w.heap.size w A := by rw [← hW]; (repeat' (first | assumption | exact Below.refl _ _ | apply Blw.alloc | apply Blw.drew | apply Blw.drewN | (refine Blw.after ?_ (by assumption)) | (refine Blw.set ?_ (by first | (dsimp only; omega) | (simp; done) | (simp; omega)) _)))
  have hsA := hBA.size
  have hzA : A.heap.size = w.heap.size + 1 + 1 := by rw [← hW]; first | exact alloc_size _ _ | (rw [alloc_size, alloc_size])
  clear hW
  try clear kW0_9; try clear kW0_10; try clear kW0_11; try clear zW0_11; try clear kW0_12; try clear zW0_12; try clear hH; try clear hH1
  have S0 : ValRelR s w w.heap.size (w.heap.size + 1) (w.heap.size + 1 + 1) s.size (A.iter s 0) :=
    ⟨0, by omega, by rw [← hzA]; exact World.iter_heap A s 0, hBA.trans ((iter_below A s 0).mono (by omega)), by rw [List.take_zero, valX_nil]; exact iter_cell A s 0 (by assumption), by rw [List.take_zero, valY_nil]; exact iter_cell A s 0 (by assumption),
      (iter_froz A s 0 (by omega)).trans (by assumption), (iter_froz A s 0 (by omega)).trans (by assumption), iter_cell A s 0 (by assumption), iter_cell A s 0 (by assumption), (iter_froz A s 0 (by omega)).trans (by assumption), (iter_froz A s 0 (by omega)).trans (by assumption)⟩
  have HS0 := Lib.hid S0
  clear S0 hBA
  try clear kA_13; try clear zA_13; try clear kA_14; try clear zA_14; try clear kA_15; try clear zA_15; try clear kA_16; try clear zA_16
  go_loopg [5] s.size (fun m v wr => ValRelR s w w.heap.size (w.heap.size + 1) (w.heap.size + 1 + 1) m wr)
  case atStart => exact HS0.out
  case round =>
    clear HS0
    obtain ⟨k, hk, hit, hBw, z0, z1, f0, f1, r0, r1, g0, g1⟩ := hrel
    have L1 := iter_lt hit
    by_cases hlt : k < s.size
    · have hnx : ∀ ty, (Instr.next (.pointer (some ⟨w.heap.size + 1 + 1, 0, none⟩)) true ty).run Tryd.prog wr = _ := fun ty => Lib.run_next_any_at wr (w.heap.size + 1 + 1) s k ty hit hlt
      rw [decode_bit HV.out k hlt] at hnx
      have hit2 := Lib.iterAt_heap wr (w.heap.size + 1 + 1) s k (k + 1) hit
      have hB2 := Lib.below_iterAt hBw (k := w.heap.size + 1 + 1) (by omega) s (k + 1)
      have y0 := (iterAt_cell wr (w.heap.size + 1 + 1) s (k + 1) (b := w.heap.size + 1) (o := 0) (by omega)).trans z0
      have y1 := (iterAt_cell wr (w.heap.size + 1 + 1) s (k + 1) (b := w.heap.size + 1) (o := 1) (by omega)).trans z1
      have e0 := (iterAt_froz wr (w.heap.size + 1 + 1) s (k + 1) (b := w.heap.size + 1) (o := 0) (by omega)).trans f0
      have e1 := (iterAt_froz wr (w.heap.size + 1 + 1) s (k + 1) (b := w.heap.size + 1) (o := 1) (by omega)).trans f1
      have q0 := (iterAt_cell wr (w.heap.size + 1 + 1) s (k + 1) (b := w.heap.size) (o := 0) (by omega)).trans r0
      have q1 := (iterAt_cell wr (w.heap.size + 1 + 1) s (k + 1) (b := w.heap.size) (o := 1) (by omega)).trans r1
      have d0 := (iterAt_froz wr (w.heap.size + 1 + 1) s (k + 1) (b := w.heap.size) (o := 0) (by omega)).trans g0
      have d1 := (iterAt_froz wr (w.heap.size + 1 + 1) s (k + 1) (b := w.heap.size) (o := 1) (by omega)).trans g1
      generalize wr.iterAt (w.heap.size + 1 + 1) s (k + 1) = W2 at *
      have L2 := iter_lt hit2
      have L3 : w.heap.size + 1 < W2.heap.size := by omega
      have L4 : w.heap.size < W2.heap.size := by omega
      clear hit z0 z1 f0 f1 r0 r1 g0 g1 hBw
      obtain ⟨b1, b2⟩ := byte_atB HV.out k hlt
      obtain ⟨⟨c1, c2⟩, c3, c4⟩ := val_atB HV.out hl0 k
      have HX := Lib.hid (valX_step (s := s) hlt)
      have HY := Lib.hid (valY_step (s := s) hlt)
      generalize hX : valX (List.take k (toL s)) = X at *
      generalize hY : valY (List.take k (toL s)) = Y at *
      clear hX hY
      have HI := Lib.hid hit2
      clear hit2
      go_wp2_with (first | (go_at_call 76; refine (timesBase_c X Y _ ⟨c1, c2⟩ ⟨c3, c4⟩).mono ?_; rintro e w1 ⟨rfl, hb⟩; have hk : Hld W2 w1 := heldM (by (repeat' (first | assumption | exact Below.refl _ _ | apply Blw.alloc | apply Blw.drew | apply Blw.drewN | (refine Blw.after ?_ (by assumption)) | (refine Blw.set ?_ (by first | (dsimp only; omega) | (simp; done) | (simp; omega)) _)))); have hk1 := hk.1) | (go_at_call 77; refine (plusW_c (-X - Y) (X - Y) ((s[k].toNat : Int) - 48) 0 _ (by omega) (by omega)).mono ?_; rintro e w1 ⟨rfl, hb⟩; have hk : Hld W2 w1 := heldM (by (repeat' (first | assumption | exact Below.refl _ _ | apply Blw.alloc | apply Blw.drew | apply Blw.drewN | (refine Blw.after ?_ (by assumption)) | (refine Blw.set ?_ (by first | (dsimp only; omega) | (simp; done) | (simp; omega)) _)))); have hk1 := hk.1))
      go_roundg (gk - 1)
      case measure => omega
      case rel => exact ⟨k + 1, by omega, iter_set (iter_set (iter_of_below (by assumption) HI.out) (by dsimp only; omega) _) (by dsimp only; omega) _, by (repeat' (first | assumption | exact Below.refl _ _ | apply Blw.alloc | apply Blw.drew | apply Blw.drewN | (refine Blw.after ?_ (by assumption)) | (refine Blw.set ?_ (by first | (dsimp only; omega) | (simp; done) | (simp; omega)) _))), by rw [HX.out]; go_simp, by rw [HY.out]; go_simp, by go_simp, by go_simp, by go_simp, by go_simp, by go_simp, by go_simp⟩
    · have hnx : ∀ ty, (Instr.next (.pointer (some ⟨w.heap.size + 1 + 1, 0, none⟩)) true ty).run Tryd.prog wr = _ := fun ty => Lib.run_next_end_at wr (w.heap.size + 1 + 1) s k ty hit hlt
      have HS := Lib.hid (take_allB s k (by omega))
      have L3 : w.heap.size + 1 < wr.heap.size := by omega
      have L4 : w.heap.size < wr.heap.size := by omega
      rw [HS.out] at z0 z1
      go_wp2
      exact bodyPost_ret (v := pr (valX (toL s)) (valY (toL s))) (by simp [results, Tryd.results55, go_sem, *]) rfl ⟨rfl, by (repeat' (first | assumption | exact Below.refl _ _ | apply Blw.alloc | apply Blw.drew | apply Blw.drewN | (refine Blw.after ?_ (by assumption)) | (refine Blw.set ?_ (by first | (dsimp only; omega) | (simp; done) | (simp; omega)) _)))⟩
end Go.Proofs.YtaleeoghifcadaaDoor

/- FnExactGaussDivide: for every two Gauss, the program's quotient, rest and flag are the model's; no condition. -/
import Derived.Test.YtglieacjpdpmnaaGg
import Derived.Test.YtglieacjpdpmnaaBase
namespace Go.Proofs.Ytglieacjpdpmnaa
set_option linter.unusedSimpArgs false
set_option linter.unusedVariables false
open Go.ChangeShapes Go.WideShapes Go.ChangeAt Go.RowKit Go.Joins

set_option maxHeartbeats 2000000 in
theorem lawGaussDivide_c (x y x' y' : Int) (w : World) : Calls Try.prog 7 #[pr x y, pr x' y'] w fun e w' => e = .returned (.bool true) ∧ Below w.heap.size w w' := by
  go_enter Try.func7, Try.ntmps7
  go_wp2_with fail
  generalize hW : World.alloc _ _ = W0
  have kW0_467 : W0.cell? ⟨w.heap.size, 0, none⟩ = some (.int .i64 (x)) := by rw [← hW]; clear hW; first | (go_simp; done) | ((repeat refine keepcell ((Below.refl _ _).alloc (Nat.le_refl _) _) ?_); go_simp; done) | (simp only [frozen?_alloc_cells]; go_simp; done)
  have kW0_468 : W0.cell? ⟨w.heap.size, 1, none⟩ = some (.int .i64 (y)) := by rw [← hW]; clear hW; first | (go_simp; done) | ((repeat refine keepcell ((Below.refl _ _).alloc (Nat.le_refl _) _) ?_); go_simp; done) | (simp only [frozen?_alloc_cells]; go_simp; done)
  have : w.heap.size < W0.heap.size := World.block_lt_of_cell? W0 ⟨w.heap.size, 0, none⟩ (by assumption)
  have kW0_469 : W0.cell? ⟨w.heap.size + 1, 0, none⟩ = some (.int .i64 (x')) := by rw [← hW]; clear hW; first | (go_simp; done) | ((repeat refine keepcell ((Below.refl _ _).alloc (Nat.le_refl _) _) ?_); go_simp; done) | (simp only [frozen?_alloc_cells]; go_simp; done)
  have kW0_470 : W0.cell? ⟨w.heap.size + 1, 1, none⟩ = some (.int .i64 (y')) := by rw [← hW]; clear hW; first | (go_simp; done) | ((repeat refine keepcell ((Below.refl _ _).alloc (Nat.le_refl _) _) ?_); go_simp; done) | (simp only [frozen?_alloc_cells]; go_simp; done)
  have : w.heap.size + 1 < W0.heap.size := World.block_lt_of_cell? W0 ⟨w.heap.size + 1, 0, none⟩ (by assumption)
  have hBW0 : Below w.heap.size w W0 := by rw [← hW]; (repeat' (first | assumption | exact Below.refl _ _ | apply Blw.alloc | apply Blw.drew | apply Blw.drewN | (refine Blw.after ?_ (by assumption)) | (refine Blw.set ?_ (by first | (dsimp only; omega) | (simp; done) | (simp; omega)) _)))
  have hsW0 := hBW0.size
  clear hW
  refine region_slots (fun _ => True) [7, 8] [(12, .is (pr x y)), (13, .is (pr x y)), (14, .is (pr x' y')), (15, .is (pr x' y')), (16, .is (res3 (divB x y x' y') (qx x y x' y') (qy x y x' y') (rx x y x' y') (ry x y x' y'))), (11, .is (res3 (divB x y x' y') (qx x y x' y') (qy x y x' y') (rx x y x' y') (ry x y x' y'))), (17, .is (pr (sel (divB x y x' y') (qx x y x' y')) (sel (divB x y x' y') (qy x y x' y')))), (18, .is (pr (sel (divB x y x' y') (rx x y x' y')) (sel (divB x y x' y') (ry x y x' y')))), (19, .is (.bool (divB x y x' y'))), (5, .own [.int .i64 0, .int .i64 0]), (6, .own [.int .i64 0, .int .i64 0])] (by kernel_rfl) (by kernel_rfl) (by kernel_rfl) (fun _ _ => trivial) (fun _ _ _ _ _ _ h => h) ?_
  simp only [Steps, List.contains_cons, List.contains_nil, Nat.reduceBEq, Nat.reduceAdd, Bool.or_false, Bool.false_or, Bool.or_true, Bool.true_or, Bool.false_eq_true, if_false, if_true]
  refine ⟨?_, ?_, ?_, ?_, ?_, ?_, ?_, ?_, ?_, ?_, ?_, ?_⟩
  · intro u w2 hH hd K hK
    simp only [setU, upd, List.map_cons, List.map_nil, List.contains_cons, List.contains_nil, Nat.reduceBEq, Nat.reduceAdd, Bool.or_false, Bool.false_or, Bool.or_true, Bool.true_or, Bool.false_eq_true, if_false, if_true, ite_true, ite_false, Nat.reduceEqDiff, beq_self_eq_true] at hK ⊢
    go_wp2_with (fail)
    exact hK _ _ (by (repeat' (first | assumption | exact Below.refl _ _ | apply Blw.alloc | apply Blw.drew | apply Blw.drewN | (refine Blw.after ?_ (by assumption)) | (refine Blw.set ?_ (by first | (dsimp only; omega) | (simp; done) | (simp; omega)) _)))) rfl
  · intro u w2 hH hd K hK
    have f12 : u 12 = (pr x y) := hd 12 (by kernel_rfl)
    simp only [setU, upd, List.map_cons, List.map_nil, List.contains_cons, List.contains_nil, Nat.reduceBEq, Nat.reduceAdd, Bool.or_false, Bool.false_or, Bool.or_true, Bool.true_or, Bool.false_eq_true, if_false, if_true, ite_true, ite_false, Nat.reduceEqDiff, beq_self_eq_true] at hK ⊢
    rw [f12] at hK ⊢
    clear f12
    go_wp2_with ((go_at_call 13; refine (toGauss_c _ _ _).mono ?_; rintro e w1 ⟨rfl, hb⟩; obtain ⟨hc, hf⟩ := bcell hb; have hz := bsize hb; have hs := hb.size; try simp at hs))
    exact hK _ _ (by (repeat' (first | assumption | exact Below.refl _ _ | apply Blw.alloc | apply Blw.drew | apply Blw.drewN | (refine Blw.after ?_ (by assumption)) | (refine Blw.set ?_ (by first | (dsimp only; omega) | (simp; done) | (simp; omega)) _)))) rfl
  · intro u w2 hH hd K hK
    simp only [setU, upd, List.map_cons, List.map_nil, List.contains_cons, List.contains_nil, Nat.reduceBEq, Nat.reduceAdd, Bool.or_false, Bool.false_or, Bool.or_true, Bool.true_or, Bool.false_eq_true, if_false, if_true, ite_true, ite_false, Nat.reduceEqDiff, beq_self_eq_true] at hK ⊢
    go_wp2_with (fail)
    exact hK _ _ (by (repeat' (first | assumption | exact Below.refl _ _ | apply Blw.alloc | apply Blw.drew | apply Blw.drewN | (refine Blw.after ?_ (by assumption)) | (refine Blw.set ?_ (by first | (dsimp only; omega) | (simp; done) | (simp; omega)) _)))) rfl
  · intro u w2 hH hd K hK
    have f14 : u 14 = (pr x' y') := hd 14 (by kernel_rfl)
    simp only [setU, upd, List.map_cons, List.map_nil, List.contains_cons, List.contains_nil, Nat.reduceBEq, Nat.reduceAdd, Bool.or_false, Bool.false_or, Bool.or_true, Bool.true_or, Bool.false_eq_true, if_false, if_true, ite_true, ite_false, Nat.reduceEqDiff, beq_self_eq_true] at hK ⊢
    rw [f14] at hK ⊢
    clear f14
    go_wp2_with ((go_at_call 13; refine (toGauss_c _ _ _).mono ?_; rintro e w1 ⟨rfl, hb⟩; obtain ⟨hc, hf⟩ := bcell hb; have hz := bsize hb; have hs := hb.size; try simp at hs))
    exact hK _ _ (by (repeat' (first | assumption | exact Below.refl _ _ | apply Blw.alloc | apply Blw.drew | apply Blw.drewN | (refine Blw.after ?_ (by assumption)) | (refine Blw.set ?_ (by first | (dsimp only; omega) | (simp; done) | (simp; omega)) _)))) rfl
  · intro u w2 hH hd K hK
    have f13 : u 13 = (pr x y) := hd 13 (by kernel_rfl)
    have f15 : u 15 = (pr x' y') := hd 15 (by kernel_rfl)
    simp only [setU, upd, List.map_cons, List.map_nil, List.contains_cons, List.contains_nil, Nat.reduceBEq, Nat.reduceAdd, Bool.or_false, Bool.false_or, Bool.or_true, Bool.true_or, Bool.false_eq_true, if_false, if_true, ite_true, ite_false, Nat.reduceEqDiff, beq_self_eq_true] at hK ⊢
    rw [f13, f15] at hK ⊢
    clear f13 f15
    go_wp2_with ((go_at_call 22; refine (sGaussDivide_c _ _ _ _ _).mono ?_; rintro e w1 ⟨rfl, hb⟩; obtain ⟨hc, hf⟩ := bcell hb; have hz := bsize hb; have hs := hb.size; try simp at hs))
    exact hK _ _ (by (repeat' (first | assumption | exact Below.refl _ _ | apply Blw.alloc | apply Blw.drew | apply Blw.drewN | (refine Blw.after ?_ (by assumption)) | (refine Blw.set ?_ (by first | (dsimp only; omega) | (simp; done) | (simp; omega)) _)))) rfl
  · intro u w2 hH hd K hK
    have f16 : u 16 = (res3 (divB x y x' y') (qx x y x' y') (qy x y x' y') (rx x y x' y') (ry x y x' y')) := hd 16 (by kernel_rfl)
    simp only [setU, upd, List.map_cons, List.map_nil, List.contains_cons, List.contains_nil, Nat.reduceBEq, Nat.reduceAdd, Bool.or_false, Bool.false_or, Bool.or_true, Bool.true_or, Bool.false_eq_true, if_false, if_true, ite_true, ite_false, Nat.reduceEqDiff, beq_self_eq_true] at hK ⊢
    rw [f16] at hK ⊢
    clear f16
    go_wp2_with (fail)
    exact hK _ _ (by (repeat' (first | assumption | exact Below.refl _ _ | apply Blw.alloc | apply Blw.drew | apply Blw.drewN | (refine Blw.after ?_ (by assumption)) | (refine Blw.set ?_ (by first | (dsimp only; omega) | (simp; done) | (simp; omega)) _)))) rfl
  · intro u w2 hH hd K hK
    have f11 : u 11 = (res3 (divB x y x' y') (qx x y x' y') (qy x y x' y') (rx x y x' y') (ry x y x' y')) := hd 11 (by kernel_rfl)
    simp only [setU, upd, List.map_cons, List.map_nil, List.contains_cons, List.contains_nil, Nat.reduceBEq, Nat.reduceAdd, Bool.or_false, Bool.false_or, Bool.or_true, Bool.true_or, Bool.false_eq_true, if_false, if_true, ite_true, ite_false, Nat.reduceEqDiff, beq_self_eq_true] at hK ⊢
    rw [f11] at hK ⊢
    clear f11
    go_wp2_with (fail)
    exact hK _ _ (by (repeat' (first | assumption | exact Below.refl _ _ | apply Blw.alloc | apply Blw.drew | apply Blw.drewN | (refine Blw.after ?_ (by assumption)) | (refine Blw.set ?_ (by first | (dsimp only; omega) | (simp; done) | (simp; omega)) _)))) rfl
  · intro u w2 hH hd
    have f11 : u 11 = (res3 (divB x y x' y') (qx x y x' y') (qy x y x' y') (rx x y x' y') (ry x y x' y')) := hd 11 (by kernel_rfl)
    simp only [setU, upd, List.map_cons, List.map_nil, List.contains_cons, List.contains_nil, Nat.reduceBEq, Nat.reduceAdd, Bool.or_false, Bool.false_or, Bool.or_true, Bool.true_or, Bool.false_eq_true, if_false, if_true, ite_true, ite_false, Nat.reduceEqDiff, beq_self_eq_true]
    rw [f11]
    clear f11
    refine ⟨(pr (sel (divB x y x' y') (rx x y x' y')) (sel (divB x y x' y') (ry x y x' y'))), fun w hS => ?_, by first | rfl | trivial, by first | rfl | trivial, by first | rfl | trivial⟩
    first | (go_simp; done) | (go_simp; exact IntWalk.i64_in _ (by omega))
  · intro u w2 hH hd
    have f11 : u 11 = (res3 (divB x y x' y') (qx x y x' y') (qy x y x' y') (rx x y x' y') (ry x y x' y')) := hd 11 (by kernel_rfl)
    simp only [setU, upd, List.map_cons, List.map_nil, List.contains_cons, List.contains_nil, Nat.reduceBEq, Nat.reduceAdd, Bool.or_false, Bool.false_or, Bool.or_true, Bool.true_or, Bool.false_eq_true, if_false, if_true, ite_true, ite_false, Nat.reduceEqDiff, beq_self_eq_true]
    rw [f11]
    clear f11
    refine ⟨(.bool (divB x y x' y')), fun w hS => ?_, by first | rfl | trivial, by first | rfl | trivial, by first | rfl | trivial⟩
    first | (go_simp; done) | (go_simp; exact IntWalk.i64_in _ (by omega))
  · intro u w2 hH hd K hK
    simp only [setU, upd, List.map_cons, List.map_nil, List.contains_cons, List.contains_nil, Nat.reduceBEq, Nat.reduceAdd, Bool.or_false, Bool.false_or, Bool.or_true, Bool.true_or, Bool.false_eq_true, if_false, if_true, ite_true, ite_false, Nat.reduceEqDiff, beq_self_eq_true] at hK ⊢
    go_wp2_with (fail)
    exact hK _ _ (by (repeat' (first | assumption | exact Below.refl _ _ | apply Blw.alloc | apply Blw.drew | apply Blw.drewN | (refine Blw.after ?_ (by assumption)) | (refine Blw.set ?_ (by first | (dsimp only; omega) | (simp; done) | (simp; omega)) _)))) (OwnP.new _ _ _)
  · intro u w2 hH hd K hK
    simp only [setU, upd, List.map_cons, List.map_nil, List.contains_cons, List.contains_nil, Nat.reduceBEq, Nat.reduceAdd, Bool.or_false, Bool.false_or, Bool.or_true, Bool.true_or, Bool.false_eq_true, if_false, if_true, ite_true, ite_false, Nat.reduceEqDiff, beq_self_eq_true] at hK ⊢
    go_wp2_with (fail)
    exact hK _ _ (by (repeat' (first | assumption | exact Below.refl _ _ | apply Blw.alloc | apply Blw.drew | apply Blw.drewN | (refine Blw.after ?_ (by assumption)) | (refine Blw.set ?_ (by first | (dsimp only; omega) | (simp; done) | (simp; omega)) _)))) (OwnP.new _ _ _)
  intro u w2 hH hF hne
  have hH1 := hH.1
  have hH2 := hH.2.2.2
  simp only [allFacts, SlotFact.h] at hF
  obtain ⟨f12, f13, f14, f15, f16, f11, f17, f18, f19, ⟨b5, f5, g5, l5, k5, z5⟩, ⟨b6, f6, g6, l6, k6, z6⟩, -⟩ := hF
  have n5_6 : b5 ≠ b6 := by have h := hne 5 6 (by kernel_rfl) (by kernel_rfl) (by decide); rw [f5, f6] at h; exact h
  simp only [setU, upd, List.map_cons, List.map_nil, List.contains_cons, List.contains_nil, Nat.reduceBEq, Nat.reduceAdd, Bool.or_false, Bool.false_or, Bool.or_true, Bool.true_or, Bool.false_eq_true, if_false, if_true, ite_true, ite_false, Nat.reduceEqDiff, beq_self_eq_true]
  rw [f12, f13, f14, f15, f16, f11, f17, f18, f19, f5, f6]
  clear f12 f13 f14 f15 f16 f11 f17 f18 f19 f5 f6 hne
  have c5_0 := k5 0 _ rfl
  have e5_0 := z5 0 (by simp)
  have c5_1 := k5 1 _ rfl
  have e5_1 := z5 1 (by simp)
  clear k5 z5
  have c6_0 := k6 0 _ rfl
  have e6_0 := z6 0 (by simp)
  have c6_1 := k6 1 _ rfl
  have e6_1 := z6 1 (by simp)
  clear k6 z6
  refine wpListS_true ?_
  go_wp2_with fail
  generalize hW : World.setCell _ _ _ = W1
  have kW1_471 : W1.cell? ⟨w.heap.size, 0, none⟩ = some (.int .i64 (x)) := by rw [← hW]; clear hW; first | (go_simp; done) | ((repeat refine keepcell ((Below.refl _ _).alloc (Nat.le_refl _) _) ?_); go_simp; done) | (simp only [frozen?_alloc_cells]; go_simp; done)
  have kW1_472 : W1.cell? ⟨w.heap.size, 1, none⟩ = some (.int .i64 (y)) := by rw [← hW]; clear hW; first | (go_simp; done) | ((repeat refine keepcell ((Below.refl _ _).alloc (Nat.le_refl _) _) ?_); go_simp; done) | (simp only [frozen?_alloc_cells]; go_simp; done)
  have : w.heap.size < W1.heap.size := World.block_lt_of_cell? W1 ⟨w.heap.size, 0, none⟩ (by assumption)
  have kW1_473 : W1.cell? ⟨w.heap.size + 1, 0, none⟩ = some (.int .i64 (x')) := by rw [← hW]; clear hW; first | (go_simp; done) | ((repeat refine keepcell ((Below.refl _ _).alloc (Nat.le_refl _) _) ?_); go_simp; done) | (simp only [frozen?_alloc_cells]; go_simp; done)
  have kW1_474 : W1.cell? ⟨w.heap.size + 1, 1, none⟩ = some (.int .i64 (y')) := by rw [← hW]; clear hW; first | (go_simp; done) | ((repeat refine keepcell ((Below.refl _ _).alloc (Nat.le_refl _) _) ?_); go_simp; done) | (simp only [frozen?_alloc_cells]; go_simp; done)
  have : w.heap.size + 1 < W1.heap.size := World.block_lt_of_cell? W1 ⟨w.heap.size + 1, 0, none⟩ (by assumption)
  have kW1_475 : W1.cell? ⟨b5, 0, none⟩ = some (.int .i64 ((sel (divB x y x' y') (qx x y x' y')))) := by rw [← hW]; clear hW; first | (go_simp; done) | ((repeat refine keepcell ((Below.refl _ _).alloc (Nat.le_refl _) _) ?_); go_simp; done) | (simp only [frozen?_alloc_cells]; go_simp; done)
  have kW1_476 : W1.cell? ⟨b5, 1, none⟩ = some (.int .i64 ((sel (divB x y x' y') (qy x y x' y')))) := by rw [← hW]; clear hW; first | (go_simp; done) | ((repeat refine keepcell ((Below.refl _ _).alloc (Nat.le_refl _) _) ?_); go_simp; done) | (simp only [frozen?_alloc_cells]; go_simp; done)
  have : b5 < W1.heap.size := World.block_lt_of_cell? W1 ⟨b5, 0, none⟩ (by assumption)
  have kW1_477 : W1.cell? ⟨b6, 0, none⟩ = some (.int .i64 ((sel (divB x y x' y') (rx x y x' y')))) := by rw [← hW]; clear hW; first | (go_simp; done) | ((repeat refine keepcell ((Below.refl _ _).alloc (Nat.le_refl _) _) ?_); go_simp; done) | (simp only [frozen?_alloc_cells]; go_simp; done)
  have kW1_478 : W1.cell? ⟨b6, 1, none⟩ = some (.int .i64 ((sel (divB x y x' y') (ry x y x' y')))) := by rw [← hW]; clear hW; first | (go_simp; done) | ((repeat refine keepcell ((Below.refl _ _).alloc (Nat.le_refl _) _) ?_); go_simp; done) | (simp only [frozen?_alloc_cells]; go_simp; done)
  have : b6 < W1.heap.size := World.block_lt_of_cell? W1 ⟨b6, 0, none⟩ (by assumption)
  have hBW1 : Below w.heap.size w W1 := by rw [← hW]; (repeat' (first | assumption | exact Below.refl _ _ | apply Blw.alloc | apply Blw.drew | apply Blw.drewN | (refine Blw.after ?_ (by assumption)) | (refine Blw.set ?_ (by first | (dsimp only; omega) | (simp; done) | (simp; omega)) _)))
  have hsW1 := hBW1.size
  clear hW
  try clear kW0_467; try clear kW0_468; try clear kW0_469; try clear kW0_470; try clear hH; try clear hH1; try clear c5_0; try clear e5_0; try clear c5_1; try clear e5_1; try clear c6_0; try clear e6_0; try clear c6_1; try clear e6_1
  refine region_slots (fun _ => True) [7, 8] [(21, .is (pr x y)), (22, .is (pr x y)), (23, .is (pr x' y')), (24, .is (pr x' y')), (25, .is (res3 (divB x y x' y') (qx x y x' y') (qy x y x' y') (rx x y x' y') (ry x y x' y'))), (20, .is (res3 (divB x y x' y') (qx x y x' y') (qy x y x' y') (rx x y x' y') (ry x y x' y'))), (26, .is (pr (sel (divB x y x' y') (qx x y x' y')) (sel (divB x y x' y') (qy x y x' y')))), (27, .is (pr (sel (divB x y x' y') (rx x y x' y')) (sel (divB x y x' y') (ry x y x' y')))), (28, .is (.bool (divB x y x' y'))), (8, .own [.int .i64 0, .int .i64 0]), (9, .own [.int .i64 0, .int .i64 0])] (by kernel_rfl) (by kernel_rfl) (by kernel_rfl) (fun _ _ => trivial) (fun _ _ _ _ _ _ h => h) ?_
  simp only [Steps, List.contains_cons, List.contains_nil, Nat.reduceBEq, Nat.reduceAdd, Bool.or_false, Bool.false_or, Bool.or_true, Bool.true_or, Bool.false_eq_true, if_false, if_true]
  refine ⟨?_, ?_, ?_, ?_, ?_, ?_, ?_, ?_, ?_, ?_, ?_, ?_⟩
  · intro u w2 hH hd K hK
    simp only [setU, upd, List.map_cons, List.map_nil, List.contains_cons, List.contains_nil, Nat.reduceBEq, Nat.reduceAdd, Bool.or_false, Bool.false_or, Bool.or_true, Bool.true_or, Bool.false_eq_true, if_false, if_true, ite_true, ite_false, Nat.reduceEqDiff, beq_self_eq_true] at hK ⊢
    go_wp2_with (fail)
    exact hK _ _ (by (repeat' (first | assumption | exact Below.refl _ _ | apply Blw.alloc | apply Blw.drew | apply Blw.drewN | (refine Blw.after ?_ (by assumption)) | (refine Blw.set ?_ (by first | (dsimp only; omega) | (simp; done) | (simp; omega)) _)))) rfl
  · intro u w2 hH hd K hK
    have f21 : u 21 = (pr x y) := hd 21 (by kernel_rfl)
    simp only [setU, upd, List.map_cons, List.map_nil, List.contains_cons, List.contains_nil, Nat.reduceBEq, Nat.reduceAdd, Bool.or_false, Bool.false_or, Bool.or_true, Bool.true_or, Bool.false_eq_true, if_false, if_true, ite_true, ite_false, Nat.reduceEqDiff, beq_self_eq_true] at hK ⊢
    rw [f21] at hK ⊢
    clear f21
    go_wp2_with ((go_at_call 13; refine (toGauss_c _ _ _).mono ?_; rintro e w1 ⟨rfl, hb⟩; obtain ⟨hc, hf⟩ := bcell hb; have hz := bsize hb; have hs := hb.size; try simp at hs))
    exact hK _ _ (by (repeat' (first | assumption | exact Below.refl _ _ | apply Blw.alloc | apply Blw.drew | apply Blw.drewN | (refine Blw.after ?_ (by assumption)) | (refine Blw.set ?_ (by first | (dsimp only; omega) | (simp; done) | (simp; omega)) _)))) rfl
  · intro u w2 hH hd K hK
    simp only [setU, upd, List.map_cons, List.map_nil, List.contains_cons, List.contains_nil, Nat.reduceBEq, Nat.reduceAdd, Bool.or_false, Bool.false_or, Bool.or_true, Bool.true_or, Bool.false_eq_true, if_false, if_true, ite_true, ite_false, Nat.reduceEqDiff, beq_self_eq_true] at hK ⊢
    go_wp2_with (fail)
    exact hK _ _ (by (repeat' (first | assumption | exact Below.refl _ _ | apply Blw.alloc | apply Blw.drew | apply Blw.drewN | (refine Blw.after ?_ (by assumption)) | (refine Blw.set ?_ (by first | (dsimp only; omega) | (simp; done) | (simp; omega)) _)))) rfl
  · intro u w2 hH hd K hK
    have f23 : u 23 = (pr x' y') := hd 23 (by kernel_rfl)
    simp only [setU, upd, List.map_cons, List.map_nil, List.contains_cons, List.contains_nil, Nat.reduceBEq, Nat.reduceAdd, Bool.or_false, Bool.false_or, Bool.or_true, Bool.true_or, Bool.false_eq_true, if_false, if_true, ite_true, ite_false, Nat.reduceEqDiff, beq_self_eq_true] at hK ⊢
    rw [f23] at hK ⊢
    clear f23
    go_wp2_with ((go_at_call 13; refine (toGauss_c _ _ _).mono ?_; rintro e w1 ⟨rfl, hb⟩; obtain ⟨hc, hf⟩ := bcell hb; have hz := bsize hb; have hs := hb.size; try simp at hs))
    exact hK _ _ (by (repeat' (first | assumption | exact Below.refl _ _ | apply Blw.alloc | apply Blw.drew | apply Blw.drewN | (refine Blw.after ?_ (by assumption)) | (refine Blw.set ?_ (by first | (dsimp only; omega) | (simp; done) | (simp; omega)) _)))) rfl
  · intro u w2 hH hd K hK
    have f22 : u 22 = (pr x y) := hd 22 (by kernel_rfl)
    have f24 : u 24 = (pr x' y') := hd 24 (by kernel_rfl)
    simp only [setU, upd, List.map_cons, List.map_nil, List.contains_cons, List.contains_nil, Nat.reduceBEq, Nat.reduceAdd, Bool.or_false, Bool.false_or, Bool.or_true, Bool.true_or, Bool.false_eq_true, if_false, if_true, ite_true, ite_false, Nat.reduceEqDiff, beq_self_eq_true] at hK ⊢
    rw [f22, f24] at hK ⊢
    clear f22 f24
    go_wp2_with ((go_at_call 23; refine (iGaussDivide_c _ _ _ _ _).mono ?_; rintro e w1 ⟨rfl, hb⟩; obtain ⟨hc, hf⟩ := bcell hb; have hz := bsize hb; have hs := hb.size; try simp at hs))
    exact hK _ _ (by (repeat' (first | assumption | exact Below.refl _ _ | apply Blw.alloc | apply Blw.drew | apply Blw.drewN | (refine Blw.after ?_ (by assumption)) | (refine Blw.set ?_ (by first | (dsimp only; omega) | (simp; done) | (simp; omega)) _)))) rfl
  · intro u w2 hH hd K hK
    have f25 : u 25 = (res3 (divB x y x' y') (qx x y x' y') (qy x y x' y') (rx x y x' y') (ry x y x' y')) := hd 25 (by kernel_rfl)
    simp only [setU, upd, List.map_cons, List.map_nil, List.contains_cons, List.contains_nil, Nat.reduceBEq, Nat.reduceAdd, Bool.or_false, Bool.false_or, Bool.or_true, Bool.true_or, Bool.false_eq_true, if_false, if_true, ite_true, ite_false, Nat.reduceEqDiff, beq_self_eq_true] at hK ⊢
    rw [f25] at hK ⊢
    clear f25
    go_wp2_with (fail)
    exact hK _ _ (by (repeat' (first | assumption | exact Below.refl _ _ | apply Blw.alloc | apply Blw.drew | apply Blw.drewN | (refine Blw.after ?_ (by assumption)) | (refine Blw.set ?_ (by first | (dsimp only; omega) | (simp; done) | (simp; omega)) _)))) rfl
  · intro u w2 hH hd K hK
    have f20 : u 20 = (res3 (divB x y x' y') (qx x y x' y') (qy x y x' y') (rx x y x' y') (ry x y x' y')) := hd 20 (by kernel_rfl)
    simp only [setU, upd, List.map_cons, List.map_nil, List.contains_cons, List.contains_nil, Nat.reduceBEq, Nat.reduceAdd, Bool.or_false, Bool.false_or, Bool.or_true, Bool.true_or, Bool.false_eq_true, if_false, if_true, ite_true, ite_false, Nat.reduceEqDiff, beq_self_eq_true] at hK ⊢
    rw [f20] at hK ⊢
    clear f20
    go_wp2_with (fail)
    exact hK _ _ (by (repeat' (first | assumption | exact Below.refl _ _ | apply Blw.alloc | apply Blw.drew | apply Blw.drewN | (refine Blw.after ?_ (by assumption)) | (refine Blw.set ?_ (by first | (dsimp only; omega) | (simp; done) | (simp; omega)) _)))) rfl
  · intro u w2 hH hd
    have f20 : u 20 = (res3 (divB x y x' y') (qx x y x' y') (qy x y x' y') (rx x y x' y') (ry x y x' y')) := hd 20 (by kernel_rfl)
    simp only [setU, upd, List.map_cons, List.map_nil, List.contains_cons, List.contains_nil, Nat.reduceBEq, Nat.reduceAdd, Bool.or_false, Bool.false_or, Bool.or_true, Bool.true_or, Bool.false_eq_true, if_false, if_true, ite_true, ite_false, Nat.reduceEqDiff, beq_self_eq_true]
    rw [f20]
    clear f20
    refine ⟨(pr (sel (divB x y x' y') (rx x y x' y')) (sel (divB x y x' y') (ry x y x' y'))), fun w hS => ?_, by first | rfl | trivial, by first | rfl | trivial, by first | rfl | trivial⟩
    first | (go_simp; done) | (go_simp; exact IntWalk.i64_in _ (by omega))
  · intro u w2 hH hd
    have f20 : u 20 = (res3 (divB x y x' y') (qx x y x' y') (qy x y x' y') (rx x y x' y') (ry x y x' y')) := hd 20 (by kernel_rfl)
    simp only [setU, upd, List.map_cons, List.map_nil, List.contains_cons, List.contains_nil, Nat.reduceBEq, Nat.reduceAdd, Bool.or_false, Bool.false_or, Bool.or_true, Bool.true_or, Bool.false_eq_true, if_false, if_true, ite_true, ite_false, Nat.reduceEqDiff, beq_self_eq_true]
    rw [f20]
    clear f20
    refine ⟨(.bool (divB x y x' y')), fun w hS => ?_, by first | rfl | trivial, by first | rfl | trivial, by first | rfl | trivial⟩
    first | (go_simp; done) | (go_simp; exact IntWalk.i64_in _ (by omega))
  · intro u w2 hH hd K hK
    simp only [setU, upd, List.map_cons, List.map_nil, List.contains_cons, List.contains_nil, Nat.reduceBEq, Nat.reduceAdd, Bool.or_false, Bool.false_or, Bool.or_true, Bool.true_or, Bool.false_eq_true, if_false, if_true, ite_true, ite_false, Nat.reduceEqDiff, beq_self_eq_true] at hK ⊢
    go_wp2_with (fail)
    exact hK _ _ (by (repeat' (first | assumption | exact Below.refl _ _ | apply Blw.alloc | apply Blw.drew | apply Blw.drewN | (refine Blw.after ?_ (by assumption)) | (refine Blw.set ?_ (by first | (dsimp only; omega) | (simp; done) | (simp; omega)) _)))) (OwnP.new _ _ _)
  · intro u w2 hH hd K hK
    simp only [setU, upd, List.map_cons, List.map_nil, List.contains_cons, List.contains_nil, Nat.reduceBEq, Nat.reduceAdd, Bool.or_false, Bool.false_or, Bool.or_true, Bool.true_or, Bool.false_eq_true, if_false, if_true, ite_true, ite_false, Nat.reduceEqDiff, beq_self_eq_true] at hK ⊢
    go_wp2_with (fail)
    exact hK _ _ (by (repeat' (first | assumption | exact Below.refl _ _ | apply Blw.alloc | apply Blw.drew | apply Blw.drewN | (refine Blw.after ?_ (by assumption)) | (refine Blw.set ?_ (by first | (dsimp only; omega) | (simp; done) | (simp; omega)) _)))) (OwnP.new _ _ _)
  intro u w2 hH hF hne
  have hH1 := hH.1
  have hH2 := hH.2.2.2
  simp only [allFacts, SlotFact.h] at hF
  obtain ⟨f21, f22, f23, f24, f25, f20, f26, f27, f28, ⟨b8, f8, g8, l8, k8, z8⟩, ⟨b9, f9, g9, l9, k9, z9⟩, -⟩ := hF
  have n8_9 : b8 ≠ b9 := by have h := hne 8 9 (by kernel_rfl) (by kernel_rfl) (by decide); rw [f8, f9] at h; exact h
  simp only [setU, upd, List.map_cons, List.map_nil, List.contains_cons, List.contains_nil, Nat.reduceBEq, Nat.reduceAdd, Bool.or_false, Bool.false_or, Bool.or_true, Bool.true_or, Bool.false_eq_true, if_false, if_true, ite_true, ite_false, Nat.reduceEqDiff, beq_self_eq_true]
  rw [f21, f22, f23, f24, f25, f20, f26, f27, f28, f8, f9]
  clear f21 f22 f23 f24 f25 f20 f26 f27 f28 f8 f9 hne
  have c8_0 := k8 0 _ rfl
  have e8_0 := z8 0 (by simp)
  have c8_1 := k8 1 _ rfl
  have e8_1 := z8 1 (by simp)
  clear k8 z8
  have c9_0 := k9 0 _ rfl
  have e9_0 := z9 0 (by simp)
  have c9_1 := k9 1 _ rfl
  have e9_1 := z9 1 (by simp)
  clear k9 z9
  refine wpListS_true ?_
  go_wp2_with fail
  generalize hW : World.setCell _ _ _ = W2
  have kW2_479 : W2.cell? ⟨b5, 0, none⟩ = some (.int .i64 ((sel (divB x y x' y') (qx x y x' y')))) := by rw [← hW]; clear hW; first | (go_simp; done) | ((repeat refine keepcell ((Below.refl _ _).alloc (Nat.le_refl _) _) ?_); go_simp; done) | (simp only [frozen?_alloc_cells]; go_simp; done)
  have kW2_480 : W2.cell? ⟨b5, 1, none⟩ = some (.int .i64 ((sel (divB x y x' y') (qy x y x' y')))) := by rw [← hW]; clear hW; first | (go_simp; done) | ((repeat refine keepcell ((Below.refl _ _).alloc (Nat.le_refl _) _) ?_); go_simp; done) | (simp only [frozen?_alloc_cells]; go_simp; done)
  have : b5 < W2.heap.size := World.block_lt_of_cell? W2 ⟨b5, 0, none⟩ (by assumption)
  have kW2_481 : W2.cell? ⟨b6, 0, none⟩ = some (.int .i64 ((sel (divB x y x' y') (rx x y x' y')))) := by rw [← hW]; clear hW; first | (go_simp; done) | ((repeat refine keepcell ((Below.refl _ _).alloc (Nat.le_refl _) _) ?_); go_simp; done) | (simp only [frozen?_alloc_cells]; go_simp; done)
  have kW2_482 : W2.cell? ⟨b6, 1, none⟩ = some (.int .i64 ((sel (divB x y x' y') (ry x y x' y')))) := by rw [← hW]; clear hW; first | (go_simp; done) | ((repeat refine keepcell ((Below.refl _ _).alloc (Nat.le_refl _) _) ?_); go_simp; done) | (simp only [frozen?_alloc_cells]; go_simp; done)
  have : b6 < W2.heap.size := World.block_lt_of_cell? W2 ⟨b6, 0, none⟩ (by assumption)
  have kW2_483 : W2.cell? ⟨b8, 0, none⟩ = some (.int .i64 ((sel (divB x y x' y') (qx x y x' y')))) := by rw [← hW]; clear hW; first | (go_simp; done) | ((repeat refine keepcell ((Below.refl _ _).alloc (Nat.le_refl _) _) ?_); go_simp; done) | (simp only [frozen?_alloc_cells]; go_simp; done)
  have kW2_484 : W2.cell? ⟨b8, 1, none⟩ = some (.int .i64 ((sel (divB x y x' y') (qy x y x' y')))) := by rw [← hW]; clear hW; first | (go_simp; done) | ((repeat refine keepcell ((Below.refl _ _).alloc (Nat.le_refl _) _) ?_); go_simp; done) | (simp only [frozen?_alloc_cells]; go_simp; done)
  have : b8 < W2.heap.size := World.block_lt_of_cell? W2 ⟨b8, 0, none⟩ (by assumption)
  have kW2_485 : W2.cell? ⟨b9, 0, none⟩ = some (.int .i64 ((sel (divB x y x' y') (rx x y x' y')))) := by rw [← hW]; clear hW; first | (go_simp; done) | ((repeat refine keepcell ((Below.refl _ _).alloc (Nat.le_refl _) _) ?_); go_simp; done) | (simp only [frozen?_alloc_cells]; go_simp; done)
  have kW2_486 : W2.cell? ⟨b9, 1, none⟩ = some (.int .i64 ((sel (divB x y x' y') (ry x y x' y')))) := by rw [← hW]; clear hW; first | (go_simp; done) | ((repeat refine keepcell ((Below.refl _ _).alloc (Nat.le_refl _) _) ?_); go_simp; done) | (simp only [frozen?_alloc_cells]; go_simp; done)
  have : b9 < W2.heap.size := World.block_lt_of_cell? W2 ⟨b9, 0, none⟩ (by assumption)
  have hBW2 : Below w.heap.size w W2 := by rw [← hW]; (repeat' (first | assumption | exact Below.refl _ _ | apply Blw.alloc | apply Blw.drew | apply Blw.drewN | (refine Blw.after ?_ (by assumption)) | (refine Blw.set ?_ (by first | (dsimp only; omega) | (simp; done) | (simp; omega)) _)))
  have hsW2 := hBW2.size
  clear hW
  try clear kW1_471; try clear kW1_472; try clear kW1_473; try clear kW1_474; try clear kW1_475; try clear kW1_476; try clear kW1_477; try clear kW1_478; try clear hH; try clear hH1; try clear c8_0; try clear e8_0; try clear c8_1; try clear e8_1; try clear c9_0; try clear e9_0; try clear c9_1; try clear e9_1
  go_wp2_with (go_at_call 17; refine (eqGauss_c _ _ _ _ _).mono ?_; rintro e w1 ⟨rfl, hb⟩; have hk : Hld W2 w1 := heldM (by (repeat' (first | assumption | exact Below.refl _ _ | apply Blw.alloc | apply Blw.drew | apply Blw.drewN | (refine Blw.after ?_ (by assumption)) | (refine Blw.set ?_ (by first | (dsimp only; omega) | (simp; done) | (simp; omega)) _)))); have hk1 := hk.1)
  go_ret
  exact ⟨rfl, by (repeat' (first | assumption | exact Below.refl _ _ | apply Blw.alloc | apply Blw.drew | apply Blw.drewN | (refine Blw.after ?_ (by assumption)) | (refine Blw.set ?_ (by first | (dsimp only; omega) | (simp; done) | (simp; omega)) _)))⟩

namespace lawFnExactGaussDivide
set_option maxRecDepth 100000 in
theorem lifted (os : Os) (started : os.Started) (H : Type) (enc : TypeId × Value → H) :
    ReturnsInHanded {} Try.checked os 7 .any (Rows.fnExactGaussDivideSpec.pre6 enc Try.prog Try.f7 Rows.fnExactGaussDivideRow.domain false) (Rows.fnExactGaussDivideSpec.post enc Try.prog Try.f7 false true false false) := by
  refine returnsInHanded_of_change (C := Try.checked) own started (by kernel_rfl) Try.func7
    (ChangeSpec.witness6 (enc := enc) (C := Try.checked) false ⟨#[], #[.agg #[.int .i64 0, .int .i64 0], .agg #[.int .i64 0, .int .i64 0]], []⟩ 8 (by kernel_rfl) (by kernel_rfl) (by kernel_rfl) (by kernel_rfl)) ?_
  intro W base args ds gs before hval0 hW _ _
  have hval : ∀ (j : Nat) t v, Try.f7.params[j]? = some t → args[j]? = some v → Value.okWide Try.prog W .any base t v := hval0
  have hW' := hW
  obtain ⟨p, q, hA0, hV, rfl, _, _⟩ := hW
  have hA : DataW.TrodAll enc Try.prog W 0 (fun _ => true) true Try.f7.params.toList args.toList ds p := hA0
  rw [Try.params7] at hA hval
  obtain ⟨v0, vs0, d0, ds0, p0, q0, hargs, rfl, rfl, h0, r0⟩ := trodAll_cons hA
  obtain ⟨v1, vs1, d1, ds1, p1, q1, rfl, rfl, rfl, h1, r1⟩ := trodAll_cons r0
  obtain ⟨rfl, rfl, rfl⟩ := trodAll_nil r1
  obtain rfl : args = #[v0, v1] := by cases args; simp_all
  obtain ⟨rfl, rfl⟩ := trodVars_none hV
  obtain ⟨c0, c'0, y0, y'0, m0, rfl, rfl, rfl, hy0, hy'0⟩ := open_agg2 Try.underlying23 (by kernel_rfl) cellsG (hval 0 23 v0 rfl rfl) h0
  obtain ⟨a0, e0, rfl, w0⟩ := DataW.trod_int Try.underlying3 hy0
  obtain ⟨b0, e'0, rfl, w'0⟩ := DataW.trod_int Try.underlying3 hy'0
  simp at e0 e'0
  subst e0 e'0
  have s0 : ∀ (W' : World) (sp : Nat → Bool), DataW.Trod enc Try.prog W' 0 sp true 23 (.agg #[.int .i64 a0, .int .i64 b0]) (.agg [.lit (.int .i64 a0), .lit (.int .i64 b0)]) [] := fun W' sp =>
    shut_agg2 (y0 := (.lit (.int .i64 a0), [])) (y1 := (.lit (.int .i64 b0), [])) Try.underlying23 (by kernel_rfl) cellsG ⟨1, by simp [DataW.trod, Try.underlying3, w0]⟩ ⟨1, by simp [DataW.trod, Try.underlying3, w'0]⟩
  obtain ⟨c1, c'1, y1, y'1, m1, rfl, rfl, rfl, hy1, hy'1⟩ := open_agg2 Try.underlying23 (by kernel_rfl) cellsG (hval 1 23 v1 rfl rfl) h1
  obtain ⟨a1, e1, rfl, w1⟩ := DataW.trod_int Try.underlying3 hy1
  obtain ⟨b1, e'1, rfl, w'1⟩ := DataW.trod_int Try.underlying3 hy'1
  simp at e1 e'1
  subst e1 e'1
  have s1 : ∀ (W' : World) (sp : Nat → Bool), DataW.Trod enc Try.prog W' 0 sp true 23 (.agg #[.int .i64 a1, .int .i64 b1]) (.agg [.lit (.int .i64 a1), .lit (.int .i64 b1)]) [] := fun W' sp =>
    shut_agg2 (y0 := (.lit (.int .i64 a1), [])) (y1 := (.lit (.int .i64 b1), [])) Try.underlying23 (by kernel_rfl) cellsG ⟨1, by simp [DataW.trod, Try.underlying3, w1]⟩ ⟨1, by simp [DataW.trod, Try.underlying3, w'1]⟩
  clear hA0 hval0
  simp only [List.append_nil] at hW'
  refine (lawGaussDivide_c a0 b0 a1 b1 W).mono fun e W' ⟨he, hg⟩ => ?_
  subst he
  refine ⟨_, rfl, _, _, _, [], [], [], hW', ?_, ?_, ?_, hg.frame _, fun h => by cases h⟩
  · exact trodAll_cons_mk (shut_bool Try.underlying4 _) trodAll_mk0
  · exact (trodAll_cons_mk (s0 _ _) (trodAll_cons_mk (s1 _ _) trodAll_mk0))
  · rfl

theorem proved : Rows.FnExactGaussDivideSaid :=
  OpenClaim.holds_of_wide 7 Try.f7 rfl rfl rfl rfl rfl rfl rfl ⟨rfl, rfl, rfl, rfl, rfl⟩ rfl rfl rfl rfl rfl (by kernel_rfl) Try.func7 (by kernel_rfl)
    (of_decide_eq_true (by kernel_rfl)) (by unfold Func.isWrapper; first | (rw [if_pos (by decide +kernel)]; kernel_rfl) | (rw [if_neg (by decide +kernel)]; exact ⟨rfl, rfl⟩))
    (fun os started H enc _ => lifted os started H enc)
end lawFnExactGaussDivide
end Go.Proofs.Ytglieacjpdpmnaa

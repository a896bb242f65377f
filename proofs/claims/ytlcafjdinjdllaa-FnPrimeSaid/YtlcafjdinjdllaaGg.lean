/- Chapter 1: GaussDivide, the program's. -/
import Derived.Test.YtlcafjdinjdllaaGf
namespace Go.Proofs.Ytlcafjdinjdllaa
set_option linter.unusedSimpArgs false
set_option linter.unusedVariables false
open Go.RowKit

set_option maxHeartbeats 2000000 in
theorem iGaussDivide_c (x y x' y' : Int) (w : World) : Calls Try.prog 10 #[pr x y, pr x' y'] w fun e w' => e = .returned (res3 (divB x y x' y') (qx x y x' y') (qy x y x' y') (rx x y x' y') (ry x y x' y')) ∧ Below w.heap.size w w' := by
  go_enter Try.func10, Try.ntmps10
  go_wp2_with fail
  generalize hW : World.alloc _ _ = W0
  have kW0_71 : W0.cell? ⟨w.heap.size, 0, none⟩ = some (.int .i64 (x)) := by rw [← hW]; clear hW; first | (go_simp; done) | ((repeat refine keepcell ((Below.refl _ _).alloc (Nat.le_refl _) _) ?_); go_simp; done) | (simp only [frozen?_alloc_cells]; go_simp; done)
  have kW0_72 : W0.cell? ⟨w.heap.size, 1, none⟩ = some (.int .i64 (y)) := by rw [← hW]; clear hW; first | (go_simp; done) | ((repeat refine keepcell ((Below.refl _ _).alloc (Nat.le_refl _) _) ?_); go_simp; done) | (simp only [frozen?_alloc_cells]; go_simp; done)
  have : w.heap.size < W0.heap.size := World.block_lt_of_cell? W0 ⟨w.heap.size, 0, none⟩ (by assumption)
  have kW0_73 : W0.cell? ⟨w.heap.size + 1, 0, none⟩ = some (.int .i64 (x')) := by rw [← hW]; clear hW; first | (go_simp; done) | ((repeat refine keepcell ((Below.refl _ _).alloc (Nat.le_refl _) _) ?_); go_simp; done) | (simp only [frozen?_alloc_cells]; go_simp; done)
  have kW0_74 : W0.cell? ⟨w.heap.size + 1, 1, none⟩ = some (.int .i64 (y')) := by rw [← hW]; clear hW; first | (go_simp; done) | ((repeat refine keepcell ((Below.refl _ _).alloc (Nat.le_refl _) _) ?_); go_simp; done) | (simp only [frozen?_alloc_cells]; go_simp; done)
  have : w.heap.size + 1 < W0.heap.size := World.block_lt_of_cell? W0 ⟨w.heap.size + 1, 0, none⟩ (by assumption)
  have kW0_75 : W0.cell? ⟨w.heap.size + 2, 0, none⟩ = some (.int .i64 (0)) := by rw [← hW]; clear hW; first | (go_simp; done) | ((repeat refine keepcell ((Below.refl _ _).alloc (Nat.le_refl _) _) ?_); go_simp; done) | (simp only [frozen?_alloc_cells]; go_simp; done)
  have zW0_75 : W0.frozen? ⟨w.heap.size + 2, 0, none⟩ = false := by rw [← hW]; clear hW; first | (go_simp; done) | ((repeat refine keepcell ((Below.refl _ _).alloc (Nat.le_refl _) _) ?_); go_simp; done) | (simp only [frozen?_alloc_cells]; go_simp; done)
  have kW0_76 : W0.cell? ⟨w.heap.size + 2, 1, none⟩ = some (.int .i64 (0)) := by rw [← hW]; clear hW; first | (go_simp; done) | ((repeat refine keepcell ((Below.refl _ _).alloc (Nat.le_refl _) _) ?_); go_simp; done) | (simp only [frozen?_alloc_cells]; go_simp; done)
  have zW0_76 : W0.frozen? ⟨w.heap.size + 2, 1, none⟩ = false := by rw [← hW]; clear hW; first | (go_simp; done) | ((repeat refine keepcell ((Below.refl _ _).alloc (Nat.le_refl _) _) ?_); go_simp; done) | (simp only [frozen?_alloc_cells]; go_simp; done)
  have : w.heap.size + 2 < W0.heap.size := World.block_lt_of_cell? W0 ⟨w.heap.size + 2, 0, none⟩ (by assumption)
  have kW0_77 : W0.cell? ⟨w.heap.size + 3, 0, none⟩ = some (.int .i64 (0)) := by rw [← hW]; clear hW; first | (go_simp; done) | ((repeat refine keepcell ((Below.refl _ _).alloc (Nat.le_refl _) _) ?_); go_simp; done) | (simp only [frozen?_alloc_cells]; go_simp; done)
  have zW0_77 : W0.frozen? ⟨w.heap.size + 3, 0, none⟩ = false := by rw [← hW]; clear hW; first | (go_simp; done) | ((repeat refine keepcell ((Below.refl _ _).alloc (Nat.le_refl _) _) ?_); go_simp; done) | (simp only [frozen?_alloc_cells]; go_simp; done)
  have kW0_78 : W0.cell? ⟨w.heap.size + 3, 1, none⟩ = some (.int .i64 (0)) := by rw [← hW]; clear hW; first | (go_simp; done) | ((repeat refine keepcell ((Below.refl _ _).alloc (Nat.le_refl _) _) ?_); go_simp; done) | (simp only [frozen?_alloc_cells]; go_simp; done)
  have zW0_78 : W0.frozen? ⟨w.heap.size + 3, 1, none⟩ = false := by rw [← hW]; clear hW; first | (go_simp; done) | ((repeat refine keepcell ((Below.refl _ _).alloc (Nat.le_refl _) _) ?_); go_simp; done) | (simp only [frozen?_alloc_cells]; go_simp; done)
  have : w.heap.size + 3 < W0.heap.size := World.block_lt_of_cell? W0 ⟨w.heap.size + 3, 0, none⟩ (by assumption)
  have hBW0 : Below w.heap.size w W0 := by rw [← hW]; (repeat' (first | assumption | exact Below.refl _ _ | apply Blw.alloc | apply Blw.drew | apply Blw.drewN | (refine Blw.after ?_ (by assumption)) | (refine Blw.set ?_ (by first | (dsimp only; omega) | (simp; done) | (simp; omega)) _)))
  have hsW0 := hBW0.size
  clear hW
  refine region_slots (fun _ => True) [] [(13, .is (pr x y)), (14, .is (pr x y)), (15, .is (pr x' y')), (16, .is (pr x' y')), (7, .own [.int .i64 0, .int .i64 0]), (8, .own [.int .i64 0, .int .i64 0])] (by kernel_rfl) (by kernel_rfl) (by kernel_rfl) (fun _ _ => trivial) (fun _ _ _ _ _ _ h => h) ?_
  simp only [Steps, List.contains_cons, List.contains_nil, Nat.reduceBEq, Nat.reduceAdd, Bool.or_false, Bool.false_or, Bool.or_true, Bool.true_or, Bool.false_eq_true, if_false, if_true]
  refine ⟨?_, ?_, ?_, ?_, ?_, ?_, ?_⟩
  · intro u w2 hH hd K hK
    simp only [setU, upd, List.map_cons, List.map_nil, List.contains_cons, List.contains_nil, Nat.reduceBEq, Nat.reduceAdd, Bool.or_false, Bool.false_or, Bool.or_true, Bool.true_or, Bool.false_eq_true, if_false, if_true, ite_true, ite_false, Nat.reduceEqDiff, beq_self_eq_true] at hK ⊢
    go_wp2_with (fail)
    exact hK _ _ (by (repeat' (first | assumption | exact Below.refl _ _ | apply Blw.alloc | apply Blw.drew | apply Blw.drewN | (refine Blw.after ?_ (by assumption)) | (refine Blw.set ?_ (by first | (dsimp only; omega) | (simp; done) | (simp; omega)) _)))) rfl
  · intro u w2 hH hd K hK
    have f13 : u 13 = (pr x y) := hd 13 (by kernel_rfl)
    simp only [setU, upd, List.map_cons, List.map_nil, List.contains_cons, List.contains_nil, Nat.reduceBEq, Nat.reduceAdd, Bool.or_false, Bool.false_or, Bool.or_true, Bool.true_or, Bool.false_eq_true, if_false, if_true, ite_true, ite_false, Nat.reduceEqDiff, beq_self_eq_true] at hK ⊢
    rw [f13] at hK ⊢
    clear f13
    go_wp2_with ((go_at_call 27; refine (gPair_c _ _ _).mono ?_; rintro e w1 ⟨rfl, hb⟩; obtain ⟨hc, hf⟩ := bcell hb; have hz := bsize hb; have hs := hb.size; try simp at hs))
    exact hK _ _ (by (repeat' (first | assumption | exact Below.refl _ _ | apply Blw.alloc | apply Blw.drew | apply Blw.drewN | (refine Blw.after ?_ (by assumption)) | (refine Blw.set ?_ (by first | (dsimp only; omega) | (simp; done) | (simp; omega)) _)))) rfl
  · intro u w2 hH hd K hK
    simp only [setU, upd, List.map_cons, List.map_nil, List.contains_cons, List.contains_nil, Nat.reduceBEq, Nat.reduceAdd, Bool.or_false, Bool.false_or, Bool.or_true, Bool.true_or, Bool.false_eq_true, if_false, if_true, ite_true, ite_false, Nat.reduceEqDiff, beq_self_eq_true] at hK ⊢
    go_wp2_with (fail)
    exact hK _ _ (by (repeat' (first | assumption | exact Below.refl _ _ | apply Blw.alloc | apply Blw.drew | apply Blw.drewN | (refine Blw.after ?_ (by assumption)) | (refine Blw.set ?_ (by first | (dsimp only; omega) | (simp; done) | (simp; omega)) _)))) rfl
  · intro u w2 hH hd K hK
    have f15 : u 15 = (pr x' y') := hd 15 (by kernel_rfl)
    simp only [setU, upd, List.map_cons, List.map_nil, List.contains_cons, List.contains_nil, Nat.reduceBEq, Nat.reduceAdd, Bool.or_false, Bool.false_or, Bool.or_true, Bool.true_or, Bool.false_eq_true, if_false, if_true, ite_true, ite_false, Nat.reduceEqDiff, beq_self_eq_true] at hK ⊢
    rw [f15] at hK ⊢
    clear f15
    go_wp2_with ((go_at_call 27; refine (gPair_c _ _ _).mono ?_; rintro e w1 ⟨rfl, hb⟩; obtain ⟨hc, hf⟩ := bcell hb; have hz := bsize hb; have hs := hb.size; try simp at hs))
    exact hK _ _ (by (repeat' (first | assumption | exact Below.refl _ _ | apply Blw.alloc | apply Blw.drew | apply Blw.drewN | (refine Blw.after ?_ (by assumption)) | (refine Blw.set ?_ (by first | (dsimp only; omega) | (simp; done) | (simp; omega)) _)))) rfl
  · intro u w2 hH hd K hK
    simp only [setU, upd, List.map_cons, List.map_nil, List.contains_cons, List.contains_nil, Nat.reduceBEq, Nat.reduceAdd, Bool.or_false, Bool.false_or, Bool.or_true, Bool.true_or, Bool.false_eq_true, if_false, if_true, ite_true, ite_false, Nat.reduceEqDiff, beq_self_eq_true] at hK ⊢
    go_wp2_with (fail)
    exact hK _ _ (by (repeat' (first | assumption | exact Below.refl _ _ | apply Blw.alloc | apply Blw.drew | apply Blw.drewN | (refine Blw.after ?_ (by assumption)) | (refine Blw.set ?_ (by first | (dsimp only; omega) | (simp; done) | (simp; omega)) _)))) (OwnP.new _ _ _)
  · intro u w2 hH hd K hK
    simp only [setU, upd, List.map_cons, List.map_nil, List.contains_cons, List.contains_nil, Nat.reduceBEq, Nat.reduceAdd, Bool.or_false, Bool.false_or, Bool.or_true, Bool.true_or, Bool.false_eq_true, if_false, if_true, ite_true, ite_false, Nat.reduceEqDiff, beq_self_eq_true] at hK ⊢
    go_wp2_with (fail)
    exact hK _ _ (by (repeat' (first | assumption | exact Below.refl _ _ | apply Blw.alloc | apply Blw.drew | apply Blw.drewN | (refine Blw.after ?_ (by assumption)) | (refine Blw.set ?_ (by first | (dsimp only; omega) | (simp; done) | (simp; omega)) _)))) (OwnP.new _ _ _)
  intro u w2 hH hF hne
  have hH1 := hH.1
  have hH2 := hH.2.2.2
  simp only [allFacts, SlotFact.h] at hF
  obtain ⟨f13, f14, f15, f16, ⟨b7, f7, g7, l7, k7, z7⟩, ⟨b8, f8, g8, l8, k8, z8⟩, -⟩ := hF
  have n7_8 : b7 ≠ b8 := by have h := hne 7 8 (by kernel_rfl) (by kernel_rfl) (by decide); rw [f7, f8] at h; exact h
  simp only [setU, upd, List.map_cons, List.map_nil, List.contains_cons, List.contains_nil, Nat.reduceBEq, Nat.reduceAdd, Bool.or_false, Bool.false_or, Bool.or_true, Bool.true_or, Bool.false_eq_true, if_false, if_true, ite_true, ite_false, Nat.reduceEqDiff, beq_self_eq_true]
  rw [f13, f14, f15, f16, f7, f8]
  clear f13 f14 f15 f16 f7 f8 hne
  have c7_0 := k7 0 _ rfl
  have e7_0 := z7 0 (by simp)
  have c7_1 := k7 1 _ rfl
  have e7_1 := z7 1 (by simp)
  clear k7 z7
  have c8_0 := k8 0 _ rfl
  have e8_0 := z8 0 (by simp)
  have c8_1 := k8 1 _ rfl
  have e8_1 := z8 1 (by simp)
  clear k8 z8
  refine wpListS_true ?_
  go_wp2_with fail
  generalize hW : World.setCell _ _ _ = W1
  have kW1_79 : W1.cell? ⟨b7, 0, none⟩ = some (.int .i64 (x)) := by rw [← hW]; clear hW; first | (go_simp; done) | ((repeat refine keepcell ((Below.refl _ _).alloc (Nat.le_refl _) _) ?_); go_simp; done) | (simp only [frozen?_alloc_cells]; go_simp; done)
  have kW1_80 : W1.cell? ⟨b7, 1, none⟩ = some (.int .i64 (y)) := by rw [← hW]; clear hW; first | (go_simp; done) | ((repeat refine keepcell ((Below.refl _ _).alloc (Nat.le_refl _) _) ?_); go_simp; done) | (simp only [frozen?_alloc_cells]; go_simp; done)
  have : b7 < W1.heap.size := World.block_lt_of_cell? W1 ⟨b7, 0, none⟩ (by assumption)
  have kW1_81 : W1.cell? ⟨b8, 0, none⟩ = some (.int .i64 (x')) := by rw [← hW]; clear hW; first | (go_simp; done) | ((repeat refine keepcell ((Below.refl _ _).alloc (Nat.le_refl _) _) ?_); go_simp; done) | (simp only [frozen?_alloc_cells]; go_simp; done)
  have kW1_82 : W1.cell? ⟨b8, 1, none⟩ = some (.int .i64 (y')) := by rw [← hW]; clear hW; first | (go_simp; done) | ((repeat refine keepcell ((Below.refl _ _).alloc (Nat.le_refl _) _) ?_); go_simp; done) | (simp only [frozen?_alloc_cells]; go_simp; done)
  have : b8 < W1.heap.size := World.block_lt_of_cell? W1 ⟨b8, 0, none⟩ (by assumption)
  have kW1_83 : W1.cell? ⟨w.heap.size + 2, 0, none⟩ = some (.int .i64 (0)) := by rw [← hW]; clear hW; first | (go_simp; done) | ((repeat refine keepcell ((Below.refl _ _).alloc (Nat.le_refl _) _) ?_); go_simp; done) | (simp only [frozen?_alloc_cells]; go_simp; done)
  have zW1_83 : W1.frozen? ⟨w.heap.size + 2, 0, none⟩ = false := by rw [← hW]; clear hW; first | (go_simp; done) | ((repeat refine keepcell ((Below.refl _ _).alloc (Nat.le_refl _) _) ?_); go_simp; done) | (simp only [frozen?_alloc_cells]; go_simp; done)
  have kW1_84 : W1.cell? ⟨w.heap.size + 2, 1, none⟩ = some (.int .i64 (0)) := by rw [← hW]; clear hW; first | (go_simp; done) | ((repeat refine keepcell ((Below.refl _ _).alloc (Nat.le_refl _) _) ?_); go_simp; done) | (simp only [frozen?_alloc_cells]; go_simp; done)
  have zW1_84 : W1.frozen? ⟨w.heap.size + 2, 1, none⟩ = false := by rw [← hW]; clear hW; first | (go_simp; done) | ((repeat refine keepcell ((Below.refl _ _).alloc (Nat.le_refl _) _) ?_); go_simp; done) | (simp only [frozen?_alloc_cells]; go_simp; done)
  have : w.heap.size + 2 < W1.heap.size := World.block_lt_of_cell? W1 ⟨w.heap.size + 2, 0, none⟩ (by assumption)
  have kW1_85 : W1.cell? ⟨w.heap.size + 3, 0, none⟩ = some (.int .i64 (0)) := by rw [← hW]; clear hW; first | (go_simp; done) | ((repeat refine keepcell ((Below.refl _ _).alloc (Nat.le_refl _) _) ?_); go_simp; done) | (simp only [frozen?_alloc_cells]; go_simp; done)
  have zW1_85 : W1.frozen? ⟨w.heap.size + 3, 0, none⟩ = false := by rw [← hW]; clear hW; first | (go_simp; done) | ((repeat refine keepcell ((Below.refl _ _).alloc (Nat.le_refl _) _) ?_); go_simp; done) | (simp only [frozen?_alloc_cells]; go_simp; done)
  have kW1_86 : W1.cell? ⟨w.heap.size + 3, 1, none⟩ = some (.int .i64 (0)) := by rw [← hW]; clear hW; first | (go_simp; done) | ((repeat refine keepcell ((Below.refl _ _).alloc (Nat.le_refl _) _) ?_); go_simp; done) | (simp only [frozen?_alloc_cells]; go_simp; done)
  have zW1_86 : W1.frozen? ⟨w.heap.size + 3, 1, none⟩ = false := by rw [← hW]; clear hW; first | (go_simp; done) | ((repeat refine keepcell ((Below.refl _ _).alloc (Nat.le_refl _) _) ?_); go_simp; done) | (simp only [frozen?_alloc_cells]; go_simp; done)
  have : w.heap.size + 3 < W1.heap.size := World.block_lt_of_cell? W1 ⟨w.heap.size + 3, 0, none⟩ (by assumption)
  have hBW1 : Below w.heap.size w W1 := by rw [← hW]; (repeat' (first | assumption | exact Below.refl _ _ | apply Blw.alloc | apply Blw.drew | apply Blw.drewN | (refine Blw.after ?_ (by assumption)) | (refine Blw.set ?_ (by first | (dsimp only; omega) | (simp; done) | (simp; omega)) _)))
  have hsW1 := hBW1.size
  clear hW
  try clear kW0_71; try clear kW0_72; try clear kW0_73; try clear kW0_74; try clear kW0_75; try clear zW0_75; try clear kW0_76; try clear zW0_76; try clear kW0_77; try clear zW0_77; try clear kW0_78; try clear zW0_78; try clear hH; try clear hH1; try clear c7_0; try clear e7_0; try clear c7_1; try clear e7_1; try clear c8_0; try clear e8_0; try clear c8_1; try clear e8_1
  rcases Bool.eq_false_or_eq_true (inB 1000000 x y) with h1 | h1
  · rcases Bool.eq_false_or_eq_true (inB 1000000 x' y') with h2 | h2
    · have H1 := inB_le h1
      have H2 := inB_le h2
      by_cases hx : x' = 0
      · subst hx
        by_cases hy : y' = 0
        · subst hy
          go_wp2_with (go_at_call 28; refine (small_c _ _ _).mono ?_; rintro e w1 ⟨rfl, hb⟩; have hk : Hld W1 w1 := heldM (by (repeat' (first | assumption | exact Below.refl _ _ | apply Blw.alloc | apply Blw.drew | apply Blw.drewN | (refine Blw.after ?_ (by assumption)) | (refine Blw.set ?_ (by first | (dsimp only; omega) | (simp; done) | (simp; omega)) _)))); have hk1 := hk.1)
          exact bodyPost_ret (v := res3 (divB x y 0 0) (qx x y 0 0) (qy x y 0 0) (rx x y 0 0) (ry x y 0 0)) (by simp [results, Try.results10, go_sem, divB, sel_t, sel_f, *]) rfl ⟨rfl, by (repeat' (first | assumption | exact Below.refl _ _ | apply Blw.alloc | apply Blw.drew | apply Blw.drewN | (refine Blw.after ?_ (by assumption)) | (refine Blw.set ?_ (by first | (dsimp only; omega) | (simp; done) | (simp; omega)) _)))⟩
        · skip
          have H3 := nrm_pos (x := 0) (y := y') (by omega)
          have H4 := inB_of (q_in H1 H3)
          go_wp2_with ((go_at_call 28; refine (small_c _ _ _).mono ?_; rintro e w1 ⟨rfl, hb⟩; have hk : Hld W1 w1 := heldM (by (repeat' (first | assumption | exact Below.refl _ _ | apply Blw.alloc | apply Blw.drew | apply Blw.drewN | (refine Blw.after ?_ (by assumption)) | (refine Blw.set ?_ (by first | (dsimp only; omega) | (simp; done) | (simp; omega)) _)))); have hk1 := hk.1))
          refine (divide_c _ _ _ _ _ H1 H2 H3).mono ?_
          rintro e wA ⟨rfl, hbwA⟩
          have hkwA : Hld W1 wA := heldM (by (repeat' (first | assumption | exact Below.refl _ _ | apply Blw.alloc | apply Blw.drew | apply Blw.drewN | (refine Blw.after ?_ (by assumption)) | (refine Blw.set ?_ (by first | (dsimp only; omega) | (simp; done) | (simp; omega)) _))))
          have hlwA := hkwA.1
          have hswA := hkwA.2.2.2
          try (have : b7 < wA.heap.size := by omega)
          try (have : b8 < wA.heap.size := by omega)
          try (have : w.heap.size + 2 < wA.heap.size := by omega)
          try (have : w.heap.size + 3 < wA.heap.size := by omega)
          go_wp2_with fail
          generalize hW : World.alloc _ _ = W2
          have kW2_87 : W2.cell? ⟨w.heap.size + 2, 0, none⟩ = some (.int .i64 (0)) := by rw [← hW]; clear hW; first | (go_simp; done) | ((repeat refine keepcell ((Below.refl _ _).alloc (Nat.le_refl _) _) ?_); go_simp; done) | (simp only [frozen?_alloc_cells]; go_simp; done)
          have zW2_87 : W2.frozen? ⟨w.heap.size + 2, 0, none⟩ = false := by rw [← hW]; clear hW; first | (go_simp; done) | ((repeat refine keepcell ((Below.refl _ _).alloc (Nat.le_refl _) _) ?_); go_simp; done) | (simp only [frozen?_alloc_cells]; go_simp; done)
          have kW2_88 : W2.cell? ⟨w.heap.size + 2, 1, none⟩ = some (.int .i64 (0)) := by rw [← hW]; clear hW; first | (go_simp; done) | ((repeat refine keepcell ((Below.refl _ _).alloc (Nat.le_refl _) _) ?_); go_simp; done) | (simp only [frozen?_alloc_cells]; go_simp; done)
          have zW2_88 : W2.frozen? ⟨w.heap.size + 2, 1, none⟩ = false := by rw [← hW]; clear hW; first | (go_simp; done) | ((repeat refine keepcell ((Below.refl _ _).alloc (Nat.le_refl _) _) ?_); go_simp; done) | (simp only [frozen?_alloc_cells]; go_simp; done)
          have : w.heap.size + 2 < W2.heap.size := World.block_lt_of_cell? W2 ⟨w.heap.size + 2, 0, none⟩ (by assumption)
          have kW2_89 : W2.cell? ⟨w.heap.size + 3, 0, none⟩ = some (.int .i64 (0)) := by rw [← hW]; clear hW; first | (go_simp; done) | ((repeat refine keepcell ((Below.refl _ _).alloc (Nat.le_refl _) _) ?_); go_simp; done) | (simp only [frozen?_alloc_cells]; go_simp; done)
          have zW2_89 : W2.frozen? ⟨w.heap.size + 3, 0, none⟩ = false := by rw [← hW]; clear hW; first | (go_simp; done) | ((repeat refine keepcell ((Below.refl _ _).alloc (Nat.le_refl _) _) ?_); go_simp; done) | (simp only [frozen?_alloc_cells]; go_simp; done)
          have kW2_90 : W2.cell? ⟨w.heap.size + 3, 1, none⟩ = some (.int .i64 (0)) := by rw [← hW]; clear hW; first | (go_simp; done) | ((repeat refine keepcell ((Below.refl _ _).alloc (Nat.le_refl _) _) ?_); go_simp; done) | (simp only [frozen?_alloc_cells]; go_simp; done)
          have zW2_90 : W2.frozen? ⟨w.heap.size + 3, 1, none⟩ = false := by rw [← hW]; clear hW; first | (go_simp; done) | ((repeat refine keepcell ((Below.refl _ _).alloc (Nat.le_refl _) _) ?_); go_simp; done) | (simp only [frozen?_alloc_cells]; go_simp; done)
          have : w.heap.size + 3 < W2.heap.size := World.block_lt_of_cell? W2 ⟨w.heap.size + 3, 0, none⟩ (by assumption)
          have kW2_91 : W2.cell? ⟨wA.heap.size, 0, none⟩ = some (.int .i64 ((qx x y 0 y'))) := by rw [← hW]; clear hW; first | (go_simp; done) | ((repeat refine keepcell ((Below.refl _ _).alloc (Nat.le_refl _) _) ?_); go_simp; done) | (simp only [frozen?_alloc_cells]; go_simp; done)
          have kW2_92 : W2.cell? ⟨wA.heap.size, 1, none⟩ = some (.int .i64 ((qy x y 0 y'))) := by rw [← hW]; clear hW; first | (go_simp; done) | ((repeat refine keepcell ((Below.refl _ _).alloc (Nat.le_refl _) _) ?_); go_simp; done) | (simp only [frozen?_alloc_cells]; go_simp; done)
          have : wA.heap.size < W2.heap.size := World.block_lt_of_cell? W2 ⟨wA.heap.size, 0, none⟩ (by assumption)
          have kW2_93 : W2.cell? ⟨wA.heap.size + 1, 0, none⟩ = some (.int .i64 ((rx x y 0 y'))) := by rw [← hW]; clear hW; first | (go_simp; done) | ((repeat refine keepcell ((Below.refl _ _).alloc (Nat.le_refl _) _) ?_); go_simp; done) | (simp only [frozen?_alloc_cells]; go_simp; done)
          have kW2_94 : W2.cell? ⟨wA.heap.size + 1, 1, none⟩ = some (.int .i64 ((ry x y 0 y'))) := by rw [← hW]; clear hW; first | (go_simp; done) | ((repeat refine keepcell ((Below.refl _ _).alloc (Nat.le_refl _) _) ?_); go_simp; done) | (simp only [frozen?_alloc_cells]; go_simp; done)
          have : wA.heap.size + 1 < W2.heap.size := World.block_lt_of_cell? W2 ⟨wA.heap.size + 1, 0, none⟩ (by assumption)
          have hBW2 : Below w.heap.size w W2 := by rw [← hW]; (repeat' (first | assumption | exact Below.refl _ _ | apply Blw.alloc | apply Blw.drew | apply Blw.drewN | (refine Blw.after ?_ (by assumption)) | (refine Blw.set ?_ (by first | (dsimp only; omega) | (simp; done) | (simp; omega)) _)))
          have hsW2 := hBW2.size
          clear hW
          try clear kW1_79; try clear kW1_80; try clear kW1_81; try clear kW1_82; try clear kW1_83; try clear zW1_83; try clear kW1_84; try clear zW1_84; try clear kW1_85; try clear zW1_85; try clear kW1_86; try clear zW1_86; try clear hbwA; try clear hkwA; try clear hlwA
          go_wp2_with (fail)
          refine (ifSmall_c _ _ _).mono ?_
          rintro e wB ⟨rfl, hbwB⟩
          have hkwB : Hld W2 wB := heldM (by (repeat' (first | assumption | exact Below.refl _ _ | apply Blw.alloc | apply Blw.drew | apply Blw.drewN | (refine Blw.after ?_ (by assumption)) | (refine Blw.set ?_ (by first | (dsimp only; omega) | (simp; done) | (simp; omega)) _))))
          have hlwB := hkwB.1
          have hswB := hkwB.2.2.2
          try (have : w.heap.size + 2 < wB.heap.size := by omega)
          try (have : w.heap.size + 3 < wB.heap.size := by omega)
          try (have : wA.heap.size < wB.heap.size := by omega)
          try (have : wA.heap.size + 1 < wB.heap.size := by omega)
          simp only [H4, res2, sel_t]
          go_wp2_with fail
          generalize hW : World.alloc _ _ = W3
          have kW3_95 : W3.cell? ⟨w.heap.size + 2, 0, none⟩ = some (.int .i64 (0)) := by rw [← hW]; clear hW; first | (go_simp; done) | ((repeat refine keepcell ((Below.refl _ _).alloc (Nat.le_refl _) _) ?_); go_simp; done) | (simp only [frozen?_alloc_cells]; go_simp; done)
          have zW3_95 : W3.frozen? ⟨w.heap.size + 2, 0, none⟩ = false := by rw [← hW]; clear hW; first | (go_simp; done) | ((repeat refine keepcell ((Below.refl _ _).alloc (Nat.le_refl _) _) ?_); go_simp; done) | (simp only [frozen?_alloc_cells]; go_simp; done)
          have kW3_96 : W3.cell? ⟨w.heap.size + 2, 1, none⟩ = some (.int .i64 (0)) := by rw [← hW]; clear hW; first | (go_simp; done) | ((repeat refine keepcell ((Below.refl _ _).alloc (Nat.le_refl _) _) ?_); go_simp; done) | (simp only [frozen?_alloc_cells]; go_simp; done)
          have zW3_96 : W3.frozen? ⟨w.heap.size + 2, 1, none⟩ = false := by rw [← hW]; clear hW; first | (go_simp; done) | ((repeat refine keepcell ((Below.refl _ _).alloc (Nat.le_refl _) _) ?_); go_simp; done) | (simp only [frozen?_alloc_cells]; go_simp; done)
          have : w.heap.size + 2 < W3.heap.size := World.block_lt_of_cell? W3 ⟨w.heap.size + 2, 0, none⟩ (by assumption)
          have kW3_97 : W3.cell? ⟨w.heap.size + 3, 0, none⟩ = some (.int .i64 (0)) := by rw [← hW]; clear hW; first | (go_simp; done) | ((repeat refine keepcell ((Below.refl _ _).alloc (Nat.le_refl _) _) ?_); go_simp; done) | (simp only [frozen?_alloc_cells]; go_simp; done)
          have zW3_97 : W3.frozen? ⟨w.heap.size + 3, 0, none⟩ = false := by rw [← hW]; clear hW; first | (go_simp; done) | ((repeat refine keepcell ((Below.refl _ _).alloc (Nat.le_refl _) _) ?_); go_simp; done) | (simp only [frozen?_alloc_cells]; go_simp; done)
          have kW3_98 : W3.cell? ⟨w.heap.size + 3, 1, none⟩ = some (.int .i64 (0)) := by rw [← hW]; clear hW; first | (go_simp; done) | ((repeat refine keepcell ((Below.refl _ _).alloc (Nat.le_refl _) _) ?_); go_simp; done) | (simp only [frozen?_alloc_cells]; go_simp; done)
          have zW3_98 : W3.frozen? ⟨w.heap.size + 3, 1, none⟩ = false := by rw [← hW]; clear hW; first | (go_simp; done) | ((repeat refine keepcell ((Below.refl _ _).alloc (Nat.le_refl _) _) ?_); go_simp; done) | (simp only [frozen?_alloc_cells]; go_simp; done)
          have : w.heap.size + 3 < W3.heap.size := World.block_lt_of_cell? W3 ⟨w.heap.size + 3, 0, none⟩ (by assumption)
          have kW3_99 : W3.cell? ⟨wA.heap.size + 1, 0, none⟩ = some (.int .i64 ((rx x y 0 y'))) := by rw [← hW]; clear hW; first | (go_simp; done) | ((repeat refine keepcell ((Below.refl _ _).alloc (Nat.le_refl _) _) ?_); go_simp; done) | (simp only [frozen?_alloc_cells]; go_simp; done)
          have kW3_100 : W3.cell? ⟨wA.heap.size + 1, 1, none⟩ = some (.int .i64 ((ry x y 0 y'))) := by rw [← hW]; clear hW; first | (go_simp; done) | ((repeat refine keepcell ((Below.refl _ _).alloc (Nat.le_refl _) _) ?_); go_simp; done) | (simp only [frozen?_alloc_cells]; go_simp; done)
          have : wA.heap.size + 1 < W3.heap.size := World.block_lt_of_cell? W3 ⟨wA.heap.size + 1, 0, none⟩ (by assumption)
          have kW3_101 : W3.cell? ⟨wB.heap.size, 0, none⟩ = some (.int .i64 ((qx x y 0 y'))) := by rw [← hW]; clear hW; first | (go_simp; done) | ((repeat refine keepcell ((Below.refl _ _).alloc (Nat.le_refl _) _) ?_); go_simp; done) | (simp only [frozen?_alloc_cells]; go_simp; done)
          have kW3_102 : W3.cell? ⟨wB.heap.size, 1, none⟩ = some (.int .i64 ((qy x y 0 y'))) := by rw [← hW]; clear hW; first | (go_simp; done) | ((repeat refine keepcell ((Below.refl _ _).alloc (Nat.le_refl _) _) ?_); go_simp; done) | (simp only [frozen?_alloc_cells]; go_simp; done)
          have : wB.heap.size < W3.heap.size := World.block_lt_of_cell? W3 ⟨wB.heap.size, 0, none⟩ (by assumption)
          have hBW3 : Below w.heap.size w W3 := by rw [← hW]; (repeat' (first | assumption | exact Below.refl _ _ | apply Blw.alloc | apply Blw.drew | apply Blw.drewN | (refine Blw.after ?_ (by assumption)) | (refine Blw.set ?_ (by first | (dsimp only; omega) | (simp; done) | (simp; omega)) _)))
          have hsW3 := hBW3.size
          clear hW
          try clear kW2_87; try clear zW2_87; try clear kW2_88; try clear zW2_88; try clear kW2_89; try clear zW2_89; try clear kW2_90; try clear zW2_90; try clear kW2_91; try clear kW2_92; try clear kW2_93; try clear kW2_94; try clear hbwB; try clear hkwB; try clear hlwB
          refine region_slots (fun _ => True) [] [(47, .is (pr (qx x y 0 y') (qy x y 0 y'))), (48, .is (pr (rx x y 0 y') (ry x y 0 y'))), (49, .is (pr (rx x y 0 y') (ry x y 0 y')))] (by kernel_rfl) (by kernel_rfl) (by kernel_rfl) (fun _ _ => trivial) (fun _ _ _ _ _ _ h => h) ?_
          simp only [Steps, List.contains_cons, List.contains_nil, Nat.reduceBEq, Nat.reduceAdd, Bool.or_false, Bool.false_or, Bool.or_true, Bool.true_or, Bool.false_eq_true, if_false, if_true]
          refine ⟨?_, ?_, ?_, ?_⟩
          · intro u w2 hH hd K hK
            simp only [setU, upd, List.map_cons, List.map_nil, List.contains_cons, List.contains_nil, Nat.reduceBEq, Nat.reduceAdd, Bool.or_false, Bool.false_or, Bool.or_true, Bool.true_or, Bool.false_eq_true, if_false, if_true, ite_true, ite_false, Nat.reduceEqDiff, beq_self_eq_true] at hK ⊢
            go_wp2_with (fail)
            exact hK _ _ (by (repeat' (first | assumption | exact Below.refl _ _ | apply Blw.alloc | apply Blw.drew | apply Blw.drewN | (refine Blw.after ?_ (by assumption)) | (refine Blw.set ?_ (by first | (dsimp only; omega) | (simp; done) | (simp; omega)) _)))) rfl
          · intro u w2 hH hd K hK
            simp only [setU, upd, List.map_cons, List.map_nil, List.contains_cons, List.contains_nil, Nat.reduceBEq, Nat.reduceAdd, Bool.or_false, Bool.false_or, Bool.or_true, Bool.true_or, Bool.false_eq_true, if_false, if_true, ite_true, ite_false, Nat.reduceEqDiff, beq_self_eq_true] at hK ⊢
            go_wp2_with (fail)
            exact hK _ _ (by (repeat' (first | assumption | exact Below.refl _ _ | apply Blw.alloc | apply Blw.drew | apply Blw.drewN | (refine Blw.after ?_ (by assumption)) | (refine Blw.set ?_ (by first | (dsimp only; omega) | (simp; done) | (simp; omega)) _)))) rfl
          · intro u w2 hH hd K hK
            have f48 : u 48 = (pr (rx x y 0 y') (ry x y 0 y')) := hd 48 (by kernel_rfl)
            simp only [setU, upd, List.map_cons, List.map_nil, List.contains_cons, List.contains_nil, Nat.reduceBEq, Nat.reduceAdd, Bool.or_false, Bool.false_or, Bool.or_true, Bool.true_or, Bool.false_eq_true, if_false, if_true, ite_true, ite_false, Nat.reduceEqDiff, beq_self_eq_true] at hK ⊢
            rw [f48] at hK ⊢
            clear f48
            go_wp2_with ((go_at_call 31; refine (gauss_c _ _ _).mono ?_; rintro e w1 ⟨rfl, hb⟩; obtain ⟨hc, hf⟩ := bcell hb; have hz := bsize hb; have hs := hb.size; try simp at hs))
            exact hK _ _ (by (repeat' (first | assumption | exact Below.refl _ _ | apply Blw.alloc | apply Blw.drew | apply Blw.drewN | (refine Blw.after ?_ (by assumption)) | (refine Blw.set ?_ (by first | (dsimp only; omega) | (simp; done) | (simp; omega)) _)))) rfl
          intro u w2 hH hF hne
          have hH1 := hH.1
          have hH2 := hH.2.2.2
          simp only [allFacts, SlotFact.h] at hF
          obtain ⟨f47, f48, f49, -⟩ := hF
          simp only [setU, upd, List.map_cons, List.map_nil, List.contains_cons, List.contains_nil, Nat.reduceBEq, Nat.reduceAdd, Bool.or_false, Bool.false_or, Bool.or_true, Bool.true_or, Bool.false_eq_true, if_false, if_true, ite_true, ite_false, Nat.reduceEqDiff, beq_self_eq_true]
          rw [f47, f48, f49]
          clear f47 f48 f49 hne
          refine wpListS_true ?_
          go_wp2_with fail
          exact bodyPost_ret (v := res3 (divB x y 0 y') (qx x y 0 y') (qy x y 0 y') (rx x y 0 y') (ry x y 0 y')) (by simp [results, Try.results10, go_sem, divB, sel_t, sel_f, *]) rfl ⟨rfl, by (repeat' (first | assumption | exact Below.refl _ _ | apply Blw.alloc | apply Blw.drew | apply Blw.drewN | (refine Blw.after ?_ (by assumption)) | (refine Blw.set ?_ (by first | (dsimp only; omega) | (simp; done) | (simp; omega)) _)))⟩
      · skip
        have H3 := nrm_pos (x := x') (y := y') (by omega)
        have H4 := inB_of (q_in H1 H3)
        go_wp2_with ((go_at_call 28; refine (small_c _ _ _).mono ?_; rintro e w1 ⟨rfl, hb⟩; have hk : Hld W1 w1 := heldM (by (repeat' (first | assumption | exact Below.refl _ _ | apply Blw.alloc | apply Blw.drew | apply Blw.drewN | (refine Blw.after ?_ (by assumption)) | (refine Blw.set ?_ (by first | (dsimp only; omega) | (simp; done) | (simp; omega)) _)))); have hk1 := hk.1))
        refine (divide_c _ _ _ _ _ H1 H2 H3).mono ?_
        rintro e wA ⟨rfl, hbwA⟩
        have hkwA : Hld W1 wA := heldM (by (repeat' (first | assumption | exact Below.refl _ _ | apply Blw.alloc | apply Blw.drew | apply Blw.drewN | (refine Blw.after ?_ (by assumption)) | (refine Blw.set ?_ (by first | (dsimp only; omega) | (simp; done) | (simp; omega)) _))))
        have hlwA := hkwA.1
        have hswA := hkwA.2.2.2
        try (have : w.heap.size + 2 < wA.heap.size := by omega)
        try (have : w.heap.size + 3 < wA.heap.size := by omega)
        try (have : wB.heap.size < wA.heap.size := by omega)
        go_wp2_with fail
        generalize hW : World.alloc _ _ = W2
        have kW2_103 : W2.cell? ⟨w.heap.size + 2, 0, none⟩ = some (.int .i64 (0)) := by rw [← hW]; clear hW; first | (go_simp; done) | ((repeat refine keepcell ((Below.refl _ _).alloc (Nat.le_refl _) _) ?_); go_simp; done) | (simp only [frozen?_alloc_cells]; go_simp; done)
        have zW2_103 : W2.frozen? ⟨w.heap.size + 2, 0, none⟩ = false := by rw [← hW]; clear hW; first | (go_simp; done) | ((repeat refine keepcell ((Below.refl _ _).alloc (Nat.le_refl _) _) ?_); go_simp; done) | (simp only [frozen?_alloc_cells]; go_simp; done)
        have kW2_104 : W2.cell? ⟨w.heap.size + 2, 1, none⟩ = some (.int .i64 (0)) := by rw [← hW]; clear hW; first | (go_simp; done) | ((repeat refine keepcell ((Below.refl _ _).alloc (Nat.le_refl _) _) ?_); go_simp; done) | (simp only [frozen?_alloc_cells]; go_simp; done)
        have zW2_104 : W2.frozen? ⟨w.heap.size + 2, 1, none⟩ = false := by rw [← hW]; clear hW; first | (go_simp; done) | ((repeat refine keepcell ((Below.refl _ _).alloc (Nat.le_refl _) _) ?_); go_simp; done) | (simp only [frozen?_alloc_cells]; go_simp; done)
        have : w.heap.size + 2 < W2.heap.size := World.block_lt_of_cell? W2 ⟨w.heap.size + 2, 0, none⟩ (by assumption)
        have kW2_105 : W2.cell? ⟨w.heap.size + 3, 0, none⟩ = some (.int .i64 (0)) := by rw [← hW]; clear hW; first | (go_simp; done) | ((repeat refine keepcell ((Below.refl _ _).alloc (Nat.le_refl _) _) ?_); go_simp; done) | (simp only [frozen?_alloc_cells]; go_simp; done)
        have zW2_105 : W2.frozen? ⟨w.heap.size + 3, 0, none⟩ = false := by rw [← hW]; clear hW; first | (go_simp; done) | ((repeat refine keepcell ((Below.refl _ _).alloc (Nat.le_refl _) _) ?_); go_simp; done) | (simp only [frozen?_alloc_cells]; go_simp; done)
        have kW2_106 : W2.cell? ⟨w.heap.size + 3, 1, none⟩ = some (.int .i64 (0)) := by rw [← hW]; clear hW; first | (go_simp; done) | ((repeat refine keepcell ((Below.refl _ _).alloc (Nat.le_refl _) _) ?_); go_simp; done) | (simp only [frozen?_alloc_cells]; go_simp; done)
        have zW2_106 : W2.frozen? ⟨w.heap.size + 3, 1, none⟩ = false := by rw [← hW]; clear hW; first | (go_simp; done) | ((repeat refine keepcell ((Below.refl _ _).alloc (Nat.le_refl _) _) ?_); go_simp; done) | (simp only [frozen?_alloc_cells]; go_simp; done)
        have : w.heap.size + 3 < W2.heap.size := World.block_lt_of_cell? W2 ⟨w.heap.size + 3, 0, none⟩ (by assumption)
        have kW2_107 : W2.cell? ⟨wA.heap.size, 0, none⟩ = some (.int .i64 ((qx x y x' y'))) := by rw [← hW]; clear hW; first | (go_simp; done) | ((repeat refine keepcell ((Below.refl _ _).alloc (Nat.le_refl _) _) ?_); go_simp; done) | (simp only [frozen?_alloc_cells]; go_simp; done)
        have kW2_108 : W2.cell? ⟨wA.heap.size, 1, none⟩ = some (.int .i64 ((qy x y x' y'))) := by rw [← hW]; clear hW; first | (go_simp; done) | ((repeat refine keepcell ((Below.refl _ _).alloc (Nat.le_refl _) _) ?_); go_simp; done) | (simp only [frozen?_alloc_cells]; go_simp; done)
        have : wA.heap.size < W2.heap.size := World.block_lt_of_cell? W2 ⟨wA.heap.size, 0, none⟩ (by assumption)
        have kW2_109 : W2.cell? ⟨wA.heap.size + 1, 0, none⟩ = some (.int .i64 ((rx x y x' y'))) := by rw [← hW]; clear hW; first | (go_simp; done) | ((repeat refine keepcell ((Below.refl _ _).alloc (Nat.le_refl _) _) ?_); go_simp; done) | (simp only [frozen?_alloc_cells]; go_simp; done)
        have kW2_110 : W2.cell? ⟨wA.heap.size + 1, 1, none⟩ = some (.int .i64 ((ry x y x' y'))) := by rw [← hW]; clear hW; first | (go_simp; done) | ((repeat refine keepcell ((Below.refl _ _).alloc (Nat.le_refl _) _) ?_); go_simp; done) | (simp only [frozen?_alloc_cells]; go_simp; done)
        have : wA.heap.size + 1 < W2.heap.size := World.block_lt_of_cell? W2 ⟨wA.heap.size + 1, 0, none⟩ (by assumption)
        have hBW2 : Below w.heap.size w W2 := by rw [← hW]; (repeat' (first | assumption | exact Below.refl _ _ | apply Blw.alloc | apply Blw.drew | apply Blw.drewN | (refine Blw.after ?_ (by assumption)) | (refine Blw.set ?_ (by first | (dsimp only; omega) | (simp; done) | (simp; omega)) _)))
        have hsW2 := hBW2.size
        clear hW
        try clear kW3_95; try clear zW3_95; try clear kW3_96; try clear zW3_96; try clear kW3_97; try clear zW3_97; try clear kW3_98; try clear zW3_98; try clear kW3_99; try clear kW3_100; try clear kW3_101; try clear kW3_102; try clear hH; try clear hH1; try clear hbwA; try clear hkwA; try clear hlwA
        go_wp2_with (fail)
        refine (ifSmall_c _ _ _).mono ?_
        rintro e wB ⟨rfl, hbwB⟩
        have hkwB : Hld W2 wB := heldM (by (repeat' (first | assumption | exact Below.refl _ _ | apply Blw.alloc | apply Blw.drew | apply Blw.drewN | (refine Blw.after ?_ (by assumption)) | (refine Blw.set ?_ (by first | (dsimp only; omega) | (simp; done) | (simp; omega)) _))))
        have hlwB := hkwB.1
        have hswB := hkwB.2.2.2
        try (have : w.heap.size + 2 < wB.heap.size := by omega)
        try (have : w.heap.size + 3 < wB.heap.size := by omega)
        try (have : wA.heap.size < wB.heap.size := by omega)
        try (have : wA.heap.size + 1 < wB.heap.size := by omega)
        simp only [H4, res2, sel_t]
        go_wp2_with fail
        generalize hW : World.alloc _ _ = W3
        have kW3_111 : W3.cell? ⟨w.heap.size + 2, 0, none⟩ = some (.int .i64 (0)) := by rw [← hW]; clear hW; first | (go_simp; done) | ((repeat refine keepcell ((Below.refl _ _).alloc (Nat.le_refl _) _) ?_); go_simp; done) | (simp only [frozen?_alloc_cells]; go_simp; done)
        have zW3_111 : W3.frozen? ⟨w.heap.size + 2, 0, none⟩ = false := by rw [← hW]; clear hW; first | (go_simp; done) | ((repeat refine keepcell ((Below.refl _ _).alloc (Nat.le_refl _) _) ?_); go_simp; done) | (simp only [frozen?_alloc_cells]; go_simp; done)
        have kW3_112 : W3.cell? ⟨w.heap.size + 2, 1, none⟩ = some (.int .i64 (0)) := by rw [← hW]; clear hW; first | (go_simp; done) | ((repeat refine keepcell ((Below.refl _ _).alloc (Nat.le_refl _) _) ?_); go_simp; done) | (simp only [frozen?_alloc_cells]; go_simp; done)
        have zW3_112 : W3.frozen? ⟨w.heap.size + 2, 1, none⟩ = false := by rw [← hW]; clear hW; first | (go_simp; done) | ((repeat refine keepcell ((Below.refl _ _).alloc (Nat.le_refl _) _) ?_); go_simp; done) | (simp only [frozen?_alloc_cells]; go_simp; done)
        have : w.heap.size + 2 < W3.heap.size := World.block_lt_of_cell? W3 ⟨w.heap.size + 2, 0, none⟩ (by assumption)
        have kW3_113 : W3.cell? ⟨w.heap.size + 3, 0, none⟩ = some (.int .i64 (0)) := by rw [← hW]; clear hW; first | (go_simp; done) | ((repeat refine keepcell ((Below.refl _ _).alloc (Nat.le_refl _) _) ?_); go_simp; done) | (simp only [frozen?_alloc_cells]; go_simp; done)
        have zW3_113 : W3.frozen? ⟨w.heap.size + 3, 0, none⟩ = false := by rw [← hW]; clear hW; first | (go_simp; done) | ((repeat refine keepcell ((Below.refl _ _).alloc (Nat.le_refl _) _) ?_); go_simp; done) | (simp only [frozen?_alloc_cells]; go_simp; done)
        have kW3_114 : W3.cell? ⟨w.heap.size + 3, 1, none⟩ = some (.int .i64 (0)) := by rw [← hW]; clear hW; first | (go_simp; done) | ((repeat refine keepcell ((Below.refl _ _).alloc (Nat.le_refl _) _) ?_); go_simp; done) | (simp only [frozen?_alloc_cells]; go_simp; done)
        have zW3_114 : W3.frozen? ⟨w.heap.size + 3, 1, none⟩ = false := by rw [← hW]; clear hW; first | (go_simp; done) | ((repeat refine keepcell ((Below.refl _ _).alloc (Nat.le_refl _) _) ?_); go_simp; done) | (simp only [frozen?_alloc_cells]; go_simp; done)
        have : w.heap.size + 3 < W3.heap.size := World.block_lt_of_cell? W3 ⟨w.heap.size + 3, 0, none⟩ (by assumption)
        have kW3_115 : W3.cell? ⟨wA.heap.size + 1, 0, none⟩ = some (.int .i64 ((rx x y x' y'))) := by rw [← hW]; clear hW; first | (go_simp; done) | ((repeat refine keepcell ((Below.refl _ _).alloc (Nat.le_refl _) _) ?_); go_simp; done) | (simp only [frozen?_alloc_cells]; go_simp; done)
        have kW3_116 : W3.cell? ⟨wA.heap.size + 1, 1, none⟩ = some (.int .i64 ((ry x y x' y'))) := by rw [← hW]; clear hW; first | (go_simp; done) | ((repeat refine keepcell ((Below.refl _ _).alloc (Nat.le_refl _) _) ?_); go_simp; done) | (simp only [frozen?_alloc_cells]; go_simp; done)
        have : wA.heap.size + 1 < W3.heap.size := World.block_lt_of_cell? W3 ⟨wA.heap.size + 1, 0, none⟩ (by assumption)
        have kW3_117 : W3.cell? ⟨wB.heap.size, 0, none⟩ = some (.int .i64 ((qx x y x' y'))) := by rw [← hW]; clear hW; first | (go_simp; done) | ((repeat refine keepcell ((Below.refl _ _).alloc (Nat.le_refl _) _) ?_); go_simp; done) | (simp only [frozen?_alloc_cells]; go_simp; done)
        have kW3_118 : W3.cell? ⟨wB.heap.size, 1, none⟩ = some (.int .i64 ((qy x y x' y'))) := by rw [← hW]; clear hW; first | (go_simp; done) | ((repeat refine keepcell ((Below.refl _ _).alloc (Nat.le_refl _) _) ?_); go_simp; done) | (simp only [frozen?_alloc_cells]; go_simp; done)
        have : wB.heap.size < W3.heap.size := World.block_lt_of_cell? W3 ⟨wB.heap.size, 0, none⟩ (by assumption)
        have hBW3 : Below w.heap.size w W3 := by rw [← hW]; (repeat' (first | assumption | exact Below.refl _ _ | apply Blw.alloc | apply Blw.drew | apply Blw.drewN | (refine Blw.after ?_ (by assumption)) | (refine Blw.set ?_ (by first | (dsimp only; omega) | (simp; done) | (simp; omega)) _)))
        have hsW3 := hBW3.size
        clear hW
        try clear kW2_103; try clear zW2_103; try clear kW2_104; try clear zW2_104; try clear kW2_105; try clear zW2_105; try clear kW2_106; try clear zW2_106; try clear kW2_107; try clear kW2_108; try clear kW2_109; try clear kW2_110; try clear hbwB; try clear hkwB; try clear hlwB
        refine region_slots (fun _ => True) [] [(47, .is (pr (qx x y x' y') (qy x y x' y'))), (48, .is (pr (rx x y x' y') (ry x y x' y'))), (49, .is (pr (rx x y x' y') (ry x y x' y')))] (by kernel_rfl) (by kernel_rfl) (by kernel_rfl) (fun _ _ => trivial) (fun _ _ _ _ _ _ h => h) ?_
        simp only [Steps, List.contains_cons, List.contains_nil, Nat.reduceBEq, Nat.reduceAdd, Bool.or_false, Bool.false_or, Bool.or_true, Bool.true_or, Bool.false_eq_true, if_false, if_true]
        refine ⟨?_, ?_, ?_, ?_⟩
        · intro u w2 hH hd K hK
          simp only [setU, upd, List.map_cons, List.map_nil, List.contains_cons, List.contains_nil, Nat.reduceBEq, Nat.reduceAdd, Bool.or_false, Bool.false_or, Bool.or_true, Bool.true_or, Bool.false_eq_true, if_false, if_true, ite_true, ite_false, Nat.reduceEqDiff, beq_self_eq_true] at hK ⊢
          go_wp2_with (fail)
          exact hK _ _ (by (repeat' (first | assumption | exact Below.refl _ _ | apply Blw.alloc | apply Blw.drew | apply Blw.drewN | (refine Blw.after ?_ (by assumption)) | (refine Blw.set ?_ (by first | (dsimp only; omega) | (simp; done) | (simp; omega)) _)))) rfl
        · intro u w2 hH hd K hK
          simp only [setU, upd, List.map_cons, List.map_nil, List.contains_cons, List.contains_nil, Nat.reduceBEq, Nat.reduceAdd, Bool.or_false, Bool.false_or, Bool.or_true, Bool.true_or, Bool.false_eq_true, if_false, if_true, ite_true, ite_false, Nat.reduceEqDiff, beq_self_eq_true] at hK ⊢
          go_wp2_with (fail)
          exact hK _ _ (by (repeat' (first | assumption | exact Below.refl _ _ | apply Blw.alloc | apply Blw.drew | apply Blw.drewN | (refine Blw.after ?_ (by assumption)) | (refine Blw.set ?_ (by first | (dsimp only; omega) | (simp; done) | (simp; omega)) _)))) rfl
        · intro u w2 hH hd K hK
          have f48 : u 48 = (pr (rx x y x' y') (ry x y x' y')) := hd 48 (by kernel_rfl)
          simp only [setU, upd, List.map_cons, List.map_nil, List.contains_cons, List.contains_nil, Nat.reduceBEq, Nat.reduceAdd, Bool.or_false, Bool.false_or, Bool.or_true, Bool.true_or, Bool.false_eq_true, if_false, if_true, ite_true, ite_false, Nat.reduceEqDiff, beq_self_eq_true] at hK ⊢
          rw [f48] at hK ⊢
          clear f48
          go_wp2_with ((go_at_call 31; refine (gauss_c _ _ _).mono ?_; rintro e w1 ⟨rfl, hb⟩; obtain ⟨hc, hf⟩ := bcell hb; have hz := bsize hb; have hs := hb.size; try simp at hs))
          exact hK _ _ (by (repeat' (first | assumption | exact Below.refl _ _ | apply Blw.alloc | apply Blw.drew | apply Blw.drewN | (refine Blw.after ?_ (by assumption)) | (refine Blw.set ?_ (by first | (dsimp only; omega) | (simp; done) | (simp; omega)) _)))) rfl
        intro u w2 hH hF hne
        have hH1 := hH.1
        have hH2 := hH.2.2.2
        simp only [allFacts, SlotFact.h] at hF
        obtain ⟨f47, f48, f49, -⟩ := hF
        simp only [setU, upd, List.map_cons, List.map_nil, List.contains_cons, List.contains_nil, Nat.reduceBEq, Nat.reduceAdd, Bool.or_false, Bool.false_or, Bool.or_true, Bool.true_or, Bool.false_eq_true, if_false, if_true, ite_true, ite_false, Nat.reduceEqDiff, beq_self_eq_true]
        rw [f47, f48, f49]
        clear f47 f48 f49 hne
        refine wpListS_true ?_
        go_wp2_with fail
        exact bodyPost_ret (v := res3 (divB x y x' y') (qx x y x' y') (qy x y x' y') (rx x y x' y') (ry x y x' y')) (by simp [results, Try.results10, go_sem, divB, sel_t, sel_f, *]) rfl ⟨rfl, by (repeat' (first | assumption | exact Below.refl _ _ | apply Blw.alloc | apply Blw.drew | apply Blw.drewN | (refine Blw.after ?_ (by assumption)) | (refine Blw.set ?_ (by first | (dsimp only; omega) | (simp; done) | (simp; omega)) _)))⟩
    · go_wp2_with (go_at_call 28; refine (small_c _ _ _).mono ?_; rintro e w1 ⟨rfl, hb⟩; have hk : Hld W1 w1 := heldM (by (repeat' (first | assumption | exact Below.refl _ _ | apply Blw.alloc | apply Blw.drew | apply Blw.drewN | (refine Blw.after ?_ (by assumption)) | (refine Blw.set ?_ (by first | (dsimp only; omega) | (simp; done) | (simp; omega)) _)))); have hk1 := hk.1)
      exact bodyPost_ret (v := (res3 (divB x y x' y') (qx x y x' y') (qy x y x' y') (rx x y x' y') (ry x y x' y'))) (by simp [results, Try.results10, go_sem, divB, sel_t, sel_f, *]) rfl ⟨rfl, by (repeat' (first | assumption | exact Below.refl _ _ | apply Blw.alloc | apply Blw.drew | apply Blw.drewN | (refine Blw.after ?_ (by assumption)) | (refine Blw.set ?_ (by first | (dsimp only; omega) | (simp; done) | (simp; omega)) _)))⟩
  · go_wp2_with (go_at_call 28; refine (small_c _ _ _).mono ?_; rintro e w1 ⟨rfl, hb⟩; have hk : Hld W1 w1 := heldM (by (repeat' (first | assumption | exact Below.refl _ _ | apply Blw.alloc | apply Blw.drew | apply Blw.drewN | (refine Blw.after ?_ (by assumption)) | (refine Blw.set ?_ (by first | (dsimp only; omega) | (simp; done) | (simp; omega)) _)))); have hk1 := hk.1)
    exact bodyPost_ret (v := (res3 (divB x y x' y') (qx x y x' y') (qy x y x' y') (rx x y x' y') (ry x y x' y'))) (by simp [results, Try.results10, go_sem, divB, sel_t, sel_f, *]) rfl ⟨rfl, by (repeat' (first | assumption | exact Below.refl _ _ | apply Blw.alloc | apply Blw.drew | apply Blw.drewN | (refine Blw.after ?_ (by assumption)) | (refine Blw.set ?_ (by first | (dsimp only; omega) | (simp; done) | (simp; omega)) _)))⟩
end Go.Proofs.Ytlcafjdinjdllaa

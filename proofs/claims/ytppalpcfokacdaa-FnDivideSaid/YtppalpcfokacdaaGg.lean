/- Chapter 1: GaussDivide, the program's. -/
import Derived.Test.YtppalpcfokacdaaGf
namespace Go.Proofs.Ytppalpcfokacdaa
set_option linter.unusedSimpArgs false
set_option linter.unusedVariables false
open Go.RowKit

set_option maxHeartbeats 2000000 in
theorem iGaussDivide_c (x y x' y' : Int) (w : World) : Calls Try.prog 15 #[pr x y, pr x' y'] w fun e w' => e = .returned (res3 (divB x y x' y') (qx x y x' y') (qy x y x' y') (rx x y x' y') (ry x y x' y')) ∧ Below w.heap.size w w' := by
  go_enter Try.func15, Try.ntmps15
  go_wp2_with fail
  generalize hW : World.alloc _ _ = W0
  have kW0_151 : W0.cell? ⟨w.heap.size, 0, none⟩ = some (.int .i64 (x)) := by rw [← hW]; clear hW; first | (go_simp; done) | ((repeat refine keepcell ((Below.refl _ _).alloc (Nat.le_refl _) _) ?_); go_simp; done) | (simp only [frozen?_alloc_cells]; go_simp; done)
  have kW0_152 : W0.cell? ⟨w.heap.size, 1, none⟩ = some (.int .i64 (y)) := by rw [← hW]; clear hW; first | (go_simp; done) | ((repeat refine keepcell ((Below.refl _ _).alloc (Nat.le_refl _) _) ?_); go_simp; done) | (simp only [frozen?_alloc_cells]; go_simp; done)
  have : w.heap.size < W0.heap.size := World.block_lt_of_cell? W0 ⟨w.heap.size, 0, none⟩ (by assumption)
  have kW0_153 : W0.cell? ⟨w.heap.size + 1, 0, none⟩ = some (.int .i64 (x')) := by rw [← hW]; clear hW; first | (go_simp; done) | ((repeat refine keepcell ((Below.refl _ _).alloc (Nat.le_refl _) _) ?_); go_simp; done) | (simp only [frozen?_alloc_cells]; go_simp; done)
  have kW0_154 : W0.cell? ⟨w.heap.size + 1, 1, none⟩ = some (.int .i64 (y')) := by rw [← hW]; clear hW; first | (go_simp; done) | ((repeat refine keepcell ((Below.refl _ _).alloc (Nat.le_refl _) _) ?_); go_simp; done) | (simp only [frozen?_alloc_cells]; go_simp; done)
  have : w.heap.size + 1 < W0.heap.size := World.block_lt_of_cell? W0 ⟨w.heap.size + 1, 0, none⟩ (by assumption)
  have kW0_155 : W0.cell? ⟨w.heap.size + 2, 0, none⟩ = some (.int .i64 (0)) := by rw [← hW]; clear hW; first | (go_simp; done) | ((repeat refine keepcell ((Below.refl _ _).alloc (Nat.le_refl _) _) ?_); go_simp; done) | (simp only [frozen?_alloc_cells]; go_simp; done)
  have zW0_155 : W0.frozen? ⟨w.heap.size + 2, 0, none⟩ = false := by rw [← hW]; clear hW; first | (go_simp; done) | ((repeat refine keepcell ((Below.refl _ _).alloc (Nat.le_refl _) _) ?_); go_simp; done) | (simp only [frozen?_alloc_cells]; go_simp; done)
  have kW0_156 : W0.cell? ⟨w.heap.size + 2, 1, none⟩ = some (.int .i64 (0)) := by rw [← hW]; clear hW; first | (go_simp; done) | ((repeat refine keepcell ((Below.refl _ _).alloc (Nat.le_refl _) _) ?_); go_simp; done) | (simp only [frozen?_alloc_cells]; go_simp; done)
  have zW0_156 : W0.frozen? ⟨w.heap.size + 2, 1, none⟩ = false := by rw [← hW]; clear hW; first | (go_simp; done) | ((repeat refine keepcell ((Below.refl _ _).alloc (Nat.le_refl _) _) ?_); go_simp; done) | (simp only [frozen?_alloc_cells]; go_simp; done)
  have : w.heap.size + 2 < W0.heap.size := World.block_lt_of_cell? W0 ⟨w.heap.size + 2, 0, none⟩ (by assumption)
  have kW0_157 : W0.cell? ⟨w.heap.size + 3, 0, none⟩ = some (.int .i64 (0)) := by rw [← hW]; clear hW; first | (go_simp; done) | ((repeat refine keepcell ((Below.refl _ _).alloc (Nat.le_refl _) _) ?_); go_simp; done) | (simp only [frozen?_alloc_cells]; go_simp; done)
  have zW0_157 : W0.frozen? ⟨w.heap.size + 3, 0, none⟩ = false := by rw [← hW]; clear hW; first | (go_simp; done) | ((repeat refine keepcell ((Below.refl _ _).alloc (Nat.le_refl _) _) ?_); go_simp; done) | (simp only [frozen?_alloc_cells]; go_simp; done)
  have kW0_158 : W0.cell? ⟨w.heap.size + 3, 1, none⟩ = some (.int .i64 (0)) := by rw [← hW]; clear hW; first | (go_simp; done) | ((repeat refine keepcell ((Below.refl _ _).alloc (Nat.le_refl _) _) ?_); go_simp; done) | (simp only [frozen?_alloc_cells]; go_simp; done)
  have zW0_158 : W0.frozen? ⟨w.heap.size + 3, 1, none⟩ = false := by rw [← hW]; clear hW; first | (go_simp; done) | ((repeat refine keepcell ((Below.refl _ _).alloc (Nat.le_refl _) _) ?_); go_simp; done) | (simp only [frozen?_alloc_cells]; go_simp; done)
  have : w.heap.size + 3 < W0.heap.size := World.block_lt_of_cell? W0 ⟨w.heap.size + 3, 0, none⟩ (by assumption)
  have hBW0 : Below w.heap.size w W0 := by rw [← hW]; (repeat' (first | assumption | exact Below.refl _ _ | apply Blw.alloc | apply Blw.drew | apply Blw.drewN | (refine Blw.after ?_ (by assumption)) | (refine Blw.set ?_ (by first | (dsimp only; omega) | (simp; done) | (simp; omega)) _)))
  have hsW0 := hBW0.size
  clear hW
  refine region_slots (fun _ => True) [] [(13, .is (pr x y)), (14, .is (pr x y)), (15, .is (pr x' y')), (16, .is (pr x' y')), (7, .own [.int .i64 0, .int .i64 0]), (8, .own [.int .i64 0, .int .i64 0])] (by kernel_rfl) (by kernel_rfl) (by kernel_rfl) (fun _ _ => trivial) (fun _ _ _ _ _ _ h => h) ?_
  simp only [Steps, List.contains_cons, List.contains_nil, Nat.reduceBEq, Nat.reduceAdd, Bool.or_false, Bool.false_or, Bool.or_true, Bool.true_or, Bool.false_eq_true, if_false, if_true]
  refine ⟨?_, ?_, ?_, ?_, ?_, ?_, ?_⟩
  · intro u w2 hH hd K hK
    simp only [setU, upd, List.map_cons, List.map_nil, List.contains_cons, List.contains_nil, Nat.reduceBEq, Nat.reduceAdd, Bool.or_false, Bool.false_or, Bool.or_true, Bool.true_or, Bool.false_eq_true, if_false, if_true, ite_true, ite_false, Nat.reduceEqDiff, beq_self_eq_true] at hK ⊢
    go_wp2_with (fail)
    exact hK _ _ (by (repeat' (first | assumption | exact Below.refl _ _ | apply Blw.alloc | apply Blw.drew | apply Blw.drewN | (refine Blw.after ?_ (by assumption)) | (refine Blw.set ?_ (by first | (dsimp only; omega) | (simp; done) | (simp; omega)) _)))) rfl
  · intro u w2 hH hd K hK
    have f13 : u 13 = (pr x y) := hd 13 (by kernel_rfl)
    simp only [setU, upd, List.map_cons, List.map_nil, List.contains_cons, List.contains_nil, Nat.reduceBEq, Nat.reduceAdd, Bool.or_false, Bool.false_or, Bool.or_true, Bool.true_or, Bool.false_eq_true, if_false, if_true, ite_true, ite_false, Nat.reduceEqDiff, beq_self_eq_true] at hK ⊢
    rw [f13] at hK ⊢
    clear f13
    go_wp2_with ((go_at_call 42; refine (gPair_c _ _ _).mono ?_; rintro e w1 ⟨rfl, hb⟩; obtain ⟨hc, hf⟩ := bcell hb; have hz := bsize hb; have hs := hb.size; try simp at hs))
    exact hK _ _ (by (repeat' (first | assumption | exact Below.refl _ _ | apply Blw.alloc | apply Blw.drew | apply Blw.drewN | (refine Blw.after ?_ (by assumption)) | (refine Blw.set ?_ (by first | (dsimp only; omega) | (simp; done) | (simp; omega)) _)))) rfl
  · intro u w2 hH hd K hK
    simp only [setU, upd, List.map_cons, List.map_nil, List.contains_cons, List.contains_nil, Nat.reduceBEq, Nat.reduceAdd, Bool.or_false, Bool.false_or, Bool.or_true, Bool.true_or, Bool.false_eq_true, if_false, if_true, ite_true, ite_false, Nat.reduceEqDiff, beq_self_eq_true] at hK ⊢
    go_wp2_with (fail)
    exact hK _ _ (by (repeat' (first | assumption | exact Below.refl _ _ | apply Blw.alloc | apply Blw.drew | apply Blw.drewN | (refine Blw.after ?_ (by assumption)) | (refine Blw.set ?_ (by first | (dsimp only; omega) | (simp; done) | (simp; omega)) _)))) rfl
  · intro u w2 hH hd K hK
    have f15 : u 15 = (pr x' y') := hd 15 (by kernel_rfl)
    simp only [setU, upd, List.map_cons, List.map_nil, List.contains_cons, List.contains_nil, Nat.reduceBEq, Nat.reduceAdd, Bool.or_false, Bool.false_or, Bool.or_true, Bool.true_or, Bool.false_eq_true, if_false, if_true, ite_true, ite_false, Nat.reduceEqDiff, beq_self_eq_true] at hK ⊢
    rw [f15] at hK ⊢
    clear f15
    go_wp2_with ((go_at_call 42; refine (gPair_c _ _ _).mono ?_; rintro e w1 ⟨rfl, hb⟩; obtain ⟨hc, hf⟩ := bcell hb; have hz := bsize hb; have hs := hb.size; try simp at hs))
    exact hK _ _ (by (repeat' (first | assumption | exact Below.refl _ _ | apply Blw.alloc | apply Blw.drew | apply Blw.drewN | (refine Blw.after ?_ (by assumption)) | (refine Blw.set ?_ (by first | (dsimp only; omega) | (simp; done) | (simp; omega)) _)))) rfl
  · intro u w2 hH hd K hK
    simp only [setU, upd, List.map_cons, List.map_nil, List.contains_cons, List.contains_nil, Nat.reduceBEq, Nat.reduceAdd, Bool.or_false, Bool.false_or, Bool.or_true, Bool.true_or, Bool.false_eq_true, if_false, if_true, ite_true, ite_false, Nat.reduceEqDiff, beq_self_eq_true] at hK ⊢
    go_wp2_with (fail)
    exact hK _ _ (by (repeat' (first | assumption | exact Below.refl _ _ | apply Blw.alloc | apply Blw.drew | apply Blw.drewN | (refine Blw.after ?_ (by assumption)) | (refine Blw.set ?_ (by first | (dsimp only; omega) | (simp; done) | (simp; omega)) _)))) (OwnP.new _ _ _)
  · intro u w2 hH hd K hK
    simp only [setU, upd, List.map_cons, List.map_nil, List.contains_cons, List.contains_nil, Nat.reduceBEq, Nat.reduceAdd, Bool.or_false, Bool.false_or, Bool.or_true, Bool.true_or, Bool.false_eq_true, if_false, if_true, ite_true, ite_false, Nat.reduceEqDiff, beq_self_eq_true] at hK ⊢
    go_wp2_with (fail)
    exact hK _ _ (by (repeat' (first | assumption | exact Below.refl _ _ | apply Blw.alloc | apply Blw.drew | apply Blw.drewN | (refine Blw.after ?_ (by assumption)) | (refine Blw.set ?_ (by first | (dsimp only; omega) | (simp; done) | (simp; omega)) _)))) (OwnP.new _ _ _)
  intro u w2 hH hF hne
  have hH1 := hH.1
  have hH2 := hH.2.2.2
  simp only [allFacts, SlotFact.h] at hF
  obtain ⟨f13, f14, f15, f16, ⟨b7, f7, g7, l7, k7, z7⟩, ⟨b8, f8, g8, l8, k8, z8⟩, -⟩ := hF
  have n7_8 : b7 ≠ b8 := by have h := hne 7 8 (by kernel_rfl) (by kernel_rfl) (by decide); rw [f7, f8] at h; exact h
  simp only [setU, upd, List.map_cons, List.map_nil, List.contains_cons, List.contains_nil, Nat.reduceBEq, Nat.reduceAdd, Bool.or_false, Bool.false_or, Bool.or_true, Bool.true_or, Bool.false_eq_true, if_false, if_true, ite_true, ite_false, Nat.reduceEqDiff, beq_self_eq_true]
  rw [f13, f14, f15, f16, f7, f8]
  clear f13 f14 f15 f16 f7 f8 hne
  have c7_0 := k7 0 _ rfl
  have e7_0 := z7 0 (by simp)
  have c7_1 := k7 1 _ rfl
  have e7_1 := z7 1 (by simp)
  clear k7 z7
  have c8_0 := k8 0 _ rfl
  have e8_0 := z8 0 (by simp)
  have c8_1 := k8 1 _ rfl
  have e8_1 := z8 1 (by simp)
  clear k8 z8
  refine wpListS_true ?_
  go_wp2_with fail
  generalize hW : World.setCell _ _ _ = W1
  have kW1_159 : W1.cell? ⟨b7, 0, none⟩ = some (.int .i64 (x)) := by rw [← hW]; clear hW; first | (go_simp; done) | ((repeat refine keepcell ((Below.refl _ _).alloc (Nat.le_refl _) _) ?_); go_simp; done) | (simp only [frozen?_alloc_cells]; go_simp; done)
  have kW1_160 : W1.cell? ⟨b7, 1, none⟩ = some (.int .i64 (y)) := by rw [← hW]; clear hW; first | (go_simp; done) | ((repeat refine keepcell ((Below.refl _ _).alloc (Nat.le_refl _) _) ?_); go_simp; done) | (simp only [frozen?_alloc_cells]; go_simp; done)
  have : b7 < W1.heap.size := World.block_lt_of_cell? W1 ⟨b7, 0, none⟩ (by assumption)
  have kW1_161 : W1.cell? ⟨b8, 0, none⟩ = some (.int .i64 (x')) := by rw [← hW]; clear hW; first | (go_simp; done) | ((repeat refine keepcell ((Below.refl _ _).alloc (Nat.le_refl _) _) ?_); go_simp; done) | (simp only [frozen?_alloc_cells]; go_simp; done)
  have kW1_162 : W1.cell? ⟨b8, 1, none⟩ = some (.int .i64 (y')) := by rw [← hW]; clear hW; first | (go_simp; done) | ((repeat refine keepcell ((Below.refl _ _).alloc (Nat.le_refl _) _) ?_); go_simp; done) | (simp only [frozen?_alloc_cells]; go_simp; done)
  have : b8 < W1.heap.size := World.block_lt_of_cell? W1 ⟨b8, 0, none⟩ (by assumption)
  have kW1_163 : W1.cell? ⟨w.heap.size + 2, 0, none⟩ = some (.int .i64 (0)) := by rw [← hW]; clear hW; first | (go_simp; done) | ((repeat refine keepcell ((Below.refl _ _).alloc (Nat.le_refl _) _) ?_); go_simp; done) | (simp only [frozen?_alloc_cells]; go_simp; done)
  have zW1_163 : W1.frozen? ⟨w.heap.size + 2, 0, none⟩ = false := by rw [← hW]; clear hW; first | (go_simp; done) | ((repeat refine keepcell ((Below.refl _ _).alloc (Nat.le_refl _) _) ?_); go_simp; done) | (simp only [frozen?_alloc_cells]; go_simp; done)
  have kW1_164 : W1.cell? ⟨w.heap.size + 2, 1, none⟩ = some (.int .i64 (0)) := by rw [← hW]; clear hW; first | (go_simp; done) | ((repeat refine keepcell ((Below.refl _ _).alloc (Nat.le_refl _) _) ?_); go_simp; done) | (simp only [frozen?_alloc_cells]; go_simp; done)
  have zW1_164 : W1.frozen? ⟨w.heap.size + 2, 1, none⟩ = false := by rw [← hW]; clear hW; first | (go_simp; done) | ((repeat refine keepcell ((Below.refl _ _).alloc (Nat.le_refl _) _) ?_); go_simp; done) | (simp only [frozen?_alloc_cells]; go_simp; done)
  have : w.heap.size + 2 < W1.heap.size := World.block_lt_of_cell? W1 ⟨w.heap.size + 2, 0, none⟩ (by assumption)
  have kW1_165 : W1.cell? ⟨w.heap.size + 3, 0, none⟩ = some (.int .i64 (0)) := by rw [← hW]; clear hW; first | (go_simp; done) | ((repeat refine keepcell ((Below.refl _ _).alloc (Nat.le_refl _) _) ?_); go_simp; done) | (simp only [frozen?_alloc_cells]; go_simp; done)
  have zW1_165 : W1.frozen? ⟨w.heap.size + 3, 0, none⟩ = false := by rw [← hW]; clear hW; first | (go_simp; done) | ((repeat refine keepcell ((Below.refl _ _).alloc (Nat.le_refl _) _) ?_); go_simp; done) | (simp only [frozen?_alloc_cells]; go_simp; done)
  have kW1_166 : W1.cell? ⟨w.heap.size + 3, 1, none⟩ = some (.int .i64 (0)) := by rw [← hW]; clear hW; first | (go_simp; done) | ((repeat refine keepcell ((Below.refl _ _).alloc (Nat.le_refl _) _) ?_); go_simp; done) | (simp only [frozen?_alloc_cells]; go_simp; done)
  have zW1_166 : W1.frozen? ⟨w.heap.size + 3, 1, none⟩ = false := by rw [← hW]; clear hW; first | (go_simp; done) | ((repeat refine keepcell ((Below.refl _ _).alloc (Nat.le_refl _) _) ?_); go_simp; done) | (simp only [frozen?_alloc_cells]; go_simp; done)
  have : w.heap.size + 3 < W1.heap.size := World.block_lt_of_cell? W1 ⟨w.heap.size + 3, 0, none⟩ (by assumption)
  have hBW1 : Below w.heap.size w W1 := by rw [← hW]; (repeat' (first | assumption | exact Below.refl _ _ | apply Blw.alloc | apply Blw.drew | apply Blw.drewN | (refine Blw.after ?_ (by assumption)) | (refine Blw.set ?_ (by first | (dsimp only; omega) | (simp; done) | (simp; omega)) _)))
  have hsW1 := hBW1.size
  clear hW
  try clear kW0_151; try clear kW0_152; try clear kW0_153; try clear kW0_154; try clear kW0_155; try clear zW0_155; try clear kW0_156; try clear zW0_156; try clear kW0_157; try clear zW0_157; try clear kW0_158; try clear zW0_158; try clear hH; try clear hH1; try clear c7_0; try clear e7_0; try clear c7_1; try clear e7_1; try clear c8_0; try clear e8_0; try clear c8_1; try clear e8_1
  rcases Bool.eq_false_or_eq_true (inB 1000000 x y) with h1 | h1
  · rcases Bool.eq_false_or_eq_true (inB 1000000 x' y') with h2 | h2
    · have H1 := inB_le h1
      have H2 := inB_le h2
      by_cases hx : x' = 0
      · subst hx
        by_cases hy : y' = 0
        · subst hy
          go_wp2_with (go_at_call 43; refine (small_c _ _ _).mono ?_; rintro e w1 ⟨rfl, hb⟩; have hk : Hld W1 w1 := heldM (by (repeat' (first | assumption | exact Below.refl _ _ | apply Blw.alloc | apply Blw.drew | apply Blw.drewN | (refine Blw.after ?_ (by assumption)) | (refine Blw.set ?_ (by first | (dsimp only; omega) | (simp; done) | (simp; omega)) _)))); have hk1 := hk.1)
          exact bodyPost_ret (v := res3 (divB x y 0 0) (qx x y 0 0) (qy x y 0 0) (rx x y 0 0) (ry x y 0 0)) (by simp [results, Try.results15, go_sem, divB, sel_t, sel_f, *]) rfl ⟨rfl, by (repeat' (first | assumption | exact Below.refl _ _ | apply Blw.alloc | apply Blw.drew | apply Blw.drewN | (refine Blw.after ?_ (by assumption)) | (refine Blw.set ?_ (by first | (dsimp only; omega) | (simp; done) | (simp; omega)) _)))⟩
        · skip
          have H3 := nrm_pos (x := 0) (y := y') (by omega)
          have H4 := inB_of (q_in H1 H3)
          go_wp2_with ((go_at_call 43; refine (small_c _ _ _).mono ?_; rintro e w1 ⟨rfl, hb⟩; have hk : Hld W1 w1 := heldM (by (repeat' (first | assumption | exact Below.refl _ _ | apply Blw.alloc | apply Blw.drew | apply Blw.drewN | (refine Blw.after ?_ (by assumption)) | (refine Blw.set ?_ (by first | (dsimp only; omega) | (simp; done) | (simp; omega)) _)))); have hk1 := hk.1))
          refine (divide_c _ _ _ _ _ H1 H2 H3).mono ?_
          rintro e wA ⟨rfl, hbwA⟩
          have hkwA : Hld W1 wA := heldM (by (repeat' (first | assumption | exact Below.refl _ _ | apply Blw.alloc | apply Blw.drew | apply Blw.drewN | (refine Blw.after ?_ (by assumption)) | (refine Blw.set ?_ (by first | (dsimp only; omega) | (simp; done) | (simp; omega)) _))))
          have hlwA := hkwA.1
          have hswA := hkwA.2.2.2
          try (have : b7 < wA.heap.size := by omega)
          try (have : b8 < wA.heap.size := by omega)
          try (have : w.heap.size + 2 < wA.heap.size := by omega)
          try (have : w.heap.size + 3 < wA.heap.size := by omega)
          go_wp2_with fail
          generalize hW : World.alloc _ _ = W2
          have kW2_167 : W2.cell? ⟨w.heap.size + 2, 0, none⟩ = some (.int .i64 (0)) := by rw [← hW]; clear hW; first | (go_simp; done) | ((repeat refine keepcell ((Below.refl _ _).alloc (Nat.le_refl _) _) ?_); go_simp; done) | (simp only [frozen?_alloc_cells]; go_simp; done)
          have zW2_167 : W2.frozen? ⟨w.heap.size + 2, 0, none⟩ = false := by rw [← hW]; clear hW; first | (go_simp; done) | ((repeat refine keepcell ((Below.refl _ _).alloc (Nat.le_refl _) _) ?_); go_simp; done) | (simp only [frozen?_alloc_cells]; go_simp; done)
          have kW2_168 : W2.cell? ⟨w.heap.size + 2, 1, none⟩ = some (.int .i64 (0)) := by rw [← hW]; clear hW; first | (go_simp; done) | ((repeat refine keepcell ((Below.refl _ _).alloc (Nat.le_refl _) _) ?_); go_simp; done) | (simp only [frozen?_alloc_cells]; go_simp; done)
          have zW2_168 : W2.frozen? ⟨w.heap.size + 2, 1, none⟩ = false := by rw [← hW]; clear hW; first | (go_simp; done) | ((repeat refine keepcell ((Below.refl _ _).alloc (Nat.le_refl _) _) ?_); go_simp; done) | (simp only [frozen?_alloc_cells]; go_simp; done)
          have : w.heap.size + 2 < W2.heap.size := World.block_lt_of_cell? W2 ⟨w.heap.size + 2, 0, none⟩ (by assumption)
          have kW2_169 : W2.cell? ⟨w.heap.size + 3, 0, none⟩ = some (.int .i64 (0)) := by rw [← hW]; clear hW; first | (go_simp; done) | ((repeat refine keepcell ((Below.refl _ _).alloc (Nat.le_refl _) _) ?_); go_simp; done) | (simp only [frozen?_alloc_cells]; go_simp; done)
          have zW2_169 : W2.frozen? ⟨w.heap.size + 3, 0, none⟩ = false := by rw [← hW]; clear hW; first | (go_simp; done) | ((repeat refine keepcell ((Below.refl _ _).alloc (Nat.le_refl _) _) ?_); go_simp; done) | (simp only [frozen?_alloc_cells]; go_simp; done)
          have kW2_170 : W2.cell? ⟨w.heap.size + 3, 1, none⟩ = some (.int .i64 (0)) := by rw [← hW]; clear hW; first | (go_simp; done) | ((repeat refine keepcell ((Below.refl _ _).alloc (Nat.le_refl _) _) ?_); go_simp; done) | (simp only [frozen?_alloc_cells]; go_simp; done)
          have zW2_170 : W2.frozen? ⟨w.heap.size + 3, 1, none⟩ = false := by rw [← hW]; clear hW; first | (go_simp; done) | ((repeat refine keepcell ((Below.refl _ _).alloc (Nat.le_refl _) _) ?_); go_simp; done) | (simp only [frozen?_alloc_cells]; go_simp; done)
          have : w.heap.size + 3 < W2.heap.size := World.block_lt_of_cell? W2 ⟨w.heap.size + 3, 0, none⟩ (by assumption)
          have kW2_171 : W2.cell? ⟨wA.heap.size, 0, none⟩ = some (.int .i64 ((qx x y 0 y'))) := by rw [← hW]; clear hW; first | (go_simp; done) | ((repeat refine keepcell ((Below.refl _ _).alloc (Nat.le_refl _) _) ?_); go_simp; done) | (simp only [frozen?_alloc_cells]; go_simp; done)
          have kW2_172 : W2.cell? ⟨wA.heap.size, 1, none⟩ = some (.int .i64 ((qy x y 0 y'))) := by rw [← hW]; clear hW; first | (go_simp; done) | ((repeat refine keepcell ((Below.refl _ _).alloc (Nat.le_refl _) _) ?_); go_simp; done) | (simp only [frozen?_alloc_cells]; go_simp; done)
          have : wA.heap.size < W2.heap.size := World.block_lt_of_cell? W2 ⟨wA.heap.size, 0, none⟩ (by assumption)
          have kW2_173 : W2.cell? ⟨wA.heap.size + 1, 0, none⟩ = some (.int .i64 ((rx x y 0 y'))) := by rw [← hW]; clear hW; first | (go_simp; done) | ((repeat refine keepcell ((Below.refl _ _).alloc (Nat.le_refl _) _) ?_); go_simp; done) | (simp only [frozen?_alloc_cells]; go_simp; done)
          have kW2_174 : W2.cell? ⟨wA.heap.size + 1, 1, none⟩ = some (.int .i64 ((ry x y 0 y'))) := by rw [← hW]; clear hW; first | (go_simp; done) | ((repeat refine keepcell ((Below.refl _ _).alloc (Nat.le_refl _) _) ?_); go_simp; done) | (simp only [frozen?_alloc_cells]; go_simp; done)
          have : wA.heap.size + 1 < W2.heap.size := World.block_lt_of_cell? W2 ⟨wA.heap.size + 1, 0, none⟩ (by assumption)
          have hBW2 : Below w.heap.size w W2 := by rw [← hW]; (repeat' (first | assumption | exact Below.refl _ _ | apply Blw.alloc | apply Blw.drew | apply Blw.drewN | (refine Blw.after ?_ (by assumption)) | (refine Blw.set ?_ (by first | (dsimp only; omega) | (simp; done) | (simp; omega)) _)))
          have hsW2 := hBW2.size
          clear hW
          try clear kW1_159; try clear kW1_160; try clear kW1_161; try clear kW1_162; try clear kW1_163; try clear zW1_163; try clear kW1_164; try clear zW1_164; try clear kW1_165; try clear zW1_165; try clear kW1_166; try clear zW1_166; try clear hbwA; try clear hkwA; try clear hlwA
          go_wp2_with (fail)
          refine (ifSmall_c _ _ _).mono ?_
          rintro e wB ⟨rfl, hbwB⟩
          have hkwB : Hld W2 wB := heldM (by (repeat' (first | assumption | exact Below.refl _ _ | apply Blw.alloc | apply Blw.drew | apply Blw.drewN | (refine Blw.after ?_ (by assumption)) | (refine Blw.set ?_ (by first | (dsimp only; omega) | (simp; done) | (simp; omega)) _))))
          have hlwB := hkwB.1
          have hswB := hkwB.2.2.2
          try (have : w.heap.size + 2 < wB.heap.size := by omega)
          try (have : w.heap.size + 3 < wB.heap.size := by omega)
          try (have : wA.heap.size < wB.heap.size := by omega)
          try (have : wA.heap.size + 1 < wB.heap.size := by omega)
          simp only [H4, res2, sel_t]
          go_wp2_with fail
          generalize hW : World.alloc _ _ = W3
          have kW3_175 : W3.cell? ⟨w.heap.size + 2, 0, none⟩ = some (.int .i64 (0)) := by rw [← hW]; clear hW; first | (go_simp; done) | ((repeat refine keepcell ((Below.refl _ _).alloc (Nat.le_refl _) _) ?_); go_simp; done) | (simp only [frozen?_alloc_cells]; go_simp; done)
          have zW3_175 : W3.frozen? ⟨w.heap.size + 2, 0, none⟩ = false := by rw [← hW]; clear hW; first | (go_simp; done) | ((repeat refine keepcell ((Below.refl _ _).alloc (Nat.le_refl _) _) ?_); go_simp; done) | (simp only [frozen?_alloc_cells]; go_simp; done)
          have kW3_176 : W3.cell? ⟨w.heap.size + 2, 1, none⟩ = some (.int .i64 (0)) := by rw [← hW]; clear hW; first | (go_simp; done) | ((repeat refine keepcell ((Below.refl _ _).alloc (Nat.le_refl _) _) ?_); go_simp; done) | (simp only [frozen?_alloc_cells]; go_simp; done)
          have zW3_176 : W3.frozen? ⟨w.heap.size + 2, 1, none⟩ = false := by rw [← hW]; clear hW; first | (go_simp; done) | ((repeat refine keepcell ((Below.refl _ _).alloc (Nat.le_refl _) _) ?_); go_simp; done) | (simp only [frozen?_alloc_cells]; go_simp; done)
          have : w.heap.size + 2 < W3.heap.size := World.block_lt_of_cell? W3 ⟨w.heap.size + 2, 0, none⟩ (by assumption)
          have kW3_177 : W3.cell? ⟨w.heap.size + 3, 0, none⟩ = some (.int .i64 (0)) := by rw [← hW]; clear hW; first | (go_simp; done) | ((repeat refine keepcell ((Below.refl _ _).alloc (Nat.le_refl _) _) ?_); go_simp; done) | (simp only [frozen?_alloc_cells]; go_simp; done)
          have zW3_177 : W3.frozen? ⟨w.heap.size + 3, 0, none⟩ = false := by rw [← hW]; clear hW; first | (go_simp; done) | ((repeat refine keepcell ((Below.refl _ _).alloc (Nat.le_refl _) _) ?_); go_simp; done) | (simp only [frozen?_alloc_cells]; go_simp; done)
          have kW3_178 : W3.cell? ⟨w.heap.size + 3, 1, none⟩ = some (.int .i64 (0)) := by rw [← hW]; clear hW; first | (go_simp; done) | ((repeat refine keepcell ((Below.refl _ _).alloc (Nat.le_refl _) _) ?_); go_simp; done) | (simp only [frozen?_alloc_cells]; go_simp; done)
          have zW3_178 : W3.frozen? ⟨w.heap.size + 3, 1, none⟩ = false := by rw [← hW]; clear hW; first | (go_simp; done) | ((repeat refine keepcell ((Below.refl _ _).alloc (Nat.le_refl _) _) ?_); go_simp; done) | (simp only [frozen?_alloc_cells]; go_simp; done)
          have : w.heap.size + 3 < W3.heap.size := World.block_lt_of_cell? W3 ⟨w.heap.size + 3, 0, none⟩ (by assumption)
          have kW3_179 : W3.cell? ⟨wA.heap.size + 1, 0, none⟩ = some (.int .i64 ((rx x y 0 y'))) := by rw [← hW]; clear hW; first | (go_simp; done) | ((repeat refine keepcell ((Below.refl _ _).alloc (Nat.le_refl _) _) ?_); go_simp; done) | (simp only [frozen?_alloc_cells]; go_simp; done)
          have kW3_180 : W3.cell? ⟨wA.heap.size + 1, 1, none⟩ = some (.int .i64 ((ry x y 0 y'))) := by rw [← hW]; clear hW; first | (go_simp; done) | ((repeat refine keepcell ((Below.refl _ _).alloc (Nat.le_refl _) _) ?_); go_simp; done) | (simp only [frozen?_alloc_cells]; go_simp; done)
          have : wA.heap.size + 1 < W3.heap.size := World.block_lt_of_cell? W3 ⟨wA.heap.size + 1, 0, none⟩ (by assumption)
          have kW3_181 : W3.cell? ⟨wB.heap.size, 0, none⟩ = some (.int .i64 ((qx x y 0 y'))) := by rw [← hW]; clear hW; first | (go_simp; done) | ((repeat refine keepcell ((Below.refl _ _).alloc (Nat.le_refl _) _) ?_); go_simp; done) | (simp only [frozen?_alloc_cells]; go_simp; done)
          have kW3_182 : W3.cell? ⟨wB.heap.size, 1, none⟩ = some (.int .i64 ((qy x y 0 y'))) := by rw [← hW]; clear hW; first | (go_simp; done) | ((repeat refine keepcell ((Below.refl _ _).alloc (Nat.le_refl _) _) ?_); go_simp; done) | (simp only [frozen?_alloc_cells]; go_simp; done)
          have : wB.heap.size < W3.heap.size := World.block_lt_of_cell? W3 ⟨wB.heap.size, 0, none⟩ (by assumption)
          have hBW3 : Below w.heap.size w W3 := by rw [← hW]; (repeat' (first | assumption | exact Below.refl _ _ | apply Blw.alloc | apply Blw.drew | apply Blw.drewN | (refine Blw.after ?_ (by assumption)) | (refine Blw.set ?_ (by first | (dsimp only; omega) | (simp; done) | (simp; omega)) _)))
          have hsW3 := hBW3.size
          clear hW
          try clear kW2_167; try clear zW2_167; try clear kW2_168; try clear zW2_168; try clear kW2_169; try clear zW2_169; try clear kW2_170; try clear zW2_170; try clear kW2_171; try clear kW2_172; try clear kW2_173; try clear kW2_174; try clear hbwB; try clear hkwB; try clear hlwB
          refine region_slots (fun _ => True) [] [(47, .is (pr (qx x y 0 y') (qy x y 0 y'))), (48, .is (pr (rx x y 0 y') (ry x y 0 y'))), (49, .is (pr (rx x y 0 y') (ry x y 0 y')))] (by kernel_rfl) (by kernel_rfl) (by kernel_rfl) (fun _ _ => trivial) (fun _ _ _ _ _ _ h => h) ?_
          simp only [Steps, List.contains_cons, List.contains_nil, Nat.reduceBEq, Nat.reduceAdd, Bool.or_false, Bool.false_or, Bool.or_true, Bool.true_or, Bool.false_eq_true, if_false, if_true]
          refine ⟨?_, ?_, ?_, ?_⟩
          · intro u w2 hH hd K hK
            simp only [setU, upd, List.map_cons, List.map_nil, List.contains_cons, List.contains_nil, Nat.reduceBEq, Nat.reduceAdd, Bool.or_false, Bool.false_or, Bool.or_true, Bool.true_or, Bool.false_eq_true, if_false, if_true, ite_true, ite_false, Nat.reduceEqDiff, beq_self_eq_true] at hK ⊢
            go_wp2_with (fail)
            exact hK _ _ (by (repeat' (first | assumption | exact Below.refl _ _ | apply Blw.alloc | apply Blw.drew | apply Blw.drewN | (refine Blw.after ?_ (by assumption)) | (refine Blw.set ?_ (by first | (dsimp only; omega) | (simp; done) | (simp; omega)) _)))) rfl
          · intro u w2 hH hd K hK
            simp only [setU, upd, List.map_cons, List.map_nil, List.contains_cons, List.contains_nil, Nat.reduceBEq, Nat.reduceAdd, Bool.or_false, Bool.false_or, Bool.or_true, Bool.true_or, Bool.false_eq_true, if_false, if_true, ite_true, ite_false, Nat.reduceEqDiff, beq_self_eq_true] at hK ⊢
            go_wp2_with (fail)
            exact hK _ _ (by (repeat' (first | assumption | exact Below.refl _ _ | apply Blw.alloc | apply Blw.drew | apply Blw.drewN | (refine Blw.after ?_ (by assumption)) | (refine Blw.set ?_ (by first | (dsimp only; omega) | (simp; done) | (simp; omega)) _)))) rfl
          · intro u w2 hH hd K hK
            have f48 : u 48 = (pr (rx x y 0 y') (ry x y 0 y')) := hd 48 (by kernel_rfl)
            simp only [setU, upd, List.map_cons, List.map_nil, List.contains_cons, List.contains_nil, Nat.reduceBEq, Nat.reduceAdd, Bool.or_false, Bool.false_or, Bool.or_true, Bool.true_or, Bool.false_eq_true, if_false, if_true, ite_true, ite_false, Nat.reduceEqDiff, beq_self_eq_true] at hK ⊢
            rw [f48] at hK ⊢
            clear f48
            go_wp2_with ((go_at_call 46; refine (gauss_c _ _ _).mono ?_; rintro e w1 ⟨rfl, hb⟩; obtain ⟨hc, hf⟩ := bcell hb; have hz := bsize hb; have hs := hb.size; try simp at hs))
            exact hK _ _ (by (repeat' (first | assumption | exact Below.refl _ _ | apply Blw.alloc | apply Blw.drew | apply Blw.drewN | (refine Blw.after ?_ (by assumption)) | (refine Blw.set ?_ (by first | (dsimp only; omega) | (simp; done) | (simp; omega)) _)))) rfl
          intro u w2 hH hF hne
          have hH1 := hH.1
          have hH2 := hH.2.2.2
          simp only [allFacts, SlotFact.h] at hF
          obtain ⟨f47, f48, f49, -⟩ := hF
          simp only [setU, upd, List.map_cons, List.map_nil, List.contains_cons, List.contains_nil, Nat.reduceBEq, Nat.reduceAdd, Bool.or_false, Bool.false_or, Bool.or_true, Bool.true_or, Bool.false_eq_true, if_false, if_true, ite_true, ite_false, Nat.reduceEqDiff, beq_self_eq_true]
          rw [f47, f48, f49]
          clear f47 f48 f49 hne
          refine wpListS_true ?_
          go_wp2_with fail
          exact bodyPost_ret (v := res3 (divB x y 0 y') (qx x y 0 y') (qy x y 0 y') (rx x y 0 y') (ry x y 0 y')) (by simp [results, Try.results15, go_sem, divB, sel_t, sel_f, *]) rfl ⟨rfl, by (repeat' (first | assumption | exact Below.refl _ _ | apply Blw.alloc | apply Blw.drew | apply Blw.drewN | (refine Blw.after ?_ (by assumption)) | (refine Blw.set ?_ (by first | (dsimp only; omega) | (simp; done) | (simp; omega)) _)))⟩
      · skip
        have H3 := nrm_pos (x := x') (y := y') (by omega)
        have H4 := inB_of (q_in H1 H3)
        go_wp2_with ((go_at_call 43; refine (small_c _ _ _).mono ?_; rintro e w1 ⟨rfl, hb⟩; have hk : Hld W1 w1 := heldM (by (repeat' (first | assumption | exact Below.refl _ _ | apply Blw.alloc | apply Blw.drew | apply Blw.drewN | (refine Blw.after ?_ (by assumption)) | (refine Blw.set ?_ (by first | (dsimp only; omega) | (simp; done) | (simp; omega)) _)))); have hk1 := hk.1))
        refine (divide_c _ _ _ _ _ H1 H2 H3).mono ?_
        rintro e wA ⟨rfl, hbwA⟩
        have hkwA : Hld W1 wA := heldM (by (repeat' (first | assumption | exact Below.refl _ _ | apply Blw.alloc | apply Blw.drew | apply Blw.drewN | (refine Blw.after ?_ (by assumption)) | (refine Blw.set ?_ (by first | (dsimp only; omega) | (simp; done) | (simp; omega)) _))))
        have hlwA := hkwA.1
        have hswA := hkwA.2.2.2
        try (have : w.heap.size + 2 < wA.heap.size := by omega)
        try (have : w.heap.size + 3 < wA.heap.size := by omega)
        try (have : wB.heap.size < wA.heap.size := by omega)
        go_wp2_with fail
        generalize hW : World.alloc _ _ = W2
        have kW2_183 : W2.cell? ⟨w.heap.size + 2, 0, none⟩ = some (.int .i64 (0)) := by rw [← hW]; clear hW; first | (go_simp; done) | ((repeat refine keepcell ((Below.refl _ _).alloc (Nat.le_refl _) _) ?_); go_simp; done) | (simp only [frozen?_alloc_cells]; go_simp; done)
        have zW2_183 : W2.frozen? ⟨w.heap.size + 2, 0, none⟩ = false := by rw [← hW]; clear hW; first | (go_simp; done) | ((repeat refine keepcell ((Below.refl _ _).alloc (Nat.le_refl _) _) ?_); go_simp; done) | (simp only [frozen?_alloc_cells]; go_simp; done)
        have kW2_184 : W2.cell? ⟨w.heap.size + 2, 1, none⟩ = some (.int .i64 (0)) := by rw [← hW]; clear hW; first | (go_simp; done) | ((repeat refine keepcell ((Below.refl _ _).alloc (Nat.le_refl _) _) ?_); go_simp; done) | (simp only [frozen?_alloc_cells]; go_simp; done)
        have zW2_184 : W2.frozen? ⟨w.heap.size + 2, 1, none⟩ = false := by rw [← hW]; clear hW; first | (go_simp; done) | ((repeat refine keepcell ((Below.refl _ _).alloc (Nat.le_refl _) _) ?_); go_simp; done) | (simp only [frozen?_alloc_cells]; go_simp; done)
        have : w.heap.size + 2 < W2.heap.size := World.block_lt_of_cell? W2 ⟨w.heap.size + 2, 0, none⟩ (by assumption)
        have kW2_185 : W2.cell? ⟨w.heap.size + 3, 0, none⟩ = some (.int .i64 (0)) := by rw [← hW]; clear hW; first | (go_simp; done) | ((repeat refine keepcell ((Below.refl _ _).alloc (Nat.le_refl _) _) ?_); go_simp; done) | (simp only [frozen?_alloc_cells]; go_simp; done)
        have zW2_185 : W2.frozen? ⟨w.heap.size + 3, 0, none⟩ = false := by rw [← hW]; clear hW; first | (go_simp; done) | ((repeat refine keepcell ((Below.refl _ _).alloc (Nat.le_refl _) _) ?_); go_simp; done) | (simp only [frozen?_alloc_cells]; go_simp; done)
        have kW2_186 : W2.cell? ⟨w.heap.size + 3, 1, none⟩ = some (.int .i64 (0)) := by rw [← hW]; clear hW; first | (go_simp; done) | ((repeat refine keepcell ((Below.refl _ _).alloc (Nat.le_refl _) _) ?_); go_simp; done) | (simp only [frozen?_alloc_cells]; go_simp; done)
        have zW2_186 : W2.frozen? ⟨w.heap.size + 3, 1, none⟩ = false := by rw [← hW]; clear hW; first | (go_simp; done) | ((repeat refine keepcell ((Below.refl _ _).alloc (Nat.le_refl _) _) ?_); go_simp; done) | (simp only [frozen?_alloc_cells]; go_simp; done)
        have : w.heap.size + 3 < W2.heap.size := World.block_lt_of_cell? W2 ⟨w.heap.size + 3, 0, none⟩ (by assumption)
        have kW2_187 : W2.cell? ⟨wA.heap.size, 0, none⟩ = some (.int .i64 ((qx x y x' y'))) := by rw [← hW]; clear hW; first | (go_simp; done) | ((repeat refine keepcell ((Below.refl _ _).alloc (Nat.le_refl _) _) ?_); go_simp; done) | (simp only [frozen?_alloc_cells]; go_simp; done)
        have kW2_188 : W2.cell? ⟨wA.heap.size, 1, none⟩ = some (.int .i64 ((qy x y x' y'))) := by rw [← hW]; clear hW; first | (go_simp; done) | ((repeat refine keepcell ((Below.refl _ _).alloc (Nat.le_refl _) _) ?_); go_simp; done) | (simp only [frozen?_alloc_cells]; go_simp; done)
        have : wA.heap.size < W2.heap.size := World.block_lt_of_cell? W2 ⟨wA.heap.size, 0, none⟩ (by assumption)
        have kW2_189 : W2.cell? ⟨wA.heap.size + 1, 0, none⟩ = some (.int .i64 ((rx x y x' y'))) := by rw [← hW]; clear hW; first | (go_simp; done) | ((repeat refine keepcell ((Below.refl _ _).alloc (Nat.le_refl _) _) ?_); go_simp; done) | (simp only [frozen?_alloc_cells]; go_simp; done)
        have kW2_190 : W2.cell? ⟨wA.heap.size + 1, 1, none⟩ = some (.int .i64 ((ry x y x' y'))) := by rw [← hW]; clear hW; first | (go_simp; done) | ((repeat refine keepcell ((Below.refl _ _).alloc (Nat.le_refl _) _) ?_); go_simp; done) | (simp only [frozen?_alloc_cells]; go_simp; done)
        have : wA.heap.size + 1 < W2.heap.size := World.block_lt_of_cell? W2 ⟨wA.heap.size + 1, 0, none⟩ (by assumption)
        have hBW2 : Below w.heap.size w W2 := by rw [← hW]; (repeat' (first | assumption | exact Below.refl _ _ | apply Blw.alloc | apply Blw.drew | apply Blw.drewN | (refine Blw.after ?_ (by assumption)) | (refine Blw.set ?_ (by first | (dsimp only; omega) | (simp; done) | (simp; omega)) _)))
        have hsW2 := hBW2.size
        clear hW
        try clear kW3_175; try clear zW3_175; try clear kW3_176; try clear zW3_176; try clear kW3_177; try clear zW3_177; try clear kW3_178; try clear zW3_178; try clear kW3_179; try clear kW3_180; try clear kW3_181; try clear kW3_182; try clear hH; try clear hH1; try clear hbwA; try clear hkwA; try clear hlwA
        go_wp2_with (fail)
        refine (ifSmall_c _ _ _).mono ?_
        rintro e wB ⟨rfl, hbwB⟩
        have hkwB : Hld W2 wB := heldM (by (repeat' (first | assumption | exact Below.refl _ _ | apply Blw.alloc | apply Blw.drew | apply Blw.drewN | (refine Blw.after ?_ (by assumption)) | (refine Blw.set ?_ (by first | (dsimp only; omega) | (simp; done) | (simp; omega)) _))))
        have hlwB := hkwB.1
        have hswB := hkwB.2.2.2
        try (have : w.heap.size + 2 < wB.heap.size := by omega)
        try (have : w.heap.size + 3 < wB.heap.size := by omega)
        try (have : wA.heap.size < wB.heap.size := by omega)
        try (have : wA.heap.size + 1 < wB.heap.size := by omega)
        simp only [H4, res2, sel_t]
        go_wp2_with fail
        generalize hW : World.alloc _ _ = W3
        have kW3_191 : W3.cell? ⟨w.heap.size + 2, 0, none⟩ = some (.int .i64 (0)) := by rw [← hW]; clear hW; first | (go_simp; done) | ((repeat refine keepcell ((Below.refl _ _).alloc (Nat.le_refl _) _) ?_); go_simp; done) | (simp only [frozen?_alloc_cells]; go_simp; done)
        have zW3_191 : W3.frozen? ⟨w.heap.size + 2, 0, none⟩ = false := by rw [← hW]; clear hW; first | (go_simp; done) | ((repeat refine keepcell ((Below.refl _ _).alloc (Nat.le_refl _) _) ?_); go_simp; done) | (simp only [frozen?_alloc_cells]; go_simp; done)
        have kW3_192 : W3.cell? ⟨w.heap.size + 2, 1, none⟩ = some (.int .i64 (0)) := by rw [← hW]; clear hW; first | (go_simp; done) | ((repeat refine keepcell ((Below.refl _ _).alloc (Nat.le_refl _) _) ?_); go_simp; done) | (simp only [frozen?_alloc_cells]; go_simp; done)
        have zW3_192 : W3.frozen? ⟨w.heap.size + 2, 1, none⟩ = false := by rw [← hW]; clear hW; first | (go_simp; done) | ((repeat refine keepcell ((Below.refl _ _).alloc (Nat.le_refl _) _) ?_); go_simp; done) | (simp only [frozen?_alloc_cells]; go_simp; done)
        have : w.heap.size + 2 < W3.heap.size := World.block_lt_of_cell? W3 ⟨w.heap.size + 2, 0, none⟩ (by assumption)
        have kW3_193 : W3.cell? ⟨w.heap.size + 3, 0, none⟩ = some (.int .i64 (0)) := by rw [← hW]; clear hW; first | (go_simp; done) | ((repeat refine keepcell ((Below.refl _ _).alloc (Nat.le_refl _) _) ?_); go_simp; done) | (simp only [frozen?_alloc_cells]; go_simp; done)
        have zW3_193 : W3.frozen? ⟨w.heap.size + 3, 0, none⟩ = false := by rw [← hW]; clear hW; first | (go_simp; done) | ((repeat refine keepcell ((Below.refl _ _).alloc (Nat.le_refl _) _) ?_); go_simp; done) | (simp only [frozen?_alloc_cells]; go_simp; done)
        have kW3_194 : W3.cell? ⟨w.heap.size + 3, 1, none⟩ = some (.int .i64 (0)) := by rw [← hW]; clear hW; first | (go_simp; done) | ((repeat refine keepcell ((Below.refl _ _).alloc (Nat.le_refl _) _) ?_); go_simp; done) | (simp only [frozen?_alloc_cells]; go_simp; done)
        have zW3_194 : W3.frozen? ⟨w.heap.size + 3, 1, none⟩ = false := by rw [← hW]; clear hW; first | (go_simp; done) | ((repeat refine keepcell ((Below.refl _ _).alloc (Nat.le_refl _) _) ?_); go_simp; done) | (simp only [frozen?_alloc_cells]; go_simp; done)
        have : w.heap.size + 3 < W3.heap.size := World.block_lt_of_cell? W3 ⟨w.heap.size + 3, 0, none⟩ (by assumption)
        have kW3_195 : W3.cell? ⟨wA.heap.size + 1, 0, none⟩ = some (.int .i64 ((rx x y x' y'))) := by rw [← hW]; clear hW; first | (go_simp; done) | ((repeat refine keepcell ((Below.refl _ _).alloc (Nat.le_refl _) _) ?_); go_simp; done) | (simp only [frozen?_alloc_cells]; go_simp; done)
        have kW3_196 : W3.cell? ⟨wA.heap.size + 1, 1, none⟩ = some (.int .i64 ((ry x y x' y'))) := by rw [← hW]; clear hW; first | (go_simp; done) | ((repeat refine keepcell ((Below.refl _ _).alloc (Nat.le_refl _) _) ?_); go_simp; done) | (simp only [frozen?_alloc_cells]; go_simp; done)
        have : wA.heap.size + 1 < W3.heap.size := World.block_lt_of_cell? W3 ⟨wA.heap.size + 1, 0, none⟩ (by assumption)
        have kW3_197 : W3.cell? ⟨wB.heap.size, 0, none⟩ = some (.int .i64 ((qx x y x' y'))) := by rw [← hW]; clear hW; first | (go_simp; done) | ((repeat refine keepcell ((Below.refl _ _).alloc (Nat.le_refl _) _) ?_); go_simp; done) | (simp only [frozen?_alloc_cells]; go_simp; done)
        have kW3_198 : W3.cell? ⟨wB.heap.size, 1, none⟩ = some (.int .i64 ((qy x y x' y'))) := by rw [← hW]; clear hW; first | (go_simp; done) | ((repeat refine keepcell ((Below.refl _ _).alloc (Nat.le_refl _) _) ?_); go_simp; done) | (simp only [frozen?_alloc_cells]; go_simp; done)
        have : wB.heap.size < W3.heap.size := World.block_lt_of_cell? W3 ⟨wB.heap.size, 0, none⟩ (by assumption)
        have hBW3 : Below w.heap.size w W3 := by rw [← hW]; (repeat' (first | assumption | exact Below.refl _ _ | apply Blw.alloc | apply Blw.drew | apply Blw.drewN | (refine Blw.after ?_ (by assumption)) | (refine Blw.set ?_ (by first | (dsimp only; omega) | (simp; done) | (simp; omega)) _)))
        have hsW3 := hBW3.size
        clear hW
        try clear kW2_183; try clear zW2_183; try clear kW2_184; try clear zW2_184; try clear kW2_185; try clear zW2_185; try clear kW2_186; try clear zW2_186; try clear kW2_187; try clear kW2_188; try clear kW2_189; try clear kW2_190; try clear hbwB; try clear hkwB; try clear hlwB
        refine region_slots (fun _ => True) [] [(47, .is (pr (qx x y x' y') (qy x y x' y'))), (48, .is (pr (rx x y x' y') (ry x y x' y'))), (49, .is (pr (rx x y x' y') (ry x y x' y')))] (by kernel_rfl) (by kernel_rfl) (by kernel_rfl) (fun _ _ => trivial) (fun _ _ _ _ _ _ h => h) ?_
        simp only [Steps, List.contains_cons, List.contains_nil, Nat.reduceBEq, Nat.reduceAdd, Bool.or_false, Bool.false_or, Bool.or_true, Bool.true_or, Bool.false_eq_true, if_false, if_true]
        refine ⟨?_, ?_, ?_, ?_⟩
        · intro u w2 hH hd K hK
          simp only [setU, upd, List.map_cons, List.map_nil, List.contains_cons, List.contains_nil, Nat.reduceBEq, Nat.reduceAdd, Bool.or_false, Bool.false_or, Bool.or_true, Bool.true_or, Bool.false_eq_true, if_false, if_true, ite_true, ite_false, Nat.reduceEqDiff, beq_self_eq_true] at hK ⊢
          go_wp2_with (fail)
          exact hK _ _ (by (repeat' (first | assumption | exact Below.refl _ _ | apply Blw.alloc | apply Blw.drew | apply Blw.drewN | (refine Blw.after ?_ (by assumption)) | (refine Blw.set ?_ (by first | (dsimp only; omega) | (simp; done) | (simp; omega)) _)))) rfl
        · intro u w2 hH hd K hK
          simp only [setU, upd, List.map_cons, List.map_nil, List.contains_cons, List.contains_nil, Nat.reduceBEq, Nat.reduceAdd, Bool.or_false, Bool.false_or, Bool.or_true, Bool.true_or, Bool.false_eq_true, if_false, if_true, ite_true, ite_false, Nat.reduceEqDiff, beq_self_eq_true] at hK ⊢
          go_wp2_with (fail)
          exact hK _ _ (by (repeat' (first | assumption | exact Below.refl _ _ | apply Blw.alloc | apply Blw.drew | apply Blw.drewN | (refine Blw.after ?_ (by assumption)) | (refine Blw.set ?_ (by first | (dsimp only; omega) | (simp; done) | (simp; omega)) _)))) rfl
        · intro u w2 hH hd K hK
          have f48 : u 48 = (pr (rx x y x' y') (ry x y x' y')) := hd 48 (by kernel_rfl)
          simp only [setU, upd, List.map_cons, List.map_nil, List.contains_cons, List.contains_nil, Nat.reduceBEq, Nat.reduceAdd, Bool.or_false, Bool.false_or, Bool.or_true, Bool.true_or, Bool.false_eq_true, if_false, if_true, ite_true, ite_false, Nat.reduceEqDiff, beq_self_eq_true] at hK ⊢
          rw [f48] at hK ⊢
          clear f48
          go_wp2_with ((go_at_call 46; refine (gauss_c _ _ _).mono ?_; rintro e w1 ⟨rfl, hb⟩; obtain ⟨hc, hf⟩ := bcell hb; have hz := bsize hb; have hs := hb.size; try simp at hs))
          exact hK _ _ (by (repeat' (first | assumption | exact Below.refl _ _ | apply Blw.alloc | apply Blw.drew | apply Blw.drewN | (refine Blw.after ?_ (by assumption)) | (refine Blw.set ?_ (by first | (dsimp only; omega) | (simp; done) | (simp; omega)) _)))) rfl
        intro u w2 hH hF hne
        have hH1 := hH.1
        have hH2 := hH.2.2.2
        simp only [allFacts, SlotFact.h] at hF
        obtain ⟨f47, f48, f49, -⟩ := hF
        simp only [setU, upd, List.map_cons, List.map_nil, List.contains_cons, List.contains_nil, Nat.reduceBEq, Nat.reduceAdd, Bool.or_false, Bool.false_or, Bool.or_true, Bool.true_or, Bool.false_eq_true, if_false, if_true, ite_true, ite_false, Nat.reduceEqDiff, beq_self_eq_true]
        rw [f47, f48, f49]
        clear f47 f48 f49 hne
        refine wpListS_true ?_
        go_wp2_with fail
        exact bodyPost_ret (v := res3 (divB x y x' y') (qx x y x' y') (qy x y x' y') (rx x y x' y') (ry x y x' y')) (by simp [results, Try.results15, go_sem, divB, sel_t, sel_f, *]) rfl ⟨rfl, by (repeat' (first | assumption | exact Below.refl _ _ | apply Blw.alloc | apply Blw.drew | apply Blw.drewN | (refine Blw.after ?_ (by assumption)) | (refine Blw.set ?_ (by first | (dsimp only; omega) | (simp; done) | (simp; omega)) _)))⟩
    · go_wp2_with (go_at_call 43; refine (small_c _ _ _).mono ?_; rintro e w1 ⟨rfl, hb⟩; have hk : Hld W1 w1 := heldM (by (repeat' (first | assumption | exact Below.refl _ _ | apply Blw.alloc | apply Blw.drew | apply Blw.drewN | (refine Blw.after ?_ (by assumption)) | (refine Blw.set ?_ (by first | (dsimp only; omega) | (simp; done) | (simp; omega)) _)))); have hk1 := hk.1)
      exact bodyPost_ret (v := (res3 (divB x y x' y') (qx x y x' y') (qy x y x' y') (rx x y x' y') (ry x y x' y'))) (by simp [results, Try.results15, go_sem, divB, sel_t, sel_f, *]) rfl ⟨rfl, by (repeat' (first | assumption | exact Below.refl _ _ | apply Blw.alloc | apply Blw.drew | apply Blw.drewN | (refine Blw.after ?_ (by assumption)) | (refine Blw.set ?_ (by first | (dsimp only; omega) | (simp; done) | (simp; omega)) _)))⟩
  · go_wp2_with (go_at_call 43; refine (small_c _ _ _).mono ?_; rintro e w1 ⟨rfl, hb⟩; have hk : Hld W1 w1 := heldM (by (repeat' (first | assumption | exact Below.refl _ _ | apply Blw.alloc | apply Blw.drew | apply Blw.drewN | (refine Blw.after ?_ (by assumption)) | (refine Blw.set ?_ (by first | (dsimp only; omega) | (simp; done) | (simp; omega)) _)))); have hk1 := hk.1)
    exact bodyPost_ret (v := (res3 (divB x y x' y') (qx x y x' y') (qy x y x' y') (rx x y x' y') (ry x y x' y'))) (by simp [results, Try.results15, go_sem, divB, sel_t, sel_f, *]) rfl ⟨rfl, by (repeat' (first | assumption | exact Below.refl _ _ | apply Blw.alloc | apply Blw.drew | apply Blw.drewN | (refine Blw.after ?_ (by assumption)) | (refine Blw.set ?_ (by first | (dsimp only; omega) | (simp; done) | (simp; omega)) _)))⟩
end Go.Proofs.Ytppalpcfokacdaa

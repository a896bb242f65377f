/- Chapter 1: GaussGcd, the program's. -/
import Derived.Test.YtglieacjpdpmnaaGj
namespace Go.Proofs.Ytglieacjpdpmnaa
set_option linter.unusedSimpArgs false
set_option linter.unusedVariables false
open Go.RowKit
set_option maxHeartbeats 8000000 in
theorem iGaussGcd_c (x y x' y' : Int) (w : World) : Calls Try.prog 27 #[pr x y, pr x' y'] w fun e w' => e = .returned (res2 (gcdB x y x' y') (firstX (gcdX x y x' y') (gcdY x y x' y')) (firstY (gcdX x y x' y') (gcdY x y x' y'))) ∧ Below w.heap.size w w' := by
  rcases Bool.eq_false_or_eq_true (inB 1000000 x y) with h1 | h1
  · rcases Bool.eq_false_or_eq_true (inB 1000000 x' y') with h2 | h2
    · by_cases hz : (x = 0 ∧ y = 0) ∧ x' = 0 ∧ y' = 0
      · obtain ⟨⟨rfl, rfl⟩, rfl, rfl⟩ := hz
        go_enter Try.func27, Try.ntmps27
        go_wp2_with fail
        generalize hW : World.alloc _ _ = W0
        have kW0_271 : W0.cell? ⟨w.heap.size, 0, none⟩ = some (.int .i64 (0)) := by rw [← hW]; clear hW; first | (go_simp; done) | ((repeat refine keepcell ((Below.refl _ _).alloc (Nat.le_refl _) _) ?_); go_simp; done) | (simp only [frozen?_alloc_cells]; go_simp; done)
        have kW0_272 : W0.cell? ⟨w.heap.size, 1, none⟩ = some (.int .i64 (0)) := by rw [← hW]; clear hW; first | (go_simp; done) | ((repeat refine keepcell ((Below.refl _ _).alloc (Nat.le_refl _) _) ?_); go_simp; done) | (simp only [frozen?_alloc_cells]; go_simp; done)
        have : w.heap.size < W0.heap.size := World.block_lt_of_cell? W0 ⟨w.heap.size, 0, none⟩ (by assumption)
        have kW0_273 : W0.cell? ⟨w.heap.size + 1, 0, none⟩ = some (.int .i64 (0)) := by rw [← hW]; clear hW; first | (go_simp; done) | ((repeat refine keepcell ((Below.refl _ _).alloc (Nat.le_refl _) _) ?_); go_simp; done) | (simp only [frozen?_alloc_cells]; go_simp; done)
        have kW0_274 : W0.cell? ⟨w.heap.size + 1, 1, none⟩ = some (.int .i64 (0)) := by rw [← hW]; clear hW; first | (go_simp; done) | ((repeat refine keepcell ((Below.refl _ _).alloc (Nat.le_refl _) _) ?_); go_simp; done) | (simp only [frozen?_alloc_cells]; go_simp; done)
        have : w.heap.size + 1 < W0.heap.size := World.block_lt_of_cell? W0 ⟨w.heap.size + 1, 0, none⟩ (by assumption)
        have kW0_275 : W0.cell? ⟨w.heap.size + 2, 0, none⟩ = some (.int .i64 (0)) := by rw [← hW]; clear hW; first | (go_simp; done) | ((repeat refine keepcell ((Below.refl _ _).alloc (Nat.le_refl _) _) ?_); go_simp; done) | (simp only [frozen?_alloc_cells]; go_simp; done)
        have zW0_275 : W0.frozen? ⟨w.heap.size + 2, 0, none⟩ = false := by rw [← hW]; clear hW; first | (go_simp; done) | ((repeat refine keepcell ((Below.refl _ _).alloc (Nat.le_refl _) _) ?_); go_simp; done) | (simp only [frozen?_alloc_cells]; go_simp; done)
        have kW0_276 : W0.cell? ⟨w.heap.size + 2, 1, none⟩ = some (.int .i64 (0)) := by rw [← hW]; clear hW; first | (go_simp; done) | ((repeat refine keepcell ((Below.refl _ _).alloc (Nat.le_refl _) _) ?_); go_simp; done) | (simp only [frozen?_alloc_cells]; go_simp; done)
        have zW0_276 : W0.frozen? ⟨w.heap.size + 2, 1, none⟩ = false := by rw [← hW]; clear hW; first | (go_simp; done) | ((repeat refine keepcell ((Below.refl _ _).alloc (Nat.le_refl _) _) ?_); go_simp; done) | (simp only [frozen?_alloc_cells]; go_simp; done)
        have : w.heap.size + 2 < W0.heap.size := World.block_lt_of_cell? W0 ⟨w.heap.size + 2, 0, none⟩ (by assumption)
        have hBW0 : Below w.heap.size w W0 := by rw [← hW]; (repeat' (first | assumption | exact Below.refl _ _ | apply Blw.alloc | apply Blw.drew | apply Blw.drewN | (refine Blw.after ?_ (by assumption)) | (refine Blw.set ?_ (by first | (dsimp only; omega) | (simp; done) | (simp; omega)) _)))
        have hsW0 := hBW0.size
        clear hW
        refine region_slots (fun _ => True) [] [(10, .is (pr 0 0)), (11, .is (pr 0 0)), (12, .is (pr 0 0)), (13, .is (pr 0 0)), (6, .own [.int .i64 0, .int .i64 0]), (7, .own [.int .i64 0, .int .i64 0])] (by kernel_rfl) (by kernel_rfl) (by kernel_rfl) (fun _ _ => trivial) (fun _ _ _ _ _ _ h => h) ?_
        simp only [Steps, List.contains_cons, List.contains_nil, Nat.reduceBEq, Nat.reduceAdd, Bool.or_false, Bool.false_or, Bool.or_true, Bool.true_or, Bool.false_eq_true, if_false, if_true]
        refine ⟨?_, ?_, ?_, ?_, ?_, ?_, ?_⟩
        · intro u w2 hH hd K hK
          simp only [setU, upd, List.map_cons, List.map_nil, List.contains_cons, List.contains_nil, Nat.reduceBEq, Nat.reduceAdd, Bool.or_false, Bool.false_or, Bool.or_true, Bool.true_or, Bool.false_eq_true, if_false, if_true, ite_true, ite_false, Nat.reduceEqDiff, beq_self_eq_true] at hK ⊢
          go_wp2_with (fail)
          exact hK _ _ (by (repeat' (first | assumption | exact Below.refl _ _ | apply Blw.alloc | apply Blw.drew | apply Blw.drewN | (refine Blw.after ?_ (by assumption)) | (refine Blw.set ?_ (by first | (dsimp only; omega) | (simp; done) | (simp; omega)) _)))) rfl
        · intro u w2 hH hd K hK
          have f10 : u 10 = (pr 0 0) := hd 10 (by kernel_rfl)
          simp only [setU, upd, List.map_cons, List.map_nil, List.contains_cons, List.contains_nil, Nat.reduceBEq, Nat.reduceAdd, Bool.or_false, Bool.false_or, Bool.or_true, Bool.true_or, Bool.false_eq_true, if_false, if_true, ite_true, ite_false, Nat.reduceEqDiff, beq_self_eq_true] at hK ⊢
          rw [f10] at hK ⊢
          clear f10
          go_wp2_with ((go_at_call 34; refine (gPair_c _ _ _).mono ?_; rintro e w1 ⟨rfl, hb⟩; obtain ⟨hc, hf⟩ := bcell hb; have hz := bsize hb; have hs := hb.size; try simp at hs))
          exact hK _ _ (by (repeat' (first | assumption | exact Below.refl _ _ | apply Blw.alloc | apply Blw.drew | apply Blw.drewN | (refine Blw.after ?_ (by assumption)) | (refine Blw.set ?_ (by first | (dsimp only; omega) | (simp; done) | (simp; omega)) _)))) rfl
        · intro u w2 hH hd K hK
          simp only [setU, upd, List.map_cons, List.map_nil, List.contains_cons, List.contains_nil, Nat.reduceBEq, Nat.reduceAdd, Bool.or_false, Bool.false_or, Bool.or_true, Bool.true_or, Bool.false_eq_true, if_false, if_true, ite_true, ite_false, Nat.reduceEqDiff, beq_self_eq_true] at hK ⊢
          go_wp2_with (fail)
          exact hK _ _ (by (repeat' (first | assumption | exact Below.refl _ _ | apply Blw.alloc | apply Blw.drew | apply Blw.drewN | (refine Blw.after ?_ (by assumption)) | (refine Blw.set ?_ (by first | (dsimp only; omega) | (simp; done) | (simp; omega)) _)))) rfl
        · intro u w2 hH hd K hK
          have f12 : u 12 = (pr 0 0) := hd 12 (by kernel_rfl)
          simp only [setU, upd, List.map_cons, List.map_nil, List.contains_cons, List.contains_nil, Nat.reduceBEq, Nat.reduceAdd, Bool.or_false, Bool.false_or, Bool.or_true, Bool.true_or, Bool.false_eq_true, if_false, if_true, ite_true, ite_false, Nat.reduceEqDiff, beq_self_eq_true] at hK ⊢
          rw [f12] at hK ⊢
          clear f12
          go_wp2_with ((go_at_call 34; refine (gPair_c _ _ _).mono ?_; rintro e w1 ⟨rfl, hb⟩; obtain ⟨hc, hf⟩ := bcell hb; have hz := bsize hb; have hs := hb.size; try simp at hs))
          exact hK _ _ (by (repeat' (first | assumption | exact Below.refl _ _ | apply Blw.alloc | apply Blw.drew | apply Blw.drewN | (refine Blw.after ?_ (by assumption)) | (refine Blw.set ?_ (by first | (dsimp only; omega) | (simp; done) | (simp; omega)) _)))) rfl
        · intro u w2 hH hd K hK
          simp only [setU, upd, List.map_cons, List.map_nil, List.contains_cons, List.contains_nil, Nat.reduceBEq, Nat.reduceAdd, Bool.or_false, Bool.false_or, Bool.or_true, Bool.true_or, Bool.false_eq_true, if_false, if_true, ite_true, ite_false, Nat.reduceEqDiff, beq_self_eq_true] at hK ⊢
          go_wp2_with (fail)
          exact hK _ _ (by (repeat' (first | assumption | exact Below.refl _ _ | apply Blw.alloc | apply Blw.drew | apply Blw.drewN | (refine Blw.after ?_ (by assumption)) | (refine Blw.set ?_ (by first | (dsimp only; omega) | (simp; done) | (simp; omega)) _)))) (OwnP.new _ _ _)
        · intro u w2 hH hd K hK
          simp only [setU, upd, List.map_cons, List.map_nil, List.contains_cons, List.contains_nil, Nat.reduceBEq, Nat.reduceAdd, Bool.or_false, Bool.false_or, Bool.or_true, Bool.true_or, Bool.false_eq_true, if_false, if_true, ite_true, ite_false, Nat.reduceEqDiff, beq_self_eq_true] at hK ⊢
          go_wp2_with (fail)
          exact hK _ _ (by (repeat' (first | assumption | exact Below.refl _ _ | apply Blw.alloc | apply Blw.drew | apply Blw.drewN | (refine Blw.after ?_ (by assumption)) | (refine Blw.set ?_ (by first | (dsimp only; omega) | (simp; done) | (simp; omega)) _)))) (OwnP.new _ _ _)
        intro u w2 hH hF hne
        have hH1 := hH.1
        have hH2 := hH.2.2.2
        simp only [allFacts, SlotFact.h] at hF
        obtain ⟨f10, f11, f12, f13, ⟨b6, f6, g6, l6, k6, z6⟩, ⟨b7, f7, g7, l7, k7, z7⟩, -⟩ := hF
        have n6_7 : b6 ≠ b7 := by have h := hne 6 7 (by kernel_rfl) (by kernel_rfl) (by decide); rw [f6, f7] at h; exact h
        simp only [setU, upd, List.map_cons, List.map_nil, List.contains_cons, List.contains_nil, Nat.reduceBEq, Nat.reduceAdd, Bool.or_false, Bool.false_or, Bool.or_true, Bool.true_or, Bool.false_eq_true, if_false, if_true, ite_true, ite_false, Nat.reduceEqDiff, beq_self_eq_true]
        rw [f10, f11, f12, f13, f6, f7]
        clear f10 f11 f12 f13 f6 f7 hne
        have c6_0 := k6 0 _ rfl
        have e6_0 := z6 0 (by simp)
        have c6_1 := k6 1 _ rfl
        have e6_1 := z6 1 (by simp)
        clear k6 z6
        have c7_0 := k7 0 _ rfl
        have e7_0 := z7 0 (by simp)
        have c7_1 := k7 1 _ rfl
        have e7_1 := z7 1 (by simp)
        clear k7 z7
        refine wpListS_true ?_
        have gg6 : w.heap.size + 2 < b6 := by omega
        have gg7 : w.heap.size + 2 < b7 := by omega
        go_wp2_with fail
        generalize hW : World.setCell _ _ _ = W1
        have kW1_277 : W1.cell? ⟨b6, 0, none⟩ = some (.int .i64 (0)) := by rw [← hW]; clear hW; first | (go_simp; done) | ((repeat refine keepcell ((Below.refl _ _).alloc (Nat.le_refl _) _) ?_); go_simp; done) | (simp only [frozen?_alloc_cells]; go_simp; done)
        have zW1_277 : W1.frozen? ⟨b6, 0, none⟩ = false := by rw [← hW]; clear hW; first | (go_simp; done) | ((repeat refine keepcell ((Below.refl _ _).alloc (Nat.le_refl _) _) ?_); go_simp; done) | (simp only [frozen?_alloc_cells]; go_simp; done)
        have kW1_278 : W1.cell? ⟨b6, 1, none⟩ = some (.int .i64 (0)) := by rw [← hW]; clear hW; first | (go_simp; done) | ((repeat refine keepcell ((Below.refl _ _).alloc (Nat.le_refl _) _) ?_); go_simp; done) | (simp only [frozen?_alloc_cells]; go_simp; done)
        have zW1_278 : W1.frozen? ⟨b6, 1, none⟩ = false := by rw [← hW]; clear hW; first | (go_simp; done) | ((repeat refine keepcell ((Below.refl _ _).alloc (Nat.le_refl _) _) ?_); go_simp; done) | (simp only [frozen?_alloc_cells]; go_simp; done)
        have : b6 < W1.heap.size := World.block_lt_of_cell? W1 ⟨b6, 0, none⟩ (by assumption)
        have kW1_279 : W1.cell? ⟨b7, 0, none⟩ = some (.int .i64 (0)) := by rw [← hW]; clear hW; first | (go_simp; done) | ((repeat refine keepcell ((Below.refl _ _).alloc (Nat.le_refl _) _) ?_); go_simp; done) | (simp only [frozen?_alloc_cells]; go_simp; done)
        have zW1_279 : W1.frozen? ⟨b7, 0, none⟩ = false := by rw [← hW]; clear hW; first | (go_simp; done) | ((repeat refine keepcell ((Below.refl _ _).alloc (Nat.le_refl _) _) ?_); go_simp; done) | (simp only [frozen?_alloc_cells]; go_simp; done)
        have kW1_280 : W1.cell? ⟨b7, 1, none⟩ = some (.int .i64 (0)) := by rw [← hW]; clear hW; first | (go_simp; done) | ((repeat refine keepcell ((Below.refl _ _).alloc (Nat.le_refl _) _) ?_); go_simp; done) | (simp only [frozen?_alloc_cells]; go_simp; done)
        have zW1_280 : W1.frozen? ⟨b7, 1, none⟩ = false := by rw [← hW]; clear hW; first | (go_simp; done) | ((repeat refine keepcell ((Below.refl _ _).alloc (Nat.le_refl _) _) ?_); go_simp; done) | (simp only [frozen?_alloc_cells]; go_simp; done)
        have : b7 < W1.heap.size := World.block_lt_of_cell? W1 ⟨b7, 0, none⟩ (by assumption)
        have kW1_281 : W1.cell? ⟨w.heap.size + 2, 0, none⟩ = some (.int .i64 (0)) := by rw [← hW]; clear hW; first | (go_simp; done) | ((repeat refine keepcell ((Below.refl _ _).alloc (Nat.le_refl _) _) ?_); go_simp; done) | (simp only [frozen?_alloc_cells]; go_simp; done)
        have zW1_281 : W1.frozen? ⟨w.heap.size + 2, 0, none⟩ = false := by rw [← hW]; clear hW; first | (go_simp; done) | ((repeat refine keepcell ((Below.refl _ _).alloc (Nat.le_refl _) _) ?_); go_simp; done) | (simp only [frozen?_alloc_cells]; go_simp; done)
        have kW1_282 : W1.cell? ⟨w.heap.size + 2, 1, none⟩ = some (.int .i64 (0)) := by rw [← hW]; clear hW; first | (go_simp; done) | ((repeat refine keepcell ((Below.refl _ _).alloc (Nat.le_refl _) _) ?_); go_simp; done) | (simp only [frozen?_alloc_cells]; go_simp; done)
        have zW1_282 : W1.frozen? ⟨w.heap.size + 2, 1, none⟩ = false := by rw [← hW]; clear hW; first | (go_simp; done) | ((repeat refine keepcell ((Below.refl _ _).alloc (Nat.le_refl _) _) ?_); go_simp; done) | (simp only [frozen?_alloc_cells]; go_simp; done)
        have : w.heap.size + 2 < W1.heap.size := World.block_lt_of_cell? W1 ⟨w.heap.size + 2, 0, none⟩ (by assumption)
        have hBW1 : Below w.heap.size w W1 := by rw [← hW]; (repeat' (first | assumption | exact Below.refl _ _ | apply Blw.alloc | apply Blw.drew | apply Blw.drewN | (refine Blw.after ?_ (by assumption)) | (refine Blw.set ?_ (by first | (dsimp only; omega) | (simp; done) | (simp; omega)) _)))
        have hsW1 := hBW1.size
        clear hW
        try clear kW0_271; try clear kW0_272; try clear kW0_273; try clear kW0_274; try clear kW0_275; try clear zW0_275; try clear kW0_276; try clear zW0_276; try clear hH; try clear hH1; try clear c6_0; try clear e6_0; try clear c6_1; try clear e6_1; try clear c7_0; try clear e7_0; try clear c7_1; try clear e7_1
        go_wp2_with (go_at_call 35; refine (small_c _ _ _).mono ?_; rintro e w1 ⟨rfl, hb⟩; have hk : Hld W1 w1 := heldM (by (repeat' (first | assumption | exact Below.refl _ _ | apply Blw.alloc | apply Blw.drew | apply Blw.drewN | (refine Blw.after ?_ (by assumption)) | (refine Blw.set ?_ (by first | (dsimp only; omega) | (simp; done) | (simp; omega)) _)))); have hk1 := hk.1)
        exact bodyPost_ret (v := res2 (gcdB 0 0 0 0) (firstX (gcdX 0 0 0 0) (gcdY 0 0 0 0)) (firstY (gcdX 0 0 0 0) (gcdY 0 0 0 0))) (by simp [results, Try.results27, go_sem, gcdB, sel_t, sel_f, *]) rfl ⟨rfl, by (repeat' (first | assumption | exact Below.refl _ _ | apply Blw.alloc | apply Blw.drew | apply Blw.drewN | (refine Blw.after ?_ (by assumption)) | (refine Blw.set ?_ (by first | (dsimp only; omega) | (simp; done) | (simp; omega)) _)))⟩
      · have HX := Lib.hid (inB_le h1)
        have HY := Lib.hid (inB_le h2)
        have HB := Lib.hid (show gcdB x y x' y' = true by unfold gcdB; rw [h1, h2]; simp; omega)
        have T : ¬ x = 0 ∨ (x = 0 ∧ ¬ y = 0) ∨ (x = 0 ∧ y = 0 ∧ ¬ x' = 0) ∨ (x = 0 ∧ y = 0 ∧ x' = 0 ∧ ¬ y' = 0) := by omega
        clear hz
        rcases T with T | ⟨rfl, T⟩ | ⟨rfl, rfl, T⟩ | ⟨rfl, rfl, rfl, T⟩
        · go_enter Try.func27, Try.ntmps27
          go_wp2_with fail
          generalize hW : World.alloc _ _ = W0
          have kW0_283 : W0.cell? ⟨w.heap.size, 0, none⟩ = some (.int .i64 (x)) := by rw [← hW]; clear hW; first | (go_simp; done) | ((repeat refine keepcell ((Below.refl _ _).alloc (Nat.le_refl _) _) ?_); go_simp; done) | (simp only [frozen?_alloc_cells]; go_simp; done)
          have kW0_284 : W0.cell? ⟨w.heap.size, 1, none⟩ = some (.int .i64 (y)) := by rw [← hW]; clear hW; first | (go_simp; done) | ((repeat refine keepcell ((Below.refl _ _).alloc (Nat.le_refl _) _) ?_); go_simp; done) | (simp only [frozen?_alloc_cells]; go_simp; done)
          have : w.heap.size < W0.heap.size := World.block_lt_of_cell? W0 ⟨w.heap.size, 0, none⟩ (by assumption)
          have kW0_285 : W0.cell? ⟨w.heap.size + 1, 0, none⟩ = some (.int .i64 (x')) := by rw [← hW]; clear hW; first | (go_simp; done) | ((repeat refine keepcell ((Below.refl _ _).alloc (Nat.le_refl _) _) ?_); go_simp; done) | (simp only [frozen?_alloc_cells]; go_simp; done)
          have kW0_286 : W0.cell? ⟨w.heap.size + 1, 1, none⟩ = some (.int .i64 (y')) := by rw [← hW]; clear hW; first | (go_simp; done) | ((repeat refine keepcell ((Below.refl _ _).alloc (Nat.le_refl _) _) ?_); go_simp; done) | (simp only [frozen?_alloc_cells]; go_simp; done)
          have : w.heap.size + 1 < W0.heap.size := World.block_lt_of_cell? W0 ⟨w.heap.size + 1, 0, none⟩ (by assumption)
          have kW0_287 : W0.cell? ⟨w.heap.size + 2, 0, none⟩ = some (.int .i64 (0)) := by rw [← hW]; clear hW; first | (go_simp; done) | ((repeat refine keepcell ((Below.refl _ _).alloc (Nat.le_refl _) _) ?_); go_simp; done) | (simp only [frozen?_alloc_cells]; go_simp; done)
          have zW0_287 : W0.frozen? ⟨w.heap.size + 2, 0, none⟩ = false := by rw [← hW]; clear hW; first | (go_simp; done) | ((repeat refine keepcell ((Below.refl _ _).alloc (Nat.le_refl _) _) ?_); go_simp; done) | (simp only [frozen?_alloc_cells]; go_simp; done)
          have kW0_288 : W0.cell? ⟨w.heap.size + 2, 1, none⟩ = some (.int .i64 (0)) := by rw [← hW]; clear hW; first | (go_simp; done) | ((repeat refine keepcell ((Below.refl _ _).alloc (Nat.le_refl _) _) ?_); go_simp; done) | (simp only [frozen?_alloc_cells]; go_simp; done)
          have zW0_288 : W0.frozen? ⟨w.heap.size + 2, 1, none⟩ = false := by rw [← hW]; clear hW; first | (go_simp; done) | ((repeat refine keepcell ((Below.refl _ _).alloc (Nat.le_refl _) _) ?_); go_simp; done) | (simp only [frozen?_alloc_cells]; go_simp; done)
          have : w.heap.size + 2 < W0.heap.size := World.block_lt_of_cell? W0 ⟨w.heap.size + 2, 0, none⟩ (by assumption)
          have hBW0 : Below w.heap.size w W0 := by rw [← hW]; (repeat' (first | assumption | exact Below.refl _ _ | apply Blw.alloc | apply Blw.drew | apply Blw.drewN | (refine Blw.after ?_ (by assumption)) | (refine Blw.set ?_ (by first | (dsimp only; omega) | (simp; done) | (simp; omega)) _)))
          have hsW0 := hBW0.size
          clear hW
          refine region_slots (fun _ => True) [] [(10, .is (pr x y)), (11, .is (pr x y)), (12, .is (pr x' y')), (13, .is (pr x' y')), (6, .own [.int .i64 0, .int .i64 0]), (7, .own [.int .i64 0, .int .i64 0])] (by kernel_rfl) (by kernel_rfl) (by kernel_rfl) (fun _ _ => trivial) (fun _ _ _ _ _ _ h => h) ?_
          simp only [Steps, List.contains_cons, List.contains_nil, Nat.reduceBEq, Nat.reduceAdd, Bool.or_false, Bool.false_or, Bool.or_true, Bool.true_or, Bool.false_eq_true, if_false, if_true]
          refine ⟨?_, ?_, ?_, ?_, ?_, ?_, ?_⟩
          · intro u w2 hH hd K hK
            simp only [setU, upd, List.map_cons, List.map_nil, List.contains_cons, List.contains_nil, Nat.reduceBEq, Nat.reduceAdd, Bool.or_false, Bool.false_or, Bool.or_true, Bool.true_or, Bool.false_eq_true, if_false, if_true, ite_true, ite_false, Nat.reduceEqDiff, beq_self_eq_true] at hK ⊢
            go_wp2_with (fail)
            exact hK _ _ (by (repeat' (first | assumption | exact Below.refl _ _ | apply Blw.alloc | apply Blw.drew | apply Blw.drewN | (refine Blw.after ?_ (by assumption)) | (refine Blw.set ?_ (by first | (dsimp only; omega) | (simp; done) | (simp; omega)) _)))) rfl
          · intro u w2 hH hd K hK
            have f10 : u 10 = (pr x y) := hd 10 (by kernel_rfl)
            simp only [setU, upd, List.map_cons, List.map_nil, List.contains_cons, List.contains_nil, Nat.reduceBEq, Nat.reduceAdd, Bool.or_false, Bool.false_or, Bool.or_true, Bool.true_or, Bool.false_eq_true, if_false, if_true, ite_true, ite_false, Nat.reduceEqDiff, beq_self_eq_true] at hK ⊢
            rw [f10] at hK ⊢
            clear f10
            go_wp2_with ((go_at_call 34; refine (gPair_c _ _ _).mono ?_; rintro e w1 ⟨rfl, hb⟩; obtain ⟨hc, hf⟩ := bcell hb; have hz := bsize hb; have hs := hb.size; try simp at hs))
            exact hK _ _ (by (repeat' (first | assumption | exact Below.refl _ _ | apply Blw.alloc | apply Blw.drew | apply Blw.drewN | (refine Blw.after ?_ (by assumption)) | (refine Blw.set ?_ (by first | (dsimp only; omega) | (simp; done) | (simp; omega)) _)))) rfl
          · intro u w2 hH hd K hK
            simp only [setU, upd, List.map_cons, List.map_nil, List.contains_cons, List.contains_nil, Nat.reduceBEq, Nat.reduceAdd, Bool.or_false, Bool.false_or, Bool.or_true, Bool.true_or, Bool.false_eq_true, if_false, if_true, ite_true, ite_false, Nat.reduceEqDiff, beq_self_eq_true] at hK ⊢
            go_wp2_with (fail)
            exact hK _ _ (by (repeat' (first | assumption | exact Below.refl _ _ | apply Blw.alloc | apply Blw.drew | apply Blw.drewN | (refine Blw.after ?_ (by assumption)) | (refine Blw.set ?_ (by first | (dsimp only; omega) | (simp; done) | (simp; omega)) _)))) rfl
          · intro u w2 hH hd K hK
            have f12 : u 12 = (pr x' y') := hd 12 (by kernel_rfl)
            simp only [setU, upd, List.map_cons, List.map_nil, List.contains_cons, List.contains_nil, Nat.reduceBEq, Nat.reduceAdd, Bool.or_false, Bool.false_or, Bool.or_true, Bool.true_or, Bool.false_eq_true, if_false, if_true, ite_true, ite_false, Nat.reduceEqDiff, beq_self_eq_true] at hK ⊢
            rw [f12] at hK ⊢
            clear f12
            go_wp2_with ((go_at_call 34; refine (gPair_c _ _ _).mono ?_; rintro e w1 ⟨rfl, hb⟩; obtain ⟨hc, hf⟩ := bcell hb; have hz := bsize hb; have hs := hb.size; try simp at hs))
            exact hK _ _ (by (repeat' (first | assumption | exact Below.refl _ _ | apply Blw.alloc | apply Blw.drew | apply Blw.drewN | (refine Blw.after ?_ (by assumption)) | (refine Blw.set ?_ (by first | (dsimp only; omega) | (simp; done) | (simp; omega)) _)))) rfl
          · intro u w2 hH hd K hK
            simp only [setU, upd, List.map_cons, List.map_nil, List.contains_cons, List.contains_nil, Nat.reduceBEq, Nat.reduceAdd, Bool.or_false, Bool.false_or, Bool.or_true, Bool.true_or, Bool.false_eq_true, if_false, if_true, ite_true, ite_false, Nat.reduceEqDiff, beq_self_eq_true] at hK ⊢
            go_wp2_with (fail)
            exact hK _ _ (by (repeat' (first | assumption | exact Below.refl _ _ | apply Blw.alloc | apply Blw.drew | apply Blw.drewN | (refine Blw.after ?_ (by assumption)) | (refine Blw.set ?_ (by first | (dsimp only; omega) | (simp; done) | (simp; omega)) _)))) (OwnP.new _ _ _)
          · intro u w2 hH hd K hK
            simp only [setU, upd, List.map_cons, List.map_nil, List.contains_cons, List.contains_nil, Nat.reduceBEq, Nat.reduceAdd, Bool.or_false, Bool.false_or, Bool.or_true, Bool.true_or, Bool.false_eq_true, if_false, if_true, ite_true, ite_false, Nat.reduceEqDiff, beq_self_eq_true] at hK ⊢
            go_wp2_with (fail)
            exact hK _ _ (by (repeat' (first | assumption | exact Below.refl _ _ | apply Blw.alloc | apply Blw.drew | apply Blw.drewN | (refine Blw.after ?_ (by assumption)) | (refine Blw.set ?_ (by first | (dsimp only; omega) | (simp; done) | (simp; omega)) _)))) (OwnP.new _ _ _)
          intro u w2 hH hF hne
          have hH1 := hH.1
          have hH2 := hH.2.2.2
          simp only [allFacts, SlotFact.h] at hF
          obtain ⟨f10, f11, f12, f13, ⟨b6, f6, g6, l6, k6, z6⟩, ⟨b7, f7, g7, l7, k7, z7⟩, -⟩ := hF
          have n6_7 : b6 ≠ b7 := by have h := hne 6 7 (by kernel_rfl) (by kernel_rfl) (by decide); rw [f6, f7] at h; exact h
          simp only [setU, upd, List.map_cons, List.map_nil, List.contains_cons, List.contains_nil, Nat.reduceBEq, Nat.reduceAdd, Bool.or_false, Bool.false_or, Bool.or_true, Bool.true_or, Bool.false_eq_true, if_false, if_true, ite_true, ite_false, Nat.reduceEqDiff, beq_self_eq_true]
          rw [f10, f11, f12, f13, f6, f7]
          clear f10 f11 f12 f13 f6 f7 hne
          have c6_0 := k6 0 _ rfl
          have e6_0 := z6 0 (by simp)
          have c6_1 := k6 1 _ rfl
          have e6_1 := z6 1 (by simp)
          clear k6 z6
          have c7_0 := k7 0 _ rfl
          have e7_0 := z7 0 (by simp)
          have c7_1 := k7 1 _ rfl
          have e7_1 := z7 1 (by simp)
          clear k7 z7
          refine wpListS_true ?_
          have gg6 : w.heap.size + 2 < b6 := by omega
          have gg7 : w.heap.size + 2 < b7 := by omega
          go_wp2_with fail
          generalize hW : World.setCell _ _ _ = W1
          have kW1_289 : W1.cell? ⟨b6, 0, none⟩ = some (.int .i64 (x)) := by rw [← hW]; clear hW; first | (go_simp; done) | ((repeat refine keepcell ((Below.refl _ _).alloc (Nat.le_refl _) _) ?_); go_simp; done) | (simp only [frozen?_alloc_cells]; go_simp; done)
          have zW1_289 : W1.frozen? ⟨b6, 0, none⟩ = false := by rw [← hW]; clear hW; first | (go_simp; done) | ((repeat refine keepcell ((Below.refl _ _).alloc (Nat.le_refl _) _) ?_); go_simp; done) | (simp only [frozen?_alloc_cells]; go_simp; done)
          have kW1_290 : W1.cell? ⟨b6, 1, none⟩ = some (.int .i64 (y)) := by rw [← hW]; clear hW; first | (go_simp; done) | ((repeat refine keepcell ((Below.refl _ _).alloc (Nat.le_refl _) _) ?_); go_simp; done) | (simp only [frozen?_alloc_cells]; go_simp; done)
          have zW1_290 : W1.frozen? ⟨b6, 1, none⟩ = false := by rw [← hW]; clear hW; first | (go_simp; done) | ((repeat refine keepcell ((Below.refl _ _).alloc (Nat.le_refl _) _) ?_); go_simp; done) | (simp only [frozen?_alloc_cells]; go_simp; done)
          have : b6 < W1.heap.size := World.block_lt_of_cell? W1 ⟨b6, 0, none⟩ (by assumption)
          have kW1_291 : W1.cell? ⟨b7, 0, none⟩ = some (.int .i64 (x')) := by rw [← hW]; clear hW; first | (go_simp; done) | ((repeat refine keepcell ((Below.refl _ _).alloc (Nat.le_refl _) _) ?_); go_simp; done) | (simp only [frozen?_alloc_cells]; go_simp; done)
          have zW1_291 : W1.frozen? ⟨b7, 0, none⟩ = false := by rw [← hW]; clear hW; first | (go_simp; done) | ((repeat refine keepcell ((Below.refl _ _).alloc (Nat.le_refl _) _) ?_); go_simp; done) | (simp only [frozen?_alloc_cells]; go_simp; done)
          have kW1_292 : W1.cell? ⟨b7, 1, none⟩ = some (.int .i64 (y')) := by rw [← hW]; clear hW; first | (go_simp; done) | ((repeat refine keepcell ((Below.refl _ _).alloc (Nat.le_refl _) _) ?_); go_simp; done) | (simp only [frozen?_alloc_cells]; go_simp; done)
          have zW1_292 : W1.frozen? ⟨b7, 1, none⟩ = false := by rw [← hW]; clear hW; first | (go_simp; done) | ((repeat refine keepcell ((Below.refl _ _).alloc (Nat.le_refl _) _) ?_); go_simp; done) | (simp only [frozen?_alloc_cells]; go_simp; done)
          have : b7 < W1.heap.size := World.block_lt_of_cell? W1 ⟨b7, 0, none⟩ (by assumption)
          have kW1_293 : W1.cell? ⟨w.heap.size + 2, 0, none⟩ = some (.int .i64 (0)) := by rw [← hW]; clear hW; first | (go_simp; done) | ((repeat refine keepcell ((Below.refl _ _).alloc (Nat.le_refl _) _) ?_); go_simp; done) | (simp only [frozen?_alloc_cells]; go_simp; done)
          have zW1_293 : W1.frozen? ⟨w.heap.size + 2, 0, none⟩ = false := by rw [← hW]; clear hW; first | (go_simp; done) | ((repeat refine keepcell ((Below.refl _ _).alloc (Nat.le_refl _) _) ?_); go_simp; done) | (simp only [frozen?_alloc_cells]; go_simp; done)
          have kW1_294 : W1.cell? ⟨w.heap.size + 2, 1, none⟩ = some (.int .i64 (0)) := by rw [← hW]; clear hW; first | (go_simp; done) | ((repeat refine keepcell ((Below.refl _ _).alloc (Nat.le_refl _) _) ?_); go_simp; done) | (simp only [frozen?_alloc_cells]; go_simp; done)
          have zW1_294 : W1.frozen? ⟨w.heap.size + 2, 1, none⟩ = false := by rw [← hW]; clear hW; first | (go_simp; done) | ((repeat refine keepcell ((Below.refl _ _).alloc (Nat.le_refl _) _) ?_); go_simp; done) | (simp only [frozen?_alloc_cells]; go_simp; done)
          have : w.heap.size + 2 < W1.heap.size := World.block_lt_of_cell? W1 ⟨w.heap.size + 2, 0, none⟩ (by assumption)
          have hBW1 : Below w.heap.size w W1 := by rw [← hW]; (repeat' (first | assumption | exact Below.refl _ _ | apply Blw.alloc | apply Blw.drew | apply Blw.drewN | (refine Blw.after ?_ (by assumption)) | (refine Blw.set ?_ (by first | (dsimp only; omega) | (simp; done) | (simp; omega)) _)))
          have hsW1 := hBW1.size
          clear hW
          try clear kW0_283; try clear kW0_284; try clear kW0_285; try clear kW0_286; try clear kW0_287; try clear zW0_287; try clear kW0_288; try clear zW0_288; try clear hH; try clear hH1; try clear c6_0; try clear e6_0; try clear c6_1; try clear e6_1; try clear c7_0; try clear e7_0; try clear c7_1; try clear e7_1
          go_wp2_with (go_at_call 35; refine (small_c _ _ _).mono ?_; rintro e w1 ⟨rfl, hb⟩; have hk : Hld W1 w1 := heldM (by (repeat' (first | assumption | exact Below.refl _ _ | apply Blw.alloc | apply Blw.drew | apply Blw.drewN | (refine Blw.after ?_ (by assumption)) | (refine Blw.set ?_ (by first | (dsimp only; omega) | (simp; done) | (simp; omega)) _)))); have hk1 := hk.1)
          go_loopg [] (nrm x' y').toNat (fun k wr => GcdRel w x y x' y' b6 b7 k wr)
          case atStart => exact ⟨x, y, x', y', HX.out, HY.out, rfl, nrm_toNat _ _, by (repeat' (first | assumption | exact Below.refl _ _ | apply Blw.alloc | apply Blw.drew | apply Blw.drewN | (refine Blw.after ?_ (by assumption)) | (refine Blw.set ?_ (by first | (dsimp only; omega) | (simp; done) | (simp; omega)) _))), by go_simp, by go_simp, by go_simp, by go_simp, by go_simp, by go_simp, by go_simp, by go_simp, by go_simp, by go_simp, by go_simp, by go_simp⟩
          case round =>
            obtain ⟨a, b, c, d, hab, hcd, hg, hk, hBw, a0, a1, a2, a3, p0, p1, p2, p3, r0, r1, r2, r3⟩ := hrel
            have L2 : w.heap.size + 2 < wr.heap.size := World.block_lt_of_cell? wr _ r0
            have L6 : b6 < wr.heap.size := World.block_lt_of_cell? wr _ a0
            have L7 : b7 < wr.heap.size := World.block_lt_of_cell? wr _ p0
            have Hg := Lib.hid hg
            have Hk := Lib.hid hk
            clear hg hk
            by_cases hz : c = 0 ∧ d = 0
            · obtain ⟨rfl, rfl⟩ := hz
              have He : gcdX x y x' y' = a ∧ gcdY x y x' y' = b := by
                unfold gcdX gcdY; rw [← Hg.out, gcdF_zero]; exact ⟨rfl, rfl⟩
              have HE := Lib.hid He
              clear He
              go_wp2_with (first | (go_at_call 47; refine (first_c _ _ _ hab).mono ?_; rintro e w1 ⟨rfl, hb⟩; have hk : Hld wr w1 := heldM (by (repeat' (first | assumption | exact Below.refl _ _ | apply Blw.alloc | apply Blw.drew | apply Blw.drewN | (refine Blw.after ?_ (by assumption)) | (refine Blw.set ?_ (by first | (dsimp only; omega) | (simp; done) | (simp; omega)) _)))); have hk1 := hk.1) | (go_at_call 45; refine (gauss_c _ _ _).mono ?_; rintro e w1 ⟨rfl, hb⟩; have hk : Hld wr w1 := heldM (by (repeat' (first | assumption | exact Below.refl _ _ | apply Blw.alloc | apply Blw.drew | apply Blw.drewN | (refine Blw.after ?_ (by assumption)) | (refine Blw.set ?_ (by first | (dsimp only; omega) | (simp; done) | (simp; omega)) _)))); have hk1 := hk.1))
              exact bodyPost_ret (v := res2 true (firstX a b) (firstY a b)) (by simp [results, Try.results27, go_sem, sel_t, *]) rfl ⟨by rw [HB.out, HE.out.1, HE.out.2], by (repeat' (first | assumption | exact Below.refl _ _ | apply Blw.alloc | apply Blw.drew | apply Blw.drewN | (refine Blw.after ?_ (by assumption)) | (refine Blw.set ?_ (by first | (dsimp only; omega) | (simp; done) | (simp; omega)) _)))⟩
            · have hn := nrm_pos hz
              obtain ⟨k', hk1, hk2, hk3⟩ := gcdF_step (x := a) (y := b) hz Hk.out
              have HD := Lib.hid (rest_in (x := a) (y := b) hn hcd)
              have H1 := Lib.hid hk1
              have H2 := Lib.hid hk2
              have H3 := Lib.hid (hk3.trans Hg.out)
              have T : ¬ c = 0 ∨ (c = 0 ∧ ¬ d = 0) := by omega
              clear hz hk1 hk2 hk3
              rcases T with T | ⟨rfl, T⟩
              · skip
                go_wp2_with (fail)
                refine (divide_c _ _ _ _ _ hab hcd hn).mono ?_
                rintro e wA ⟨rfl, hbwA⟩
                have hkwA : Hld wr wA := heldM (by (repeat' (first | assumption | exact Below.refl _ _ | apply Blw.alloc | apply Blw.drew | apply Blw.drewN | (refine Blw.after ?_ (by assumption)) | (refine Blw.set ?_ (by first | (dsimp only; omega) | (simp; done) | (simp; omega)) _))))
                have hlwA := hkwA.1
                have hswA := hkwA.2.2.2
                try (have : b6 < wA.heap.size := by omega)
                try (have : b7 < wA.heap.size := by omega)
                try (have : w.heap.size + 2 < wA.heap.size := by omega)
                go_wp2_with fail
                generalize hW : World.alloc _ _ = W2
                have kW2_295 : W2.cell? ⟨b6, 0, none⟩ = some (.int .i64 (a)) := by rw [← hW]; clear hW; first | (go_simp; done) | ((repeat refine keepcell ((Below.refl _ _).alloc (Nat.le_refl _) _) ?_); go_simp; done) | (simp only [frozen?_alloc_cells]; go_simp; done)
                have zW2_295 : W2.frozen? ⟨b6, 0, none⟩ = false := by rw [← hW]; clear hW; first | (go_simp; done) | ((repeat refine keepcell ((Below.refl _ _).alloc (Nat.le_refl _) _) ?_); go_simp; done) | (simp only [frozen?_alloc_cells]; go_simp; done)
                have kW2_296 : W2.cell? ⟨b6, 1, none⟩ = some (.int .i64 (b)) := by rw [← hW]; clear hW; first | (go_simp; done) | ((repeat refine keepcell ((Below.refl _ _).alloc (Nat.le_refl _) _) ?_); go_simp; done) | (simp only [frozen?_alloc_cells]; go_simp; done)
                have zW2_296 : W2.frozen? ⟨b6, 1, none⟩ = false := by rw [← hW]; clear hW; first | (go_simp; done) | ((repeat refine keepcell ((Below.refl _ _).alloc (Nat.le_refl _) _) ?_); go_simp; done) | (simp only [frozen?_alloc_cells]; go_simp; done)
                have : b6 < W2.heap.size := World.block_lt_of_cell? W2 ⟨b6, 0, none⟩ (by assumption)
                have kW2_297 : W2.cell? ⟨b7, 0, none⟩ = some (.int .i64 (c)) := by rw [← hW]; clear hW; first | (go_simp; done) | ((repeat refine keepcell ((Below.refl _ _).alloc (Nat.le_refl _) _) ?_); go_simp; done) | (simp only [frozen?_alloc_cells]; go_simp; done)
                have zW2_297 : W2.frozen? ⟨b7, 0, none⟩ = false := by rw [← hW]; clear hW; first | (go_simp; done) | ((repeat refine keepcell ((Below.refl _ _).alloc (Nat.le_refl _) _) ?_); go_simp; done) | (simp only [frozen?_alloc_cells]; go_simp; done)
                have kW2_298 : W2.cell? ⟨b7, 1, none⟩ = some (.int .i64 (d)) := by rw [← hW]; clear hW; first | (go_simp; done) | ((repeat refine keepcell ((Below.refl _ _).alloc (Nat.le_refl _) _) ?_); go_simp; done) | (simp only [frozen?_alloc_cells]; go_simp; done)
                have zW2_298 : W2.frozen? ⟨b7, 1, none⟩ = false := by rw [← hW]; clear hW; first | (go_simp; done) | ((repeat refine keepcell ((Below.refl _ _).alloc (Nat.le_refl _) _) ?_); go_simp; done) | (simp only [frozen?_alloc_cells]; go_simp; done)
                have : b7 < W2.heap.size := World.block_lt_of_cell? W2 ⟨b7, 0, none⟩ (by assumption)
                have kW2_299 : W2.cell? ⟨w.heap.size + 2, 0, none⟩ = some (.int .i64 (0)) := by rw [← hW]; clear hW; first | (go_simp; done) | ((repeat refine keepcell ((Below.refl _ _).alloc (Nat.le_refl _) _) ?_); go_simp; done) | (simp only [frozen?_alloc_cells]; go_simp; done)
                have zW2_299 : W2.frozen? ⟨w.heap.size + 2, 0, none⟩ = false := by rw [← hW]; clear hW; first | (go_simp; done) | ((repeat refine keepcell ((Below.refl _ _).alloc (Nat.le_refl _) _) ?_); go_simp; done) | (simp only [frozen?_alloc_cells]; go_simp; done)
                have kW2_300 : W2.cell? ⟨w.heap.size + 2, 1, none⟩ = some (.int .i64 (0)) := by rw [← hW]; clear hW; first | (go_simp; done) | ((repeat refine keepcell ((Below.refl _ _).alloc (Nat.le_refl _) _) ?_); go_simp; done) | (simp only [frozen?_alloc_cells]; go_simp; done)
                have zW2_300 : W2.frozen? ⟨w.heap.size + 2, 1, none⟩ = false := by rw [← hW]; clear hW; first | (go_simp; done) | ((repeat refine keepcell ((Below.refl _ _).alloc (Nat.le_refl _) _) ?_); go_simp; done) | (simp only [frozen?_alloc_cells]; go_simp; done)
                have : w.heap.size + 2 < W2.heap.size := World.block_lt_of_cell? W2 ⟨w.heap.size + 2, 0, none⟩ (by assumption)
                have kW2_301 : W2.cell? ⟨wA.heap.size + 1, 0, none⟩ = some (.int .i64 ((rx a b c d))) := by rw [← hW]; clear hW; first | (go_simp; done) | ((repeat refine keepcell ((Below.refl _ _).alloc (Nat.le_refl _) _) ?_); go_simp; done) | (simp only [frozen?_alloc_cells]; go_simp; done)
                have kW2_302 : W2.cell? ⟨wA.heap.size + 1, 1, none⟩ = some (.int .i64 ((ry a b c d))) := by rw [← hW]; clear hW; first | (go_simp; done) | ((repeat refine keepcell ((Below.refl _ _).alloc (Nat.le_refl _) _) ?_); go_simp; done) | (simp only [frozen?_alloc_cells]; go_simp; done)
                have : wA.heap.size + 1 < W2.heap.size := World.block_lt_of_cell? W2 ⟨wA.heap.size + 1, 0, none⟩ (by assumption)
                have hBW2 : Below w.heap.size w W2 := by rw [← hW]; (repeat' (first | assumption | exact Below.refl _ _ | apply Blw.alloc | apply Blw.drew | apply Blw.drewN | (refine Blw.after ?_ (by assumption)) | (refine Blw.set ?_ (by first | (dsimp only; omega) | (simp; done) | (simp; omega)) _)))
                have hsW2 := hBW2.size
                clear hW
                try clear kW1_289; try clear zW1_289; try clear kW1_290; try clear zW1_290; try clear kW1_291; try clear zW1_291; try clear kW1_292; try clear zW1_292; try clear kW1_293; try clear zW1_293; try clear kW1_294; try clear zW1_294; try clear hbwA; try clear hkwA; try clear hlwA
                refine region_slots (fun w' => w'.cell? ⟨wA.heap.size + 1, 0, none⟩ = some (.int .i64 ((rx a b c d))) ∧ w'.cell? ⟨wA.heap.size + 1, 1, none⟩ = some (.int .i64 ((ry a b c d)))) [1] [(42, .is (pr c d)), (43, .is (pr (rx a b c d) (ry a b c d)))] (by kernel_rfl) (by kernel_rfl) (by kernel_rfl) (fun w' hH => by go_simp) (fun _ _ _ _ _ _ h => h) ?_
                simp only [Steps, List.contains_cons, List.contains_nil, Nat.reduceBEq, Nat.reduceAdd, Bool.or_false, Bool.false_or, Bool.or_true, Bool.true_or, Bool.false_eq_true, if_false, if_true]
                refine ⟨?_, ?_, ?_⟩
                · intro u w2 hH hd K hK
                  simp only [setU, upd, List.map_cons, List.map_nil, List.contains_cons, List.contains_nil, Nat.reduceBEq, Nat.reduceAdd, Bool.or_false, Bool.false_or, Bool.or_true, Bool.true_or, Bool.false_eq_true, if_false, if_true, ite_true, ite_false, Nat.reduceEqDiff, beq_self_eq_true] at hK ⊢
                  go_wp2_with (fail)
                  exact hK _ _ (by (repeat' (first | assumption | exact Below.refl _ _ | apply Blw.alloc | apply Blw.drew | apply Blw.drewN | (refine Blw.after ?_ (by assumption)) | (refine Blw.set ?_ (by first | (dsimp only; omega) | (simp; done) | (simp; omega)) _)))) rfl
                · intro u w2 hH hd
                  simp only [setU, upd, List.map_cons, List.map_nil, List.contains_cons, List.contains_nil, Nat.reduceBEq, Nat.reduceAdd, Bool.or_false, Bool.false_or, Bool.or_true, Bool.true_or, Bool.false_eq_true, if_false, if_true, ite_true, ite_false, Nat.reduceEqDiff, beq_self_eq_true]
                  refine ⟨(pr (rx a b c d) (ry a b c d)), fun w hS => ?_, by first | rfl | trivial, by first | rfl | trivial, by first | rfl | trivial⟩
                  first | (go_simp; done) | (go_simp; exact IntWalk.i64_in _ (by omega))
                intro u w2 hH hF hne
                have hH1 := hH.1
                have hH2 := hH.2.2.2
                simp only [allFacts, SlotFact.h] at hF
                obtain ⟨f42, f43, -⟩ := hF
                simp only [setU, upd, List.map_cons, List.map_nil, List.contains_cons, List.contains_nil, Nat.reduceBEq, Nat.reduceAdd, Bool.or_false, Bool.false_or, Bool.or_true, Bool.true_or, Bool.false_eq_true, if_false, if_true, ite_true, ite_false, Nat.reduceEqDiff, beq_self_eq_true]
                rw [f42, f43]
                clear f42 f43 hne
                refine wpListS_step fun K hK => ?_
                go_wp2_with (fail)
                refine hK _ _ (by go_simp) ?_
                clear hK
                refine wpListS_step fun K hK => ?_
                go_wp2_with (fail)
                refine hK _ _ (by go_simp) ?_
                clear hK
                refine wpListS_nil ?_
                go_wp2_with fail
                go_roundg k'
                case measure => exact H1.out
                case rel => exact ⟨_, _, _, _, hcd, HD.out, H3.out, H2.out, by (repeat' (first | assumption | exact Below.refl _ _ | apply Blw.alloc | apply Blw.drew | apply Blw.drewN | (refine Blw.after ?_ (by assumption)) | (refine Blw.set ?_ (by first | (dsimp only; omega) | (simp; done) | (simp; omega)) _))), by go_simp, by go_simp, by go_simp, by go_simp, by go_simp, by go_simp, by go_simp, by go_simp, by go_simp, by go_simp, by go_simp, by go_simp⟩
              · skip
                go_wp2_with (fail)
                refine (divide_c _ _ _ _ _ hab hcd hn).mono ?_
                rintro e wA ⟨rfl, hbwA⟩
                have hkwA : Hld wr wA := heldM (by (repeat' (first | assumption | exact Below.refl _ _ | apply Blw.alloc | apply Blw.drew | apply Blw.drewN | (refine Blw.after ?_ (by assumption)) | (refine Blw.set ?_ (by first | (dsimp only; omega) | (simp; done) | (simp; omega)) _))))
                have hlwA := hkwA.1
                have hswA := hkwA.2.2.2
                try (have : b6 < wA.heap.size := by omega)
                try (have : b7 < wA.heap.size := by omega)
                try (have : w.heap.size + 2 < wA.heap.size := by omega)
                go_wp2_with fail
                generalize hW : World.alloc _ _ = W2
                have kW2_303 : W2.cell? ⟨b6, 0, none⟩ = some (.int .i64 (a)) := by rw [← hW]; clear hW; first | (go_simp; done) | ((repeat refine keepcell ((Below.refl _ _).alloc (Nat.le_refl _) _) ?_); go_simp; done) | (simp only [frozen?_alloc_cells]; go_simp; done)
                have zW2_303 : W2.frozen? ⟨b6, 0, none⟩ = false := by rw [← hW]; clear hW; first | (go_simp; done) | ((repeat refine keepcell ((Below.refl _ _).alloc (Nat.le_refl _) _) ?_); go_simp; done) | (simp only [frozen?_alloc_cells]; go_simp; done)
                have kW2_304 : W2.cell? ⟨b6, 1, none⟩ = some (.int .i64 (b)) := by rw [← hW]; clear hW; first | (go_simp; done) | ((repeat refine keepcell ((Below.refl _ _).alloc (Nat.le_refl _) _) ?_); go_simp; done) | (simp only [frozen?_alloc_cells]; go_simp; done)
                have zW2_304 : W2.frozen? ⟨b6, 1, none⟩ = false := by rw [← hW]; clear hW; first | (go_simp; done) | ((repeat refine keepcell ((Below.refl _ _).alloc (Nat.le_refl _) _) ?_); go_simp; done) | (simp only [frozen?_alloc_cells]; go_simp; done)
                have : b6 < W2.heap.size := World.block_lt_of_cell? W2 ⟨b6, 0, none⟩ (by assumption)
                have kW2_305 : W2.cell? ⟨b7, 0, none⟩ = some (.int .i64 (0)) := by rw [← hW]; clear hW; first | (go_simp; done) | ((repeat refine keepcell ((Below.refl _ _).alloc (Nat.le_refl _) _) ?_); go_simp; done) | (simp only [frozen?_alloc_cells]; go_simp; done)
                have zW2_305 : W2.frozen? ⟨b7, 0, none⟩ = false := by rw [← hW]; clear hW; first | (go_simp; done) | ((repeat refine keepcell ((Below.refl _ _).alloc (Nat.le_refl _) _) ?_); go_simp; done) | (simp only [frozen?_alloc_cells]; go_simp; done)
                have kW2_306 : W2.cell? ⟨b7, 1, none⟩ = some (.int .i64 (d)) := by rw [← hW]; clear hW; first | (go_simp; done) | ((repeat refine keepcell ((Below.refl _ _).alloc (Nat.le_refl _) _) ?_); go_simp; done) | (simp only [frozen?_alloc_cells]; go_simp; done)
                have zW2_306 : W2.frozen? ⟨b7, 1, none⟩ = false := by rw [← hW]; clear hW; first | (go_simp; done) | ((repeat refine keepcell ((Below.refl _ _).alloc (Nat.le_refl _) _) ?_); go_simp; done) | (simp only [frozen?_alloc_cells]; go_simp; done)
                have : b7 < W2.heap.size := World.block_lt_of_cell? W2 ⟨b7, 0, none⟩ (by assumption)
                have kW2_307 : W2.cell? ⟨w.heap.size + 2, 0, none⟩ = some (.int .i64 (0)) := by rw [← hW]; clear hW; first | (go_simp; done) | ((repeat refine keepcell ((Below.refl _ _).alloc (Nat.le_refl _) _) ?_); go_simp; done) | (simp only [frozen?_alloc_cells]; go_simp; done)
                have zW2_307 : W2.frozen? ⟨w.heap.size + 2, 0, none⟩ = false := by rw [← hW]; clear hW; first | (go_simp; done) | ((repeat refine keepcell ((Below.refl _ _).alloc (Nat.le_refl _) _) ?_); go_simp; done) | (simp only [frozen?_alloc_cells]; go_simp; done)
                have kW2_308 : W2.cell? ⟨w.heap.size + 2, 1, none⟩ = some (.int .i64 (0)) := by rw [← hW]; clear hW; first | (go_simp; done) | ((repeat refine keepcell ((Below.refl _ _).alloc (Nat.le_refl _) _) ?_); go_simp; done) | (simp only [frozen?_alloc_cells]; go_simp; done)
                have zW2_308 : W2.frozen? ⟨w.heap.size + 2, 1, none⟩ = false := by rw [← hW]; clear hW; first | (go_simp; done) | ((repeat refine keepcell ((Below.refl _ _).alloc (Nat.le_refl _) _) ?_); go_simp; done) | (simp only [frozen?_alloc_cells]; go_simp; done)
                have : w.heap.size + 2 < W2.heap.size := World.block_lt_of_cell? W2 ⟨w.heap.size + 2, 0, none⟩ (by assumption)
                have kW2_309 : W2.cell? ⟨wA.heap.size + 1, 0, none⟩ = some (.int .i64 ((rx a b 0 d))) := by rw [← hW]; clear hW; first | (go_simp; done) | ((repeat refine keepcell ((Below.refl _ _).alloc (Nat.le_refl _) _) ?_); go_simp; done) | (simp only [frozen?_alloc_cells]; go_simp; done)
                have kW2_310 : W2.cell? ⟨wA.heap.size + 1, 1, none⟩ = some (.int .i64 ((ry a b 0 d))) := by rw [← hW]; clear hW; first | (go_simp; done) | ((repeat refine keepcell ((Below.refl _ _).alloc (Nat.le_refl _) _) ?_); go_simp; done) | (simp only [frozen?_alloc_cells]; go_simp; done)
                have : wA.heap.size + 1 < W2.heap.size := World.block_lt_of_cell? W2 ⟨wA.heap.size + 1, 0, none⟩ (by assumption)
                have hBW2 : Below w.heap.size w W2 := by rw [← hW]; (repeat' (first | assumption | exact Below.refl _ _ | apply Blw.alloc | apply Blw.drew | apply Blw.drewN | (refine Blw.after ?_ (by assumption)) | (refine Blw.set ?_ (by first | (dsimp only; omega) | (simp; done) | (simp; omega)) _)))
                have hsW2 := hBW2.size
                clear hW
                try clear kW2_295; try clear zW2_295; try clear kW2_296; try clear zW2_296; try clear kW2_297; try clear zW2_297; try clear kW2_298; try clear zW2_298; try clear kW2_299; try clear zW2_299; try clear kW2_300; try clear zW2_300; try clear kW2_301; try clear kW2_302; try clear hH; try clear hH1; try clear hbwA; try clear hkwA; try clear hlwA
                refine region_slots (fun w' => w'.cell? ⟨wA.heap.size + 1, 0, none⟩ = some (.int .i64 ((rx a b 0 d))) ∧ w'.cell? ⟨wA.heap.size + 1, 1, none⟩ = some (.int .i64 ((ry a b 0 d)))) [1] [(42, .is (pr 0 d)), (43, .is (pr (rx a b 0 d) (ry a b 0 d)))] (by kernel_rfl) (by kernel_rfl) (by kernel_rfl) (fun w' hH => by go_simp) (fun _ _ _ _ _ _ h => h) ?_
                simp only [Steps, List.contains_cons, List.contains_nil, Nat.reduceBEq, Nat.reduceAdd, Bool.or_false, Bool.false_or, Bool.or_true, Bool.true_or, Bool.false_eq_true, if_false, if_true]
                refine ⟨?_, ?_, ?_⟩
                · intro u w2 hH hd K hK
                  simp only [setU, upd, List.map_cons, List.map_nil, List.contains_cons, List.contains_nil, Nat.reduceBEq, Nat.reduceAdd, Bool.or_false, Bool.false_or, Bool.or_true, Bool.true_or, Bool.false_eq_true, if_false, if_true, ite_true, ite_false, Nat.reduceEqDiff, beq_self_eq_true] at hK ⊢
                  go_wp2_with (fail)
                  exact hK _ _ (by (repeat' (first | assumption | exact Below.refl _ _ | apply Blw.alloc | apply Blw.drew | apply Blw.drewN | (refine Blw.after ?_ (by assumption)) | (refine Blw.set ?_ (by first | (dsimp only; omega) | (simp; done) | (simp; omega)) _)))) rfl
                · intro u w2 hH hd
                  simp only [setU, upd, List.map_cons, List.map_nil, List.contains_cons, List.contains_nil, Nat.reduceBEq, Nat.reduceAdd, Bool.or_false, Bool.false_or, Bool.or_true, Bool.true_or, Bool.false_eq_true, if_false, if_true, ite_true, ite_false, Nat.reduceEqDiff, beq_self_eq_true]
                  refine ⟨(pr (rx a b 0 d) (ry a b 0 d)), fun w hS => ?_, by first | rfl | trivial, by first | rfl | trivial, by first | rfl | trivial⟩
                  first | (go_simp; done) | (go_simp; exact IntWalk.i64_in _ (by omega))
                intro u w2 hH hF hne
                have hH1 := hH.1
                have hH2 := hH.2.2.2
                simp only [allFacts, SlotFact.h] at hF
                obtain ⟨f42, f43, -⟩ := hF
                simp only [setU, upd, List.map_cons, List.map_nil, List.contains_cons, List.contains_nil, Nat.reduceBEq, Nat.reduceAdd, Bool.or_false, Bool.false_or, Bool.or_true, Bool.true_or, Bool.false_eq_true, if_false, if_true, ite_true, ite_false, Nat.reduceEqDiff, beq_self_eq_true]
                rw [f42, f43]
                clear f42 f43 hne
                refine wpListS_step fun K hK => ?_
                go_wp2_with (fail)
                refine hK _ _ (by go_simp) ?_
                clear hK
                refine wpListS_step fun K hK => ?_
                go_wp2_with (fail)
                refine hK _ _ (by go_simp) ?_
                clear hK
                refine wpListS_nil ?_
                go_wp2_with fail
                go_roundg k'
                case measure => exact H1.out
                case rel => exact ⟨_, _, _, _, hcd, HD.out, H3.out, H2.out, by (repeat' (first | assumption | exact Below.refl _ _ | apply Blw.alloc | apply Blw.drew | apply Blw.drewN | (refine Blw.after ?_ (by assumption)) | (refine Blw.set ?_ (by first | (dsimp only; omega) | (simp; done) | (simp; omega)) _))), by go_simp, by go_simp, by go_simp, by go_simp, by go_simp, by go_simp, by go_simp, by go_simp, by go_simp, by go_simp, by go_simp, by go_simp⟩
        · go_enter Try.func27, Try.ntmps27
          go_wp2_with fail
          generalize hW : World.alloc _ _ = W0
          have kW0_311 : W0.cell? ⟨w.heap.size, 0, none⟩ = some (.int .i64 (0)) := by rw [← hW]; clear hW; first | (go_simp; done) | ((repeat refine keepcell ((Below.refl _ _).alloc (Nat.le_refl _) _) ?_); go_simp; done) | (simp only [frozen?_alloc_cells]; go_simp; done)
          have kW0_312 : W0.cell? ⟨w.heap.size, 1, none⟩ = some (.int .i64 (y)) := by rw [← hW]; clear hW; first | (go_simp; done) | ((repeat refine keepcell ((Below.refl _ _).alloc (Nat.le_refl _) _) ?_); go_simp; done) | (simp only [frozen?_alloc_cells]; go_simp; done)
          have : w.heap.size < W0.heap.size := World.block_lt_of_cell? W0 ⟨w.heap.size, 0, none⟩ (by assumption)
          have kW0_313 : W0.cell? ⟨w.heap.size + 1, 0, none⟩ = some (.int .i64 (x')) := by rw [← hW]; clear hW; first | (go_simp; done) | ((repeat refine keepcell ((Below.refl _ _).alloc (Nat.le_refl _) _) ?_); go_simp; done) | (simp only [frozen?_alloc_cells]; go_simp; done)
          have kW0_314 : W0.cell? ⟨w.heap.size + 1, 1, none⟩ = some (.int .i64 (y')) := by rw [← hW]; clear hW; first | (go_simp; done) | ((repeat refine keepcell ((Below.refl _ _).alloc (Nat.le_refl _) _) ?_); go_simp; done) | (simp only [frozen?_alloc_cells]; go_simp; done)
          have : w.heap.size + 1 < W0.heap.size := World.block_lt_of_cell? W0 ⟨w.heap.size + 1, 0, none⟩ (by assumption)
          have kW0_315 : W0.cell? ⟨w.heap.size + 2, 0, none⟩ = some (.int .i64 (0)) := by rw [← hW]; clear hW; first | (go_simp; done) | ((repeat refine keepcell ((Below.refl _ _).alloc (Nat.le_refl _) _) ?_); go_simp; done) | (simp only [frozen?_alloc_cells]; go_simp; done)
          have zW0_315 : W0.frozen? ⟨w.heap.size + 2, 0, none⟩ = false := by rw [← hW]; clear hW; first | (go_simp; done) | ((repeat refine keepcell ((Below.refl _ _).alloc (Nat.le_refl _) _) ?_); go_simp; done) | (simp only [frozen?_alloc_cells]; go_simp; done)
          have kW0_316 : W0.cell? ⟨w.heap.size + 2, 1, none⟩ = some (.int .i64 (0)) := by rw [← hW]; clear hW; first | (go_simp; done) | ((repeat refine keepcell ((Below.refl _ _).alloc (Nat.le_refl _) _) ?_); go_simp; done) | (simp only [frozen?_alloc_cells]; go_simp; done)
          have zW0_316 : W0.frozen? ⟨w.heap.size + 2, 1, none⟩ = false := by rw [← hW]; clear hW; first | (go_simp; done) | ((repeat refine keepcell ((Below.refl _ _).alloc (Nat.le_refl _) _) ?_); go_simp; done) | (simp only [frozen?_alloc_cells]; go_simp; done)
          have : w.heap.size + 2 < W0.heap.size := World.block_lt_of_cell? W0 ⟨w.heap.size + 2, 0, none⟩ (by assumption)
          have hBW0 : Below w.heap.size w W0 := by rw [← hW]; (repeat' (first | assumption | exact Below.refl _ _ | apply Blw.alloc | apply Blw.drew | apply Blw.drewN | (refine Blw.after ?_ (by assumption)) | (refine Blw.set ?_ (by first | (dsimp only; omega) | (simp; done) | (simp; omega)) _)))
          have hsW0 := hBW0.size
          clear hW
          refine region_slots (fun _ => True) [] [(10, .is (pr 0 y)), (11, .is (pr 0 y)), (12, .is (pr x' y')), (13, .is (pr x' y')), (6, .own [.int .i64 0, .int .i64 0]), (7, .own [.int .i64 0, .int .i64 0])] (by kernel_rfl) (by kernel_rfl) (by kernel_rfl) (fun _ _ => trivial) (fun _ _ _ _ _ _ h => h) ?_
          simp only [Steps, List.contains_cons, List.contains_nil, Nat.reduceBEq, Nat.reduceAdd, Bool.or_false, Bool.false_or, Bool.or_true, Bool.true_or, Bool.false_eq_true, if_false, if_true]
          refine ⟨?_, ?_, ?_, ?_, ?_, ?_, ?_⟩
          · intro u w2 hH hd K hK
            simp only [setU, upd, List.map_cons, List.map_nil, List.contains_cons, List.contains_nil, Nat.reduceBEq, Nat.reduceAdd, Bool.or_false, Bool.false_or, Bool.or_true, Bool.true_or, Bool.false_eq_true, if_false, if_true, ite_true, ite_false, Nat.reduceEqDiff, beq_self_eq_true] at hK ⊢
            go_wp2_with (fail)
            exact hK _ _ (by (repeat' (first | assumption | exact Below.refl _ _ | apply Blw.alloc | apply Blw.drew | apply Blw.drewN | (refine Blw.after ?_ (by assumption)) | (refine Blw.set ?_ (by first | (dsimp only; omega) | (simp; done) | (simp; omega)) _)))) rfl
          · intro u w2 hH hd K hK
            have f10 : u 10 = (pr 0 y) := hd 10 (by kernel_rfl)
            simp only [setU, upd, List.map_cons, List.map_nil, List.contains_cons, List.contains_nil, Nat.reduceBEq, Nat.reduceAdd, Bool.or_false, Bool.false_or, Bool.or_true, Bool.true_or, Bool.false_eq_true, if_false, if_true, ite_true, ite_false, Nat.reduceEqDiff, beq_self_eq_true] at hK ⊢
            rw [f10] at hK ⊢
            clear f10
            go_wp2_with ((go_at_call 34; refine (gPair_c _ _ _).mono ?_; rintro e w1 ⟨rfl, hb⟩; obtain ⟨hc, hf⟩ := bcell hb; have hz := bsize hb; have hs := hb.size; try simp at hs))
            exact hK _ _ (by (repeat' (first | assumption | exact Below.refl _ _ | apply Blw.alloc | apply Blw.drew | apply Blw.drewN | (refine Blw.after ?_ (by assumption)) | (refine Blw.set ?_ (by first | (dsimp only; omega) | (simp; done) | (simp; omega)) _)))) rfl
          · intro u w2 hH hd K hK
            simp only [setU, upd, List.map_cons, List.map_nil, List.contains_cons, List.contains_nil, Nat.reduceBEq, Nat.reduceAdd, Bool.or_false, Bool.false_or, Bool.or_true, Bool.true_or, Bool.false_eq_true, if_false, if_true, ite_true, ite_false, Nat.reduceEqDiff, beq_self_eq_true] at hK ⊢
            go_wp2_with (fail)
            exact hK _ _ (by (repeat' (first | assumption | exact Below.refl _ _ | apply Blw.alloc | apply Blw.drew | apply Blw.drewN | (refine Blw.after ?_ (by assumption)) | (refine Blw.set ?_ (by first | (dsimp only; omega) | (simp; done) | (simp; omega)) _)))) rfl
          · intro u w2 hH hd K hK
            have f12 : u 12 = (pr x' y') := hd 12 (by kernel_rfl)
            simp only [setU, upd, List.map_cons, List.map_nil, List.contains_cons, List.contains_nil, Nat.reduceBEq, Nat.reduceAdd, Bool.or_false, Bool.false_or, Bool.or_true, Bool.true_or, Bool.false_eq_true, if_false, if_true, ite_true, ite_false, Nat.reduceEqDiff, beq_self_eq_true] at hK ⊢
            rw [f12] at hK ⊢
            clear f12
            go_wp2_with ((go_at_call 34; refine (gPair_c _ _ _).mono ?_; rintro e w1 ⟨rfl, hb⟩; obtain ⟨hc, hf⟩ := bcell hb; have hz := bsize hb; have hs := hb.size; try simp at hs))
            exact hK _ _ (by (repeat' (first | assumption | exact Below.refl _ _ | apply Blw.alloc | apply Blw.drew | apply Blw.drewN | (refine Blw.after ?_ (by assumption)) | (refine Blw.set ?_ (by first | (dsimp only; omega) | (simp; done) | (simp; omega)) _)))) rfl
          · intro u w2 hH hd K hK
            simp only [setU, upd, List.map_cons, List.map_nil, List.contains_cons, List.contains_nil, Nat.reduceBEq, Nat.reduceAdd, Bool.or_false, Bool.false_or, Bool.or_true, Bool.true_or, Bool.false_eq_true, if_false, if_true, ite_true, ite_false, Nat.reduceEqDiff, beq_self_eq_true] at hK ⊢
            go_wp2_with (fail)
            exact hK _ _ (by (repeat' (first | assumption | exact Below.refl _ _ | apply Blw.alloc | apply Blw.drew | apply Blw.drewN | (refine Blw.after ?_ (by assumption)) | (refine Blw.set ?_ (by first | (dsimp only; omega) | (simp; done) | (simp; omega)) _)))) (OwnP.new _ _ _)
          · intro u w2 hH hd K hK
            simp only [setU, upd, List.map_cons, List.map_nil, List.contains_cons, List.contains_nil, Nat.reduceBEq, Nat.reduceAdd, Bool.or_false, Bool.false_or, Bool.or_true, Bool.true_or, Bool.false_eq_true, if_false, if_true, ite_true, ite_false, Nat.reduceEqDiff, beq_self_eq_true] at hK ⊢
            go_wp2_with (fail)
            exact hK _ _ (by (repeat' (first | assumption | exact Below.refl _ _ | apply Blw.alloc | apply Blw.drew | apply Blw.drewN | (refine Blw.after ?_ (by assumption)) | (refine Blw.set ?_ (by first | (dsimp only; omega) | (simp; done) | (simp; omega)) _)))) (OwnP.new _ _ _)
          intro u w2 hH hF hne
          have hH1 := hH.1
          have hH2 := hH.2.2.2
          simp only [allFacts, SlotFact.h] at hF
          obtain ⟨f10, f11, f12, f13, ⟨b6, f6, g6, l6, k6, z6⟩, ⟨b7, f7, g7, l7, k7, z7⟩, -⟩ := hF
          have n6_7 : b6 ≠ b7 := by have h := hne 6 7 (by kernel_rfl) (by kernel_rfl) (by decide); rw [f6, f7] at h; exact h
          simp only [setU, upd, List.map_cons, List.map_nil, List.contains_cons, List.contains_nil, Nat.reduceBEq, Nat.reduceAdd, Bool.or_false, Bool.false_or, Bool.or_true, Bool.true_or, Bool.false_eq_true, if_false, if_true, ite_true, ite_false, Nat.reduceEqDiff, beq_self_eq_true]
          rw [f10, f11, f12, f13, f6, f7]
          clear f10 f11 f12 f13 f6 f7 hne
          have c6_0 := k6 0 _ rfl
          have e6_0 := z6 0 (by simp)
          have c6_1 := k6 1 _ rfl
          have e6_1 := z6 1 (by simp)
          clear k6 z6
          have c7_0 := k7 0 _ rfl
          have e7_0 := z7 0 (by simp)
          have c7_1 := k7 1 _ rfl
          have e7_1 := z7 1 (by simp)
          clear k7 z7
          refine wpListS_true ?_
          have gg6 : w.heap.size + 2 < b6 := by omega
          have gg7 : w.heap.size + 2 < b7 := by omega
          go_wp2_with fail
          generalize hW : World.setCell _ _ _ = W1
          have kW1_317 : W1.cell? ⟨b6, 0, none⟩ = some (.int .i64 (0)) := by rw [← hW]; clear hW; first | (go_simp; done) | ((repeat refine keepcell ((Below.refl _ _).alloc (Nat.le_refl _) _) ?_); go_simp; done) | (simp only [frozen?_alloc_cells]; go_simp; done)
          have zW1_317 : W1.frozen? ⟨b6, 0, none⟩ = false := by rw [← hW]; clear hW; first | (go_simp; done) | ((repeat refine keepcell ((Below.refl _ _).alloc (Nat.le_refl _) _) ?_); go_simp; done) | (simp only [frozen?_alloc_cells]; go_simp; done)
          have kW1_318 : W1.cell? ⟨b6, 1, none⟩ = some (.int .i64 (y)) := by rw [← hW]; clear hW; first | (go_simp; done) | ((repeat refine keepcell ((Below.refl _ _).alloc (Nat.le_refl _) _) ?_); go_simp; done) | (simp only [frozen?_alloc_cells]; go_simp; done)
          have zW1_318 : W1.frozen? ⟨b6, 1, none⟩ = false := by rw [← hW]; clear hW; first | (go_simp; done) | ((repeat refine keepcell ((Below.refl _ _).alloc (Nat.le_refl _) _) ?_); go_simp; done) | (simp only [frozen?_alloc_cells]; go_simp; done)
          have : b6 < W1.heap.size := World.block_lt_of_cell? W1 ⟨b6, 0, none⟩ (by assumption)
          have kW1_319 : W1.cell? ⟨b7, 0, none⟩ = some (.int .i64 (x')) := by rw [← hW]; clear hW; first | (go_simp; done) | ((repeat refine keepcell ((Below.refl _ _).alloc (Nat.le_refl _) _) ?_); go_simp; done) | (simp only [frozen?_alloc_cells]; go_simp; done)
          have zW1_319 : W1.frozen? ⟨b7, 0, none⟩ = false := by rw [← hW]; clear hW; first | (go_simp; done) | ((repeat refine keepcell ((Below.refl _ _).alloc (Nat.le_refl _) _) ?_); go_simp; done) | (simp only [frozen?_alloc_cells]; go_simp; done)
          have kW1_320 : W1.cell? ⟨b7, 1, none⟩ = some (.int .i64 (y')) := by rw [← hW]; clear hW; first | (go_simp; done) | ((repeat refine keepcell ((Below.refl _ _).alloc (Nat.le_refl _) _) ?_); go_simp; done) | (simp only [frozen?_alloc_cells]; go_simp; done)
          have zW1_320 : W1.frozen? ⟨b7, 1, none⟩ = false := by rw [← hW]; clear hW; first | (go_simp; done) | ((repeat refine keepcell ((Below.refl _ _).alloc (Nat.le_refl _) _) ?_); go_simp; done) | (simp only [frozen?_alloc_cells]; go_simp; done)
          have : b7 < W1.heap.size := World.block_lt_of_cell? W1 ⟨b7, 0, none⟩ (by assumption)
          have kW1_321 : W1.cell? ⟨w.heap.size + 2, 0, none⟩ = some (.int .i64 (0)) := by rw [← hW]; clear hW; first | (go_simp; done) | ((repeat refine keepcell ((Below.refl _ _).alloc (Nat.le_refl _) _) ?_); go_simp; done) | (simp only [frozen?_alloc_cells]; go_simp; done)
          have zW1_321 : W1.frozen? ⟨w.heap.size + 2, 0, none⟩ = false := by rw [← hW]; clear hW; first | (go_simp; done) | ((repeat refine keepcell ((Below.refl _ _).alloc (Nat.le_refl _) _) ?_); go_simp; done) | (simp only [frozen?_alloc_cells]; go_simp; done)
          have kW1_322 : W1.cell? ⟨w.heap.size + 2, 1, none⟩ = some (.int .i64 (0)) := by rw [← hW]; clear hW; first | (go_simp; done) | ((repeat refine keepcell ((Below.refl _ _).alloc (Nat.le_refl _) _) ?_); go_simp; done) | (simp only [frozen?_alloc_cells]; go_simp; done)
          have zW1_322 : W1.frozen? ⟨w.heap.size + 2, 1, none⟩ = false := by rw [← hW]; clear hW; first | (go_simp; done) | ((repeat refine keepcell ((Below.refl _ _).alloc (Nat.le_refl _) _) ?_); go_simp; done) | (simp only [frozen?_alloc_cells]; go_simp; done)
          have : w.heap.size + 2 < W1.heap.size := World.block_lt_of_cell? W1 ⟨w.heap.size + 2, 0, none⟩ (by assumption)
          have hBW1 : Below w.heap.size w W1 := by rw [← hW]; (repeat' (first | assumption | exact Below.refl _ _ | apply Blw.alloc | apply Blw.drew | apply Blw.drewN | (refine Blw.after ?_ (by assumption)) | (refine Blw.set ?_ (by first | (dsimp only; omega) | (simp; done) | (simp; omega)) _)))
          have hsW1 := hBW1.size
          clear hW
          try clear kW0_311; try clear kW0_312; try clear kW0_313; try clear kW0_314; try clear kW0_315; try clear zW0_315; try clear kW0_316; try clear zW0_316; try clear hH; try clear hH1; try clear c6_0; try clear e6_0; try clear c6_1; try clear e6_1; try clear c7_0; try clear e7_0; try clear c7_1; try clear e7_1
          go_wp2_with (go_at_call 35; refine (small_c _ _ _).mono ?_; rintro e w1 ⟨rfl, hb⟩; have hk : Hld W1 w1 := heldM (by (repeat' (first | assumption | exact Below.refl _ _ | apply Blw.alloc | apply Blw.drew | apply Blw.drewN | (refine Blw.after ?_ (by assumption)) | (refine Blw.set ?_ (by first | (dsimp only; omega) | (simp; done) | (simp; omega)) _)))); have hk1 := hk.1)
          go_loopg [] (nrm x' y').toNat (fun k wr => GcdRel w 0 y x' y' b6 b7 k wr)
          case atStart => exact ⟨0, y, x', y', HX.out, HY.out, rfl, nrm_toNat _ _, by (repeat' (first | assumption | exact Below.refl _ _ | apply Blw.alloc | apply Blw.drew | apply Blw.drewN | (refine Blw.after ?_ (by assumption)) | (refine Blw.set ?_ (by first | (dsimp only; omega) | (simp; done) | (simp; omega)) _))), by go_simp, by go_simp, by go_simp, by go_simp, by go_simp, by go_simp, by go_simp, by go_simp, by go_simp, by go_simp, by go_simp, by go_simp⟩
          case round =>
            obtain ⟨a, b, c, d, hab, hcd, hg, hk, hBw, a0, a1, a2, a3, p0, p1, p2, p3, r0, r1, r2, r3⟩ := hrel
            have L2 : w.heap.size + 2 < wr.heap.size := World.block_lt_of_cell? wr _ r0
            have L6 : b6 < wr.heap.size := World.block_lt_of_cell? wr _ a0
            have L7 : b7 < wr.heap.size := World.block_lt_of_cell? wr _ p0
            have Hg := Lib.hid hg
            have Hk := Lib.hid hk
            clear hg hk
            by_cases hz : c = 0 ∧ d = 0
            · obtain ⟨rfl, rfl⟩ := hz
              have He : gcdX 0 y x' y' = a ∧ gcdY 0 y x' y' = b := by
                unfold gcdX gcdY; rw [← Hg.out, gcdF_zero]; exact ⟨rfl, rfl⟩
              have HE := Lib.hid He
              clear He
              go_wp2_with (first | (go_at_call 47; refine (first_c _ _ _ hab).mono ?_; rintro e w1 ⟨rfl, hb⟩; have hk : Hld wr w1 := heldM (by (repeat' (first | assumption | exact Below.refl _ _ | apply Blw.alloc | apply Blw.drew | apply Blw.drewN | (refine Blw.after ?_ (by assumption)) | (refine Blw.set ?_ (by first | (dsimp only; omega) | (simp; done) | (simp; omega)) _)))); have hk1 := hk.1) | (go_at_call 45; refine (gauss_c _ _ _).mono ?_; rintro e w1 ⟨rfl, hb⟩; have hk : Hld wr w1 := heldM (by (repeat' (first | assumption | exact Below.refl _ _ | apply Blw.alloc | apply Blw.drew | apply Blw.drewN | (refine Blw.after ?_ (by assumption)) | (refine Blw.set ?_ (by first | (dsimp only; omega) | (simp; done) | (simp; omega)) _)))); have hk1 := hk.1))
              exact bodyPost_ret (v := res2 true (firstX a b) (firstY a b)) (by simp [results, Try.results27, go_sem, sel_t, *]) rfl ⟨by rw [HB.out, HE.out.1, HE.out.2], by (repeat' (first | assumption | exact Below.refl _ _ | apply Blw.alloc | apply Blw.drew | apply Blw.drewN | (refine Blw.after ?_ (by assumption)) | (refine Blw.set ?_ (by first | (dsimp only; omega) | (simp; done) | (simp; omega)) _)))⟩
            · have hn := nrm_pos hz
              obtain ⟨k', hk1, hk2, hk3⟩ := gcdF_step (x := a) (y := b) hz Hk.out
              have HD := Lib.hid (rest_in (x := a) (y := b) hn hcd)
              have H1 := Lib.hid hk1
              have H2 := Lib.hid hk2
              have H3 := Lib.hid (hk3.trans Hg.out)
              have T : ¬ c = 0 ∨ (c = 0 ∧ ¬ d = 0) := by omega
              clear hz hk1 hk2 hk3
              rcases T with T | ⟨rfl, T⟩
              · skip
                go_wp2_with (fail)
                refine (divide_c _ _ _ _ _ hab hcd hn).mono ?_
                rintro e wA ⟨rfl, hbwA⟩
                have hkwA : Hld wr wA := heldM (by (repeat' (first | assumption | exact Below.refl _ _ | apply Blw.alloc | apply Blw.drew | apply Blw.drewN | (refine Blw.after ?_ (by assumption)) | (refine Blw.set ?_ (by first | (dsimp only; omega) | (simp; done) | (simp; omega)) _))))
                have hlwA := hkwA.1
                have hswA := hkwA.2.2.2
                try (have : b6 < wA.heap.size := by omega)
                try (have : b7 < wA.heap.size := by omega)
                try (have : w.heap.size + 2 < wA.heap.size := by omega)
                go_wp2_with fail
                generalize hW : World.alloc _ _ = W2
                have kW2_323 : W2.cell? ⟨b6, 0, none⟩ = some (.int .i64 (a)) := by rw [← hW]; clear hW; first | (go_simp; done) | ((repeat refine keepcell ((Below.refl _ _).alloc (Nat.le_refl _) _) ?_); go_simp; done) | (simp only [frozen?_alloc_cells]; go_simp; done)
                have zW2_323 : W2.frozen? ⟨b6, 0, none⟩ = false := by rw [← hW]; clear hW; first | (go_simp; done) | ((repeat refine keepcell ((Below.refl _ _).alloc (Nat.le_refl _) _) ?_); go_simp; done) | (simp only [frozen?_alloc_cells]; go_simp; done)
                have kW2_324 : W2.cell? ⟨b6, 1, none⟩ = some (.int .i64 (b)) := by rw [← hW]; clear hW; first | (go_simp; done) | ((repeat refine keepcell ((Below.refl _ _).alloc (Nat.le_refl _) _) ?_); go_simp; done) | (simp only [frozen?_alloc_cells]; go_simp; done)
                have zW2_324 : W2.frozen? ⟨b6, 1, none⟩ = false := by rw [← hW]; clear hW; first | (go_simp; done) | ((repeat refine keepcell ((Below.refl _ _).alloc (Nat.le_refl _) _) ?_); go_simp; done) | (simp only [frozen?_alloc_cells]; go_simp; done)
                have : b6 < W2.heap.size := World.block_lt_of_cell? W2 ⟨b6, 0, none⟩ (by assumption)
                have kW2_325 : W2.cell? ⟨b7, 0, none⟩ = some (.int .i64 (c)) := by rw [← hW]; clear hW; first | (go_simp; done) | ((repeat refine keepcell ((Below.refl _ _).alloc (Nat.le_refl _) _) ?_); go_simp; done) | (simp only [frozen?_alloc_cells]; go_simp; done)
                have zW2_325 : W2.frozen? ⟨b7, 0, none⟩ = false := by rw [← hW]; clear hW; first | (go_simp; done) | ((repeat refine keepcell ((Below.refl _ _).alloc (Nat.le_refl _) _) ?_); go_simp; done) | (simp only [frozen?_alloc_cells]; go_simp; done)
                have kW2_326 : W2.cell? ⟨b7, 1, none⟩ = some (.int .i64 (d)) := by rw [← hW]; clear hW; first | (go_simp; done) | ((repeat refine keepcell ((Below.refl _ _).alloc (Nat.le_refl _) _) ?_); go_simp; done) | (simp only [frozen?_alloc_cells]; go_simp; done)
                have zW2_326 : W2.frozen? ⟨b7, 1, none⟩ = false := by rw [← hW]; clear hW; first | (go_simp; done) | ((repeat refine keepcell ((Below.refl _ _).alloc (Nat.le_refl _) _) ?_); go_simp; done) | (simp only [frozen?_alloc_cells]; go_simp; done)
                have : b7 < W2.heap.size := World.block_lt_of_cell? W2 ⟨b7, 0, none⟩ (by assumption)
                have kW2_327 : W2.cell? ⟨w.heap.size + 2, 0, none⟩ = some (.int .i64 (0)) := by rw [← hW]; clear hW; first | (go_simp; done) | ((repeat refine keepcell ((Below.refl _ _).alloc (Nat.le_refl _) _) ?_); go_simp; done) | (simp only [frozen?_alloc_cells]; go_simp; done)
                have zW2_327 : W2.frozen? ⟨w.heap.size + 2, 0, none⟩ = false := by rw [← hW]; clear hW; first | (go_simp; done) | ((repeat refine keepcell ((Below.refl _ _).alloc (Nat.le_refl _) _) ?_); go_simp; done) | (simp only [frozen?_alloc_cells]; go_simp; done)
                have kW2_328 : W2.cell? ⟨w.heap.size + 2, 1, none⟩ = some (.int .i64 (0)) := by rw [← hW]; clear hW; first | (go_simp; done) | ((repeat refine keepcell ((Below.refl _ _).alloc (Nat.le_refl _) _) ?_); go_simp; done) | (simp only [frozen?_alloc_cells]; go_simp; done)
                have zW2_328 : W2.frozen? ⟨w.heap.size + 2, 1, none⟩ = false := by rw [← hW]; clear hW; first | (go_simp; done) | ((repeat refine keepcell ((Below.refl _ _).alloc (Nat.le_refl _) _) ?_); go_simp; done) | (simp only [frozen?_alloc_cells]; go_simp; done)
                have : w.heap.size + 2 < W2.heap.size := World.block_lt_of_cell? W2 ⟨w.heap.size + 2, 0, none⟩ (by assumption)
                have kW2_329 : W2.cell? ⟨wA.heap.size + 1, 0, none⟩ = some (.int .i64 ((rx a b c d))) := by rw [← hW]; clear hW; first | (go_simp; done) | ((repeat refine keepcell ((Below.refl _ _).alloc (Nat.le_refl _) _) ?_); go_simp; done) | (simp only [frozen?_alloc_cells]; go_simp; done)
                have kW2_330 : W2.cell? ⟨wA.heap.size + 1, 1, none⟩ = some (.int .i64 ((ry a b c d))) := by rw [← hW]; clear hW; first | (go_simp; done) | ((repeat refine keepcell ((Below.refl _ _).alloc (Nat.le_refl _) _) ?_); go_simp; done) | (simp only [frozen?_alloc_cells]; go_simp; done)
                have : wA.heap.size + 1 < W2.heap.size := World.block_lt_of_cell? W2 ⟨wA.heap.size + 1, 0, none⟩ (by assumption)
                have hBW2 : Below w.heap.size w W2 := by rw [← hW]; (repeat' (first | assumption | exact Below.refl _ _ | apply Blw.alloc | apply Blw.drew | apply Blw.drewN | (refine Blw.after ?_ (by assumption)) | (refine Blw.set ?_ (by first | (dsimp only; omega) | (simp; done) | (simp; omega)) _)))
                have hsW2 := hBW2.size
                clear hW
                try clear kW1_317; try clear zW1_317; try clear kW1_318; try clear zW1_318; try clear kW1_319; try clear zW1_319; try clear kW1_320; try clear zW1_320; try clear kW1_321; try clear zW1_321; try clear kW1_322; try clear zW1_322; try clear hbwA; try clear hkwA; try clear hlwA
                refine region_slots (fun w' => w'.cell? ⟨wA.heap.size + 1, 0, none⟩ = some (.int .i64 ((rx a b c d))) ∧ w'.cell? ⟨wA.heap.size + 1, 1, none⟩ = some (.int .i64 ((ry a b c d)))) [1] [(42, .is (pr c d)), (43, .is (pr (rx a b c d) (ry a b c d)))] (by kernel_rfl) (by kernel_rfl) (by kernel_rfl) (fun w' hH => by go_simp) (fun _ _ _ _ _ _ h => h) ?_
                simp only [Steps, List.contains_cons, List.contains_nil, Nat.reduceBEq, Nat.reduceAdd, Bool.or_false, Bool.false_or, Bool.or_true, Bool.true_or, Bool.false_eq_true, if_false, if_true]
                refine ⟨?_, ?_, ?_⟩
                · intro u w2 hH hd K hK
                  simp only [setU, upd, List.map_cons, List.map_nil, List.contains_cons, List.contains_nil, Nat.reduceBEq, Nat.reduceAdd, Bool.or_false, Bool.false_or, Bool.or_true, Bool.true_or, Bool.false_eq_true, if_false, if_true, ite_true, ite_false, Nat.reduceEqDiff, beq_self_eq_true] at hK ⊢
                  go_wp2_with (fail)
                  exact hK _ _ (by (repeat' (first | assumption | exact Below.refl _ _ | apply Blw.alloc | apply Blw.drew | apply Blw.drewN | (refine Blw.after ?_ (by assumption)) | (refine Blw.set ?_ (by first | (dsimp only; omega) | (simp; done) | (simp; omega)) _)))) rfl
                · intro u w2 hH hd
                  simp only [setU, upd, List.map_cons, List.map_nil, List.contains_cons, List.contains_nil, Nat.reduceBEq, Nat.reduceAdd, Bool.or_false, Bool.false_or, Bool.or_true, Bool.true_or, Bool.false_eq_true, if_false, if_true, ite_true, ite_false, Nat.reduceEqDiff, beq_self_eq_true]
                  refine ⟨(pr (rx a b c d) (ry a b c d)), fun w hS => ?_, by first | rfl | trivial, by first | rfl | trivial, by first | rfl | trivial⟩
                  first | (go_simp; done) | (go_simp; exact IntWalk.i64_in _ (by omega))
                intro u w2 hH hF hne
                have hH1 := hH.1
                have hH2 := hH.2.2.2
                simp only [allFacts, SlotFact.h] at hF
                obtain ⟨f42, f43, -⟩ := hF
                simp only [setU, upd, List.map_cons, List.map_nil, List.contains_cons, List.contains_nil, Nat.reduceBEq, Nat.reduceAdd, Bool.or_false, Bool.false_or, Bool.or_true, Bool.true_or, Bool.false_eq_true, if_false, if_true, ite_true, ite_false, Nat.reduceEqDiff, beq_self_eq_true]
                rw [f42, f43]
                clear f42 f43 hne
                refine wpListS_step fun K hK => ?_
                go_wp2_with (fail)
                refine hK _ _ (by go_simp) ?_
                clear hK
                refine wpListS_step fun K hK => ?_
                go_wp2_with (fail)
                refine hK _ _ (by go_simp) ?_
                clear hK
                refine wpListS_nil ?_
                go_wp2_with fail
                go_roundg k'
                case measure => exact H1.out
                case rel => exact ⟨_, _, _, _, hcd, HD.out, H3.out, H2.out, by (repeat' (first | assumption | exact Below.refl _ _ | apply Blw.alloc | apply Blw.drew | apply Blw.drewN | (refine Blw.after ?_ (by assumption)) | (refine Blw.set ?_ (by first | (dsimp only; omega) | (simp; done) | (simp; omega)) _))), by go_simp, by go_simp, by go_simp, by go_simp, by go_simp, by go_simp, by go_simp, by go_simp, by go_simp, by go_simp, by go_simp, by go_simp⟩
              · skip
                go_wp2_with (fail)
                refine (divide_c _ _ _ _ _ hab hcd hn).mono ?_
                rintro e wA ⟨rfl, hbwA⟩
                have hkwA : Hld wr wA := heldM (by (repeat' (first | assumption | exact Below.refl _ _ | apply Blw.alloc | apply Blw.drew | apply Blw.drewN | (refine Blw.after ?_ (by assumption)) | (refine Blw.set ?_ (by first | (dsimp only; omega) | (simp; done) | (simp; omega)) _))))
                have hlwA := hkwA.1
                have hswA := hkwA.2.2.2
                try (have : b6 < wA.heap.size := by omega)
                try (have : b7 < wA.heap.size := by omega)
                try (have : w.heap.size + 2 < wA.heap.size := by omega)
                go_wp2_with fail
                generalize hW : World.alloc _ _ = W2
                have kW2_331 : W2.cell? ⟨b6, 0, none⟩ = some (.int .i64 (a)) := by rw [← hW]; clear hW; first | (go_simp; done) | ((repeat refine keepcell ((Below.refl _ _).alloc (Nat.le_refl _) _) ?_); go_simp; done) | (simp only [frozen?_alloc_cells]; go_simp; done)
                have zW2_331 : W2.frozen? ⟨b6, 0, none⟩ = false := by rw [← hW]; clear hW; first | (go_simp; done) | ((repeat refine keepcell ((Below.refl _ _).alloc (Nat.le_refl _) _) ?_); go_simp; done) | (simp only [frozen?_alloc_cells]; go_simp; done)
                have kW2_332 : W2.cell? ⟨b6, 1, none⟩ = some (.int .i64 (b)) := by rw [← hW]; clear hW; first | (go_simp; done) | ((repeat refine keepcell ((Below.refl _ _).alloc (Nat.le_refl _) _) ?_); go_simp; done) | (simp only [frozen?_alloc_cells]; go_simp; done)
                have zW2_332 : W2.frozen? ⟨b6, 1, none⟩ = false := by rw [← hW]; clear hW; first | (go_simp; done) | ((repeat refine keepcell ((Below.refl _ _).alloc (Nat.le_refl _) _) ?_); go_simp; done) | (simp only [frozen?_alloc_cells]; go_simp; done)
                have : b6 < W2.heap.size := World.block_lt_of_cell? W2 ⟨b6, 0, none⟩ (by assumption)
                have kW2_333 : W2.cell? ⟨b7, 0, none⟩ = some (.int .i64 (0)) := by rw [← hW]; clear hW; first | (go_simp; done) | ((repeat refine keepcell ((Below.refl _ _).alloc (Nat.le_refl _) _) ?_); go_simp; done) | (simp only [frozen?_alloc_cells]; go_simp; done)
                have zW2_333 : W2.frozen? ⟨b7, 0, none⟩ = false := by rw [← hW]; clear hW; first | (go_simp; done) | ((repeat refine keepcell ((Below.refl _ _).alloc (Nat.le_refl _) _) ?_); go_simp; done) | (simp only [frozen?_alloc_cells]; go_simp; done)
                have kW2_334 : W2.cell? ⟨b7, 1, none⟩ = some (.int .i64 (d)) := by rw [← hW]; clear hW; first | (go_simp; done) | ((repeat refine keepcell ((Below.refl _ _).alloc (Nat.le_refl _) _) ?_); go_simp; done) | (simp only [frozen?_alloc_cells]; go_simp; done)
                have zW2_334 : W2.frozen? ⟨b7, 1, none⟩ = false := by rw [← hW]; clear hW; first | (go_simp; done) | ((repeat refine keepcell ((Below.refl _ _).alloc (Nat.le_refl _) _) ?_); go_simp; done) | (simp only [frozen?_alloc_cells]; go_simp; done)
                have : b7 < W2.heap.size := World.block_lt_of_cell? W2 ⟨b7, 0, none⟩ (by assumption)
                have kW2_335 : W2.cell? ⟨w.heap.size + 2, 0, none⟩ = some (.int .i64 (0)) := by rw [← hW]; clear hW; first | (go_simp; done) | ((repeat refine keepcell ((Below.refl _ _).alloc (Nat.le_refl _) _) ?_); go_simp; done) | (simp only [frozen?_alloc_cells]; go_simp; done)
                have zW2_335 : W2.frozen? ⟨w.heap.size + 2, 0, none⟩ = false := by rw [← hW]; clear hW; first | (go_simp; done) | ((repeat refine keepcell ((Below.refl _ _).alloc (Nat.le_refl _) _) ?_); go_simp; done) | (simp only [frozen?_alloc_cells]; go_simp; done)
                have kW2_336 : W2.cell? ⟨w.heap.size + 2, 1, none⟩ = some (.int .i64 (0)) := by rw [← hW]; clear hW; first | (go_simp; done) | ((repeat refine keepcell ((Below.refl _ _).alloc (Nat.le_refl _) _) ?_); go_simp; done) | (simp only [frozen?_alloc_cells]; go_simp; done)
                have zW2_336 : W2.frozen? ⟨w.heap.size + 2, 1, none⟩ = false := by rw [← hW]; clear hW; first | (go_simp; done) | ((repeat refine keepcell ((Below.refl _ _).alloc (Nat.le_refl _) _) ?_); go_simp; done) | (simp only [frozen?_alloc_cells]; go_simp; done)
                have : w.heap.size + 2 < W2.heap.size := World.block_lt_of_cell? W2 ⟨w.heap.size + 2, 0, none⟩ (by assumption)
                have kW2_337 : W2.cell? ⟨wA.heap.size + 1, 0, none⟩ = some (.int .i64 ((rx a b 0 d))) := by rw [← hW]; clear hW; first | (go_simp; done) | ((repeat refine keepcell ((Below.refl _ _).alloc (Nat.le_refl _) _) ?_); go_simp; done) | (simp only [frozen?_alloc_cells]; go_simp; done)
                have kW2_338 : W2.cell? ⟨wA.heap.size + 1, 1, none⟩ = some (.int .i64 ((ry a b 0 d))) := by rw [← hW]; clear hW; first | (go_simp; done) | ((repeat refine keepcell ((Below.refl _ _).alloc (Nat.le_refl _) _) ?_); go_simp; done) | (simp only [frozen?_alloc_cells]; go_simp; done)
                have : wA.heap.size + 1 < W2.heap.size := World.block_lt_of_cell? W2 ⟨wA.heap.size + 1, 0, none⟩ (by assumption)
                have hBW2 : Below w.heap.size w W2 := by rw [← hW]; (repeat' (first | assumption | exact Below.refl _ _ | apply Blw.alloc | apply Blw.drew | apply Blw.drewN | (refine Blw.after ?_ (by assumption)) | (refine Blw.set ?_ (by first | (dsimp only; omega) | (simp; done) | (simp; omega)) _)))
                have hsW2 := hBW2.size
                clear hW
                try clear kW2_323; try clear zW2_323; try clear kW2_324; try clear zW2_324; try clear kW2_325; try clear zW2_325; try clear kW2_326; try clear zW2_326; try clear kW2_327; try clear zW2_327; try clear kW2_328; try clear zW2_328; try clear kW2_329; try clear kW2_330; try clear hH; try clear hH1; try clear hbwA; try clear hkwA; try clear hlwA
                refine region_slots (fun w' => w'.cell? ⟨wA.heap.size + 1, 0, none⟩ = some (.int .i64 ((rx a b 0 d))) ∧ w'.cell? ⟨wA.heap.size + 1, 1, none⟩ = some (.int .i64 ((ry a b 0 d)))) [1] [(42, .is (pr 0 d)), (43, .is (pr (rx a b 0 d) (ry a b 0 d)))] (by kernel_rfl) (by kernel_rfl) (by kernel_rfl) (fun w' hH => by go_simp) (fun _ _ _ _ _ _ h => h) ?_
                simp only [Steps, List.contains_cons, List.contains_nil, Nat.reduceBEq, Nat.reduceAdd, Bool.or_false, Bool.false_or, Bool.or_true, Bool.true_or, Bool.false_eq_true, if_false, if_true]
                refine ⟨?_, ?_, ?_⟩
                · intro u w2 hH hd K hK
                  simp only [setU, upd, List.map_cons, List.map_nil, List.contains_cons, List.contains_nil, Nat.reduceBEq, Nat.reduceAdd, Bool.or_false, Bool.false_or, Bool.or_true, Bool.true_or, Bool.false_eq_true, if_false, if_true, ite_true, ite_false, Nat.reduceEqDiff, beq_self_eq_true] at hK ⊢
                  go_wp2_with (fail)
                  exact hK _ _ (by (repeat' (first | assumption | exact Below.refl _ _ | apply Blw.alloc | apply Blw.drew | apply Blw.drewN | (refine Blw.after ?_ (by assumption)) | (refine Blw.set ?_ (by first | (dsimp only; omega) | (simp; done) | (simp; omega)) _)))) rfl
                · intro u w2 hH hd
                  simp only [setU, upd, List.map_cons, List.map_nil, List.contains_cons, List.contains_nil, Nat.reduceBEq, Nat.reduceAdd, Bool.or_false, Bool.false_or, Bool.or_true, Bool.true_or, Bool.false_eq_true, if_false, if_true, ite_true, ite_false, Nat.reduceEqDiff, beq_self_eq_true]
                  refine ⟨(pr (rx a b 0 d) (ry a b 0 d)), fun w hS => ?_, by first | rfl | trivial, by first | rfl | trivial, by first | rfl | trivial⟩
                  first | (go_simp; done) | (go_simp; exact IntWalk.i64_in _ (by omega))
                intro u w2 hH hF hne
                have hH1 := hH.1
                have hH2 := hH.2.2.2
                simp only [allFacts, SlotFact.h] at hF
                obtain ⟨f42, f43, -⟩ := hF
                simp only [setU, upd, List.map_cons, List.map_nil, List.contains_cons, List.contains_nil, Nat.reduceBEq, Nat.reduceAdd, Bool.or_false, Bool.false_or, Bool.or_true, Bool.true_or, Bool.false_eq_true, if_false, if_true, ite_true, ite_false, Nat.reduceEqDiff, beq_self_eq_true]
                rw [f42, f43]
                clear f42 f43 hne
                refine wpListS_step fun K hK => ?_
                go_wp2_with (fail)
                refine hK _ _ (by go_simp) ?_
                clear hK
                refine wpListS_step fun K hK => ?_
                go_wp2_with (fail)
                refine hK _ _ (by go_simp) ?_
                clear hK
                refine wpListS_nil ?_
                go_wp2_with fail
                go_roundg k'
                case measure => exact H1.out
                case rel => exact ⟨_, _, _, _, hcd, HD.out, H3.out, H2.out, by (repeat' (first | assumption | exact Below.refl _ _ | apply Blw.alloc | apply Blw.drew | apply Blw.drewN | (refine Blw.after ?_ (by assumption)) | (refine Blw.set ?_ (by first | (dsimp only; omega) | (simp; done) | (simp; omega)) _))), by go_simp, by go_simp, by go_simp, by go_simp, by go_simp, by go_simp, by go_simp, by go_simp, by go_simp, by go_simp, by go_simp, by go_simp⟩
        · go_enter Try.func27, Try.ntmps27
          go_wp2_with fail
          generalize hW : World.alloc _ _ = W0
          have kW0_339 : W0.cell? ⟨w.heap.size, 0, none⟩ = some (.int .i64 (0)) := by rw [← hW]; clear hW; first | (go_simp; done) | ((repeat refine keepcell ((Below.refl _ _).alloc (Nat.le_refl _) _) ?_); go_simp; done) | (simp only [frozen?_alloc_cells]; go_simp; done)
          have kW0_340 : W0.cell? ⟨w.heap.size, 1, none⟩ = some (.int .i64 (0)) := by rw [← hW]; clear hW; first | (go_simp; done) | ((repeat refine keepcell ((Below.refl _ _).alloc (Nat.le_refl _) _) ?_); go_simp; done) | (simp only [frozen?_alloc_cells]; go_simp; done)
          have : w.heap.size < W0.heap.size := World.block_lt_of_cell? W0 ⟨w.heap.size, 0, none⟩ (by assumption)
          have kW0_341 : W0.cell? ⟨w.heap.size + 1, 0, none⟩ = some (.int .i64 (x')) := by rw [← hW]; clear hW; first | (go_simp; done) | ((repeat refine keepcell ((Below.refl _ _).alloc (Nat.le_refl _) _) ?_); go_simp; done) | (simp only [frozen?_alloc_cells]; go_simp; done)
          have kW0_342 : W0.cell? ⟨w.heap.size + 1, 1, none⟩ = some (.int .i64 (y')) := by rw [← hW]; clear hW; first | (go_simp; done) | ((repeat refine keepcell ((Below.refl _ _).alloc (Nat.le_refl _) _) ?_); go_simp; done) | (simp only [frozen?_alloc_cells]; go_simp; done)
          have : w.heap.size + 1 < W0.heap.size := World.block_lt_of_cell? W0 ⟨w.heap.size + 1, 0, none⟩ (by assumption)
          have kW0_343 : W0.cell? ⟨w.heap.size + 2, 0, none⟩ = some (.int .i64 (0)) := by rw [← hW]; clear hW; first | (go_simp; done) | ((repeat refine keepcell ((Below.refl _ _).alloc (Nat.le_refl _) _) ?_); go_simp; done) | (simp only [frozen?_alloc_cells]; go_simp; done)
          have zW0_343 : W0.frozen? ⟨w.heap.size + 2, 0, none⟩ = false := by rw [← hW]; clear hW; first | (go_simp; done) | ((repeat refine keepcell ((Below.refl _ _).alloc (Nat.le_refl _) _) ?_); go_simp; done) | (simp only [frozen?_alloc_cells]; go_simp; done)
          have kW0_344 : W0.cell? ⟨w.heap.size + 2, 1, none⟩ = some (.int .i64 (0)) := by rw [← hW]; clear hW; first | (go_simp; done) | ((repeat refine keepcell ((Below.refl _ _).alloc (Nat.le_refl _) _) ?_); go_simp; done) | (simp only [frozen?_alloc_cells]; go_simp; done)
          have zW0_344 : W0.frozen? ⟨w.heap.size + 2, 1, none⟩ = false := by rw [← hW]; clear hW; first | (go_simp; done) | ((repeat refine keepcell ((Below.refl _ _).alloc (Nat.le_refl _) _) ?_); go_simp; done) | (simp only [frozen?_alloc_cells]; go_simp; done)
          have : w.heap.size + 2 < W0.heap.size := World.block_lt_of_cell? W0 ⟨w.heap.size + 2, 0, none⟩ (by assumption)
          have hBW0 : Below w.heap.size w W0 := by rw [← hW]; (repeat' (first | assumption | exact Below.refl _ _ | apply Blw.alloc | apply Blw.drew | apply Blw.drewN | (refine Blw.after ?_ (by assumption)) | (refine Blw.set ?_ (by first | (dsimp only; omega) | (simp; done) | (simp; omega)) _)))
          have hsW0 := hBW0.size
          clear hW
          refine region_slots (fun _ => True) [] [(10, .is (pr 0 0)), (11, .is (pr 0 0)), (12, .is (pr x' y')), (13, .is (pr x' y')), (6, .own [.int .i64 0, .int .i64 0]), (7, .own [.int .i64 0, .int .i64 0])] (by kernel_rfl) (by kernel_rfl) (by kernel_rfl) (fun _ _ => trivial) (fun _ _ _ _ _ _ h => h) ?_
          simp only [Steps, List.contains_cons, List.contains_nil, Nat.reduceBEq, Nat.reduceAdd, Bool.or_false, Bool.false_or, Bool.or_true, Bool.true_or, Bool.false_eq_true, if_false, if_true]
          refine ⟨?_, ?_, ?_, ?_, ?_, ?_, ?_⟩
          · intro u w2 hH hd K hK
            simp only [setU, upd, List.map_cons, List.map_nil, List.contains_cons, List.contains_nil, Nat.reduceBEq, Nat.reduceAdd, Bool.or_false, Bool.false_or, Bool.or_true, Bool.true_or, Bool.false_eq_true, if_false, if_true, ite_true, ite_false, Nat.reduceEqDiff, beq_self_eq_true] at hK ⊢
            go_wp2_with (fail)
            exact hK _ _ (by (repeat' (first | assumption | exact Below.refl _ _ | apply Blw.alloc | apply Blw.drew | apply Blw.drewN | (refine Blw.after ?_ (by assumption)) | (refine Blw.set ?_ (by first | (dsimp only; omega) | (simp; done) | (simp; omega)) _)))) rfl
          · intro u w2 hH hd K hK
            have f10 : u 10 = (pr 0 0) := hd 10 (by kernel_rfl)
            simp only [setU, upd, List.map_cons, List.map_nil, List.contains_cons, List.contains_nil, Nat.reduceBEq, Nat.reduceAdd, Bool.or_false, Bool.false_or, Bool.or_true, Bool.true_or, Bool.false_eq_true, if_false, if_true, ite_true, ite_false, Nat.reduceEqDiff, beq_self_eq_true] at hK ⊢
            rw [f10] at hK ⊢
            clear f10
            go_wp2_with ((go_at_call 34; refine (gPair_c _ _ _).mono ?_; rintro e w1 ⟨rfl, hb⟩; obtain ⟨hc, hf⟩ := bcell hb; have hz := bsize hb; have hs := hb.size; try simp at hs))
            exact hK _ _ (by (repeat' (first | assumption | exact Below.refl _ _ | apply Blw.alloc | apply Blw.drew | apply Blw.drewN | (refine Blw.after ?_ (by assumption)) | (refine Blw.set ?_ (by first | (dsimp only; omega) | (simp; done) | (simp; omega)) _)))) rfl
          · intro u w2 hH hd K hK
            simp only [setU, upd, List.map_cons, List.map_nil, List.contains_cons, List.contains_nil, Nat.reduceBEq, Nat.reduceAdd, Bool.or_false, Bool.false_or, Bool.or_true, Bool.true_or, Bool.false_eq_true, if_false, if_true, ite_true, ite_false, Nat.reduceEqDiff, beq_self_eq_true] at hK ⊢
            go_wp2_with (fail)
            exact hK _ _ (by (repeat' (first | assumption | exact Below.refl _ _ | apply Blw.alloc | apply Blw.drew | apply Blw.drewN | (refine Blw.after ?_ (by assumption)) | (refine Blw.set ?_ (by first | (dsimp only; omega) | (simp; done) | (simp; omega)) _)))) rfl
          · intro u w2 hH hd K hK
            have f12 : u 12 = (pr x' y') := hd 12 (by kernel_rfl)
            simp only [setU, upd, List.map_cons, List.map_nil, List.contains_cons, List.contains_nil, Nat.reduceBEq, Nat.reduceAdd, Bool.or_false, Bool.false_or, Bool.or_true, Bool.true_or, Bool.false_eq_true, if_false, if_true, ite_true, ite_false, Nat.reduceEqDiff, beq_self_eq_true] at hK ⊢
            rw [f12] at hK ⊢
            clear f12
            go_wp2_with ((go_at_call 34; refine (gPair_c _ _ _).mono ?_; rintro e w1 ⟨rfl, hb⟩; obtain ⟨hc, hf⟩ := bcell hb; have hz := bsize hb; have hs := hb.size; try simp at hs))
            exact hK _ _ (by (repeat' (first | assumption | exact Below.refl _ _ | apply Blw.alloc | apply Blw.drew | apply Blw.drewN | (refine Blw.after ?_ (by assumption)) | (refine Blw.set ?_ (by first | (dsimp only; omega) | (simp; done) | (simp; omega)) _)))) rfl
          · intro u w2 hH hd K hK
            simp only [setU, upd, List.map_cons, List.map_nil, List.contains_cons, List.contains_nil, Nat.reduceBEq, Nat.reduceAdd, Bool.or_false, Bool.false_or, Bool.or_true, Bool.true_or, Bool.false_eq_true, if_false, if_true, ite_true, ite_false, Nat.reduceEqDiff, beq_self_eq_true] at hK ⊢
            go_wp2_with (fail)
            exact hK _ _ (by (repeat' (first | assumption | exact Below.refl _ _ | apply Blw.alloc | apply Blw.drew | apply Blw.drewN | (refine Blw.after ?_ (by assumption)) | (refine Blw.set ?_ (by first | (dsimp only; omega) | (simp; done) | (simp; omega)) _)))) (OwnP.new _ _ _)
          · intro u w2 hH hd K hK
            simp only [setU, upd, List.map_cons, List.map_nil, List.contains_cons, List.contains_nil, Nat.reduceBEq, Nat.reduceAdd, Bool.or_false, Bool.false_or, Bool.or_true, Bool.true_or, Bool.false_eq_true, if_false, if_true, ite_true, ite_false, Nat.reduceEqDiff, beq_self_eq_true] at hK ⊢
            go_wp2_with (fail)
            exact hK _ _ (by (repeat' (first | assumption | exact Below.refl _ _ | apply Blw.alloc | apply Blw.drew | apply Blw.drewN | (refine Blw.after ?_ (by assumption)) | (refine Blw.set ?_ (by first | (dsimp only; omega) | (simp; done) | (simp; omega)) _)))) (OwnP.new _ _ _)
          intro u w2 hH hF hne
          have hH1 := hH.1
          have hH2 := hH.2.2.2
          simp only [allFacts, SlotFact.h] at hF
          obtain ⟨f10, f11, f12, f13, ⟨b6, f6, g6, l6, k6, z6⟩, ⟨b7, f7, g7, l7, k7, z7⟩, -⟩ := hF
          have n6_7 : b6 ≠ b7 := by have h := hne 6 7 (by kernel_rfl) (by kernel_rfl) (by decide); rw [f6, f7] at h; exact h
          simp only [setU, upd, List.map_cons, List.map_nil, List.contains_cons, List.contains_nil, Nat.reduceBEq, Nat.reduceAdd, Bool.or_false, Bool.false_or, Bool.or_true, Bool.true_or, Bool.false_eq_true, if_false, if_true, ite_true, ite_false, Nat.reduceEqDiff, beq_self_eq_true]
          rw [f10, f11, f12, f13, f6, f7]
          clear f10 f11 f12 f13 f6 f7 hne
          have c6_0 := k6 0 _ rfl
          have e6_0 := z6 0 (by simp)
          have c6_1 := k6 1 _ rfl
          have e6_1 := z6 1 (by simp)
          clear k6 z6
          have c7_0 := k7 0 _ rfl
          have e7_0 := z7 0 (by simp)
          have c7_1 := k7 1 _ rfl
          have e7_1 := z7 1 (by simp)
          clear k7 z7
          refine wpListS_true ?_
          have gg6 : w.heap.size + 2 < b6 := by omega
          have gg7 : w.heap.size + 2 < b7 := by omega
          go_wp2_with fail
          generalize hW : World.setCell _ _ _ = W1
          have kW1_345 : W1.cell? ⟨b6, 0, none⟩ = some (.int .i64 (0)) := by rw [← hW]; clear hW; first | (go_simp; done) | ((repeat refine keepcell ((Below.refl _ _).alloc (Nat.le_refl _) _) ?_); go_simp; done) | (simp only [frozen?_alloc_cells]; go_simp; done)
          have zW1_345 : W1.frozen? ⟨b6, 0, none⟩ = false := by rw [← hW]; clear hW; first | (go_simp; done) | ((repeat refine keepcell ((Below.refl _ _).alloc (Nat.le_refl _) _) ?_); go_simp; done) | (simp only [frozen?_alloc_cells]; go_simp; done)
          have kW1_346 : W1.cell? ⟨b6, 1, none⟩ = some (.int .i64 (0)) := by rw [← hW]; clear hW; first | (go_simp; done) | ((repeat refine keepcell ((Below.refl _ _).alloc (Nat.le_refl _) _) ?_); go_simp; done) | (simp only [frozen?_alloc_cells]; go_simp; done)
          have zW1_346 : W1.frozen? ⟨b6, 1, none⟩ = false := by rw [← hW]; clear hW; first | (go_simp; done) | ((repeat refine keepcell ((Below.refl _ _).alloc (Nat.le_refl _) _) ?_); go_simp; done) | (simp only [frozen?_alloc_cells]; go_simp; done)
          have : b6 < W1.heap.size := World.block_lt_of_cell? W1 ⟨b6, 0, none⟩ (by assumption)
          have kW1_347 : W1.cell? ⟨b7, 0, none⟩ = some (.int .i64 (x')) := by rw [← hW]; clear hW; first | (go_simp; done) | ((repeat refine keepcell ((Below.refl _ _).alloc (Nat.le_refl _) _) ?_); go_simp; done) | (simp only [frozen?_alloc_cells]; go_simp; done)
          have zW1_347 : W1.frozen? ⟨b7, 0, none⟩ = false := by rw [← hW]; clear hW; first | (go_simp; done) | ((repeat refine keepcell ((Below.refl _ _).alloc (Nat.le_refl _) _) ?_); go_simp; done) | (simp only [frozen?_alloc_cells]; go_simp; done)
          have kW1_348 : W1.cell? ⟨b7, 1, none⟩ = some (.int .i64 (y')) := by rw [← hW]; clear hW; first | (go_simp; done) | ((repeat refine keepcell ((Below.refl _ _).alloc (Nat.le_refl _) _) ?_); go_simp; done) | (simp only [frozen?_alloc_cells]; go_simp; done)
          have zW1_348 : W1.frozen? ⟨b7, 1, none⟩ = false := by rw [← hW]; clear hW; first | (go_simp; done) | ((repeat refine keepcell ((Below.refl _ _).alloc (Nat.le_refl _) _) ?_); go_simp; done) | (simp only [frozen?_alloc_cells]; go_simp; done)
          have : b7 < W1.heap.size := World.block_lt_of_cell? W1 ⟨b7, 0, none⟩ (by assumption)
          have kW1_349 : W1.cell? ⟨w.heap.size + 2, 0, none⟩ = some (.int .i64 (0)) := by rw [← hW]; clear hW; first | (go_simp; done) | ((repeat refine keepcell ((Below.refl _ _).alloc (Nat.le_refl _) _) ?_); go_simp; done) | (simp only [frozen?_alloc_cells]; go_simp; done)
          have zW1_349 : W1.frozen? ⟨w.heap.size + 2, 0, none⟩ = false := by rw [← hW]; clear hW; first | (go_simp; done) | ((repeat refine keepcell ((Below.refl _ _).alloc (Nat.le_refl _) _) ?_); go_simp; done) | (simp only [frozen?_alloc_cells]; go_simp; done)
          have kW1_350 : W1.cell? ⟨w.heap.size + 2, 1, none⟩ = some (.int .i64 (0)) := by rw [← hW]; clear hW; first | (go_simp; done) | ((repeat refine keepcell ((Below.refl _ _).alloc (Nat.le_refl _) _) ?_); go_simp; done) | (simp only [frozen?_alloc_cells]; go_simp; done)
          have zW1_350 : W1.frozen? ⟨w.heap.size + 2, 1, none⟩ = false := by rw [← hW]; clear hW; first | (go_simp; done) | ((repeat refine keepcell ((Below.refl _ _).alloc (Nat.le_refl _) _) ?_); go_simp; done) | (simp only [frozen?_alloc_cells]; go_simp; done)
          have : w.heap.size + 2 < W1.heap.size := World.block_lt_of_cell? W1 ⟨w.heap.size + 2, 0, none⟩ (by assumption)
          have hBW1 : Below w.heap.size w W1 := by rw [← hW]; (repeat' (first | assumption | exact Below.refl _ _ | apply Blw.alloc | apply Blw.drew | apply Blw.drewN | (refine Blw.after ?_ (by assumption)) | (refine Blw.set ?_ (by first | (dsimp only; omega) | (simp; done) | (simp; omega)) _)))
          have hsW1 := hBW1.size
          clear hW
          try clear kW0_339; try clear kW0_340; try clear kW0_341; try clear kW0_342; try clear kW0_343; try clear zW0_343; try clear kW0_344; try clear zW0_344; try clear hH; try clear hH1; try clear c6_0; try clear e6_0; try clear c6_1; try clear e6_1; try clear c7_0; try clear e7_0; try clear c7_1; try clear e7_1
          go_wp2_with (go_at_call 35; refine (small_c _ _ _).mono ?_; rintro e w1 ⟨rfl, hb⟩; have hk : Hld W1 w1 := heldM (by (repeat' (first | assumption | exact Below.refl _ _ | apply Blw.alloc | apply Blw.drew | apply Blw.drewN | (refine Blw.after ?_ (by assumption)) | (refine Blw.set ?_ (by first | (dsimp only; omega) | (simp; done) | (simp; omega)) _)))); have hk1 := hk.1)
          go_loopg [] (nrm x' y').toNat (fun k wr => GcdRel w 0 0 x' y' b6 b7 k wr)
          case atStart => exact ⟨0, 0, x', y', HX.out, HY.out, rfl, nrm_toNat _ _, by (repeat' (first | assumption | exact Below.refl _ _ | apply Blw.alloc | apply Blw.drew | apply Blw.drewN | (refine Blw.after ?_ (by assumption)) | (refine Blw.set ?_ (by first | (dsimp only; omega) | (simp; done) | (simp; omega)) _))), by go_simp, by go_simp, by go_simp, by go_simp, by go_simp, by go_simp, by go_simp, by go_simp, by go_simp, by go_simp, by go_simp, by go_simp⟩
          case round =>
            obtain ⟨a, b, c, d, hab, hcd, hg, hk, hBw, a0, a1, a2, a3, p0, p1, p2, p3, r0, r1, r2, r3⟩ := hrel
            have L2 : w.heap.size + 2 < wr.heap.size := World.block_lt_of_cell? wr _ r0
            have L6 : b6 < wr.heap.size := World.block_lt_of_cell? wr _ a0
            have L7 : b7 < wr.heap.size := World.block_lt_of_cell? wr _ p0
            have Hg := Lib.hid hg
            have Hk := Lib.hid hk
            clear hg hk
            by_cases hz : c = 0 ∧ d = 0
            · obtain ⟨rfl, rfl⟩ := hz
              have He : gcdX 0 0 x' y' = a ∧ gcdY 0 0 x' y' = b := by
                unfold gcdX gcdY; rw [← Hg.out, gcdF_zero]; exact ⟨rfl, rfl⟩
              have HE := Lib.hid He
              clear He
              go_wp2_with (first | (go_at_call 47; refine (first_c _ _ _ hab).mono ?_; rintro e w1 ⟨rfl, hb⟩; have hk : Hld wr w1 := heldM (by (repeat' (first | assumption | exact Below.refl _ _ | apply Blw.alloc | apply Blw.drew | apply Blw.drewN | (refine Blw.after ?_ (by assumption)) | (refine Blw.set ?_ (by first | (dsimp only; omega) | (simp; done) | (simp; omega)) _)))); have hk1 := hk.1) | (go_at_call 45; refine (gauss_c _ _ _).mono ?_; rintro e w1 ⟨rfl, hb⟩; have hk : Hld wr w1 := heldM (by (repeat' (first | assumption | exact Below.refl _ _ | apply Blw.alloc | apply Blw.drew | apply Blw.drewN | (refine Blw.after ?_ (by assumption)) | (refine Blw.set ?_ (by first | (dsimp only; omega) | (simp; done) | (simp; omega)) _)))); have hk1 := hk.1))
              exact bodyPost_ret (v := res2 true (firstX a b) (firstY a b)) (by simp [results, Try.results27, go_sem, sel_t, *]) rfl ⟨by rw [HB.out, HE.out.1, HE.out.2], by (repeat' (first | assumption | exact Below.refl _ _ | apply Blw.alloc | apply Blw.drew | apply Blw.drewN | (refine Blw.after ?_ (by assumption)) | (refine Blw.set ?_ (by first | (dsimp only; omega) | (simp; done) | (simp; omega)) _)))⟩
            · have hn := nrm_pos hz
              obtain ⟨k', hk1, hk2, hk3⟩ := gcdF_step (x := a) (y := b) hz Hk.out
              have HD := Lib.hid (rest_in (x := a) (y := b) hn hcd)
              have H1 := Lib.hid hk1
              have H2 := Lib.hid hk2
              have H3 := Lib.hid (hk3.trans Hg.out)
              have T : ¬ c = 0 ∨ (c = 0 ∧ ¬ d = 0) := by omega
              clear hz hk1 hk2 hk3
              rcases T with T | ⟨rfl, T⟩
              · skip
                go_wp2_with (fail)
                refine (divide_c _ _ _ _ _ hab hcd hn).mono ?_
                rintro e wA ⟨rfl, hbwA⟩
                have hkwA : Hld wr wA := heldM (by (repeat' (first | assumption | exact Below.refl _ _ | apply Blw.alloc | apply Blw.drew | apply Blw.drewN | (refine Blw.after ?_ (by assumption)) | (refine Blw.set ?_ (by first | (dsimp only; omega) | (simp; done) | (simp; omega)) _))))
                have hlwA := hkwA.1
                have hswA := hkwA.2.2.2
                try (have : b6 < wA.heap.size := by omega)
                try (have : b7 < wA.heap.size := by omega)
                try (have : w.heap.size + 2 < wA.heap.size := by omega)
                go_wp2_with fail
                generalize hW : World.alloc _ _ = W2
                have kW2_351 : W2.cell? ⟨b6, 0, none⟩ = some (.int .i64 (a)) := by rw [← hW]; clear hW; first | (go_simp; done) | ((repeat refine keepcell ((Below.refl _ _).alloc (Nat.le_refl _) _) ?_); go_simp; done) | (simp only [frozen?_alloc_cells]; go_simp; done)
                have zW2_351 : W2.frozen? ⟨b6, 0, none⟩ = false := by rw [← hW]; clear hW; first | (go_simp; done) | ((repeat refine keepcell ((Below.refl _ _).alloc (Nat.le_refl _) _) ?_); go_simp; done) | (simp only [frozen?_alloc_cells]; go_simp; done)
                have kW2_352 : W2.cell? ⟨b6, 1, none⟩ = some (.int .i64 (b)) := by rw [← hW]; clear hW; first | (go_simp; done) | ((repeat refine keepcell ((Below.refl _ _).alloc (Nat.le_refl _) _) ?_); go_simp; done) | (simp only [frozen?_alloc_cells]; go_simp; done)
                have zW2_352 : W2.frozen? ⟨b6, 1, none⟩ = false := by rw [← hW]; clear hW; first | (go_simp; done) | ((repeat refine keepcell ((Below.refl _ _).alloc (Nat.le_refl _) _) ?_); go_simp; done) | (simp only [frozen?_alloc_cells]; go_simp; done)
                have : b6 < W2.heap.size := World.block_lt_of_cell? W2 ⟨b6, 0, none⟩ (by assumption)
                have kW2_353 : W2.cell? ⟨b7, 0, none⟩ = some (.int .i64 (c)) := by rw [← hW]; clear hW; first | (go_simp; done) | ((repeat refine keepcell ((Below.refl _ _).alloc (Nat.le_refl _) _) ?_); go_simp; done) | (simp only [frozen?_alloc_cells]; go_simp; done)
                have zW2_353 : W2.frozen? ⟨b7, 0, none⟩ = false := by rw [← hW]; clear hW; first | (go_simp; done) | ((repeat refine keepcell ((Below.refl _ _).alloc (Nat.le_refl _) _) ?_); go_simp; done) | (simp only [frozen?_alloc_cells]; go_simp; done)
                have kW2_354 : W2.cell? ⟨b7, 1, none⟩ = some (.int .i64 (d)) := by rw [← hW]; clear hW; first | (go_simp; done) | ((repeat refine keepcell ((Below.refl _ _).alloc (Nat.le_refl _) _) ?_); go_simp; done) | (simp only [frozen?_alloc_cells]; go_simp; done)
                have zW2_354 : W2.frozen? ⟨b7, 1, none⟩ = false := by rw [← hW]; clear hW; first | (go_simp; done) | ((repeat refine keepcell ((Below.refl _ _).alloc (Nat.le_refl _) _) ?_); go_simp; done) | (simp only [frozen?_alloc_cells]; go_simp; done)
                have : b7 < W2.heap.size := World.block_lt_of_cell? W2 ⟨b7, 0, none⟩ (by assumption)
                have kW2_355 : W2.cell? ⟨w.heap.size + 2, 0, none⟩ = some (.int .i64 (0)) := by rw [← hW]; clear hW; first | (go_simp; done) | ((repeat refine keepcell ((Below.refl _ _).alloc (Nat.le_refl _) _) ?_); go_simp; done) | (simp only [frozen?_alloc_cells]; go_simp; done)
                have zW2_355 : W2.frozen? ⟨w.heap.size + 2, 0, none⟩ = false := by rw [← hW]; clear hW; first | (go_simp; done) | ((repeat refine keepcell ((Below.refl _ _).alloc (Nat.le_refl _) _) ?_); go_simp; done) | (simp only [frozen?_alloc_cells]; go_simp; done)
                have kW2_356 : W2.cell? ⟨w.heap.size + 2, 1, none⟩ = some (.int .i64 (0)) := by rw [← hW]; clear hW; first | (go_simp; done) | ((repeat refine keepcell ((Below.refl _ _).alloc (Nat.le_refl _) _) ?_); go_simp; done) | (simp only [frozen?_alloc_cells]; go_simp; done)
                have zW2_356 : W2.frozen? ⟨w.heap.size + 2, 1, none⟩ = false := by rw [← hW]; clear hW; first | (go_simp; done) | ((repeat refine keepcell ((Below.refl _ _).alloc (Nat.le_refl _) _) ?_); go_simp; done) | (simp only [frozen?_alloc_cells]; go_simp; done)
                have : w.heap.size + 2 < W2.heap.size := World.block_lt_of_cell? W2 ⟨w.heap.size + 2, 0, none⟩ (by assumption)
                have kW2_357 : W2.cell? ⟨wA.heap.size + 1, 0, none⟩ = some (.int .i64 ((rx a b c d))) := by rw [← hW]; clear hW; first | (go_simp; done) | ((repeat refine keepcell ((Below.refl _ _).alloc (Nat.le_refl _) _) ?_); go_simp; done) | (simp only [frozen?_alloc_cells]; go_simp; done)
                have kW2_358 : W2.cell? ⟨wA.heap.size + 1, 1, none⟩ = some (.int .i64 ((ry a b c d))) := by rw [← hW]; clear hW; first | (go_simp; done) | ((repeat refine keepcell ((Below.refl _ _).alloc (Nat.le_refl _) _) ?_); go_simp; done) | (simp only [frozen?_alloc_cells]; go_simp; done)
                have : wA.heap.size + 1 < W2.heap.size := World.block_lt_of_cell? W2 ⟨wA.heap.size + 1, 0, none⟩ (by assumption)
                have hBW2 : Below w.heap.size w W2 := by rw [← hW]; (repeat' (first | assumption | exact Below.refl _ _ | apply Blw.alloc | apply Blw.drew | apply Blw.drewN | (refine Blw.after ?_ (by assumption)) | (refine Blw.set ?_ (by first | (dsimp only; omega) | (simp; done) | (simp; omega)) _)))
                have hsW2 := hBW2.size
                clear hW
                try clear kW1_345; try clear zW1_345; try clear kW1_346; try clear zW1_346; try clear kW1_347; try clear zW1_347; try clear kW1_348; try clear zW1_348; try clear kW1_349; try clear zW1_349; try clear kW1_350; try clear zW1_350; try clear hbwA; try clear hkwA; try clear hlwA
                refine region_slots (fun w' => w'.cell? ⟨wA.heap.size + 1, 0, none⟩ = some (.int .i64 ((rx a b c d))) ∧ w'.cell? ⟨wA.heap.size + 1, 1, none⟩ = some (.int .i64 ((ry a b c d)))) [1] [(42, .is (pr c d)), (43, .is (pr (rx a b c d) (ry a b c d)))] (by kernel_rfl) (by kernel_rfl) (by kernel_rfl) (fun w' hH => by go_simp) (fun _ _ _ _ _ _ h => h) ?_
                simp only [Steps, List.contains_cons, List.contains_nil, Nat.reduceBEq, Nat.reduceAdd, Bool.or_false, Bool.false_or, Bool.or_true, Bool.true_or, Bool.false_eq_true, if_false, if_true]
                refine ⟨?_, ?_, ?_⟩
                · intro u w2 hH hd K hK
                  simp only [setU, upd, List.map_cons, List.map_nil, List.contains_cons, List.contains_nil, Nat.reduceBEq, Nat.reduceAdd, Bool.or_false, Bool.false_or, Bool.or_true, Bool.true_or, Bool.false_eq_true, if_false, if_true, ite_true, ite_false, Nat.reduceEqDiff, beq_self_eq_true] at hK ⊢
                  go_wp2_with (fail)
                  exact hK _ _ (by (repeat' (first | assumption | exact Below.refl _ _ | apply Blw.alloc | apply Blw.drew | apply Blw.drewN | (refine Blw.after ?_ (by assumption)) | (refine Blw.set ?_ (by first | (dsimp only; omega) | (simp; done) | (simp; omega)) _)))) rfl
                · intro u w2 hH hd
                  simp only [setU, upd, List.map_cons, List.map_nil, List.contains_cons, List.contains_nil, Nat.reduceBEq, Nat.reduceAdd, Bool.or_false, Bool.false_or, Bool.or_true, Bool.true_or, Bool.false_eq_true, if_false, if_true, ite_true, ite_false, Nat.reduceEqDiff, beq_self_eq_true]
                  refine ⟨(pr (rx a b c d) (ry a b c d)), fun w hS => ?_, by first | rfl | trivial, by first | rfl | trivial, by first | rfl | trivial⟩
                  first | (go_simp; done) | (go_simp; exact IntWalk.i64_in _ (by omega))
                intro u w2 hH hF hne
                have hH1 := hH.1
                have hH2 := hH.2.2.2
                simp only [allFacts, SlotFact.h] at hF
                obtain ⟨f42, f43, -⟩ := hF
                simp only [setU, upd, List.map_cons, List.map_nil, List.contains_cons, List.contains_nil, Nat.reduceBEq, Nat.reduceAdd, Bool.or_false, Bool.false_or, Bool.or_true, Bool.true_or, Bool.false_eq_true, if_false, if_true, ite_true, ite_false, Nat.reduceEqDiff, beq_self_eq_true]
                rw [f42, f43]
                clear f42 f43 hne
                refine wpListS_step fun K hK => ?_
                go_wp2_with (fail)
                refine hK _ _ (by go_simp) ?_
                clear hK
                refine wpListS_step fun K hK => ?_
                go_wp2_with (fail)
                refine hK _ _ (by go_simp) ?_
                clear hK
                refine wpListS_nil ?_
                go_wp2_with fail
                go_roundg k'
                case measure => exact H1.out
                case rel => exact ⟨_, _, _, _, hcd, HD.out, H3.out, H2.out, by (repeat' (first | assumption | exact Below.refl _ _ | apply Blw.alloc | apply Blw.drew | apply Blw.drewN | (refine Blw.after ?_ (by assumption)) | (refine Blw.set ?_ (by first | (dsimp only; omega) | (simp; done) | (simp; omega)) _))), by go_simp, by go_simp, by go_simp, by go_simp, by go_simp, by go_simp, by go_simp, by go_simp, by go_simp, by go_simp, by go_simp, by go_simp⟩
              · skip
                go_wp2_with (fail)
                refine (divide_c _ _ _ _ _ hab hcd hn).mono ?_
                rintro e wA ⟨rfl, hbwA⟩
                have hkwA : Hld wr wA := heldM (by (repeat' (first | assumption | exact Below.refl _ _ | apply Blw.alloc | apply Blw.drew | apply Blw.drewN | (refine Blw.after ?_ (by assumption)) | (refine Blw.set ?_ (by first | (dsimp only; omega) | (simp; done) | (simp; omega)) _))))
                have hlwA := hkwA.1
                have hswA := hkwA.2.2.2
                try (have : b6 < wA.heap.size := by omega)
                try (have : b7 < wA.heap.size := by omega)
                try (have : w.heap.size + 2 < wA.heap.size := by omega)
                go_wp2_with fail
                generalize hW : World.alloc _ _ = W2
                have kW2_359 : W2.cell? ⟨b6, 0, none⟩ = some (.int .i64 (a)) := by rw [← hW]; clear hW; first | (go_simp; done) | ((repeat refine keepcell ((Below.refl _ _).alloc (Nat.le_refl _) _) ?_); go_simp; done) | (simp only [frozen?_alloc_cells]; go_simp; done)
                have zW2_359 : W2.frozen? ⟨b6, 0, none⟩ = false := by rw [← hW]; clear hW; first | (go_simp; done) | ((repeat refine keepcell ((Below.refl _ _).alloc (Nat.le_refl _) _) ?_); go_simp; done) | (simp only [frozen?_alloc_cells]; go_simp; done)
                have kW2_360 : W2.cell? ⟨b6, 1, none⟩ = some (.int .i64 (b)) := by rw [← hW]; clear hW; first | (go_simp; done) | ((repeat refine keepcell ((Below.refl _ _).alloc (Nat.le_refl _) _) ?_); go_simp; done) | (simp only [frozen?_alloc_cells]; go_simp; done)
                have zW2_360 : W2.frozen? ⟨b6, 1, none⟩ = false := by rw [← hW]; clear hW; first | (go_simp; done) | ((repeat refine keepcell ((Below.refl _ _).alloc (Nat.le_refl _) _) ?_); go_simp; done) | (simp only [frozen?_alloc_cells]; go_simp; done)
                have : b6 < W2.heap.size := World.block_lt_of_cell? W2 ⟨b6, 0, none⟩ (by assumption)
                have kW2_361 : W2.cell? ⟨b7, 0, none⟩ = some (.int .i64 (0)) := by rw [← hW]; clear hW; first | (go_simp; done) | ((repeat refine keepcell ((Below.refl _ _).alloc (Nat.le_refl _) _) ?_); go_simp; done) | (simp only [frozen?_alloc_cells]; go_simp; done)
                have zW2_361 : W2.frozen? ⟨b7, 0, none⟩ = false := by rw [← hW]; clear hW; first | (go_simp; done) | ((repeat refine keepcell ((Below.refl _ _).alloc (Nat.le_refl _) _) ?_); go_simp; done) | (simp only [frozen?_alloc_cells]; go_simp; done)
                have kW2_362 : W2.cell? ⟨b7, 1, none⟩ = some (.int .i64 (d)) := by rw [← hW]; clear hW; first | (go_simp; done) | ((repeat refine keepcell ((Below.refl _ _).alloc (Nat.le_refl _) _) ?_); go_simp; done) | (simp only [frozen?_alloc_cells]; go_simp; done)
                have zW2_362 : W2.frozen? ⟨b7, 1, none⟩ = false := by rw [← hW]; clear hW; first | (go_simp; done) | ((repeat refine keepcell ((Below.refl _ _).alloc (Nat.le_refl _) _) ?_); go_simp; done) | (simp only [frozen?_alloc_cells]; go_simp; done)
                have : b7 < W2.heap.size := World.block_lt_of_cell? W2 ⟨b7, 0, none⟩ (by assumption)
                have kW2_363 : W2.cell? ⟨w.heap.size + 2, 0, none⟩ = some (.int .i64 (0)) := by rw [← hW]; clear hW; first | (go_simp; done) | ((repeat refine keepcell ((Below.refl _ _).alloc (Nat.le_refl _) _) ?_); go_simp; done) | (simp only [frozen?_alloc_cells]; go_simp; done)
                have zW2_363 : W2.frozen? ⟨w.heap.size + 2, 0, none⟩ = false := by rw [← hW]; clear hW; first | (go_simp; done) | ((repeat refine keepcell ((Below.refl _ _).alloc (Nat.le_refl _) _) ?_); go_simp; done) | (simp only [frozen?_alloc_cells]; go_simp; done)
                have kW2_364 : W2.cell? ⟨w.heap.size + 2, 1, none⟩ = some (.int .i64 (0)) := by rw [← hW]; clear hW; first | (go_simp; done) | ((repeat refine keepcell ((Below.refl _ _).alloc (Nat.le_refl _) _) ?_); go_simp; done) | (simp only [frozen?_alloc_cells]; go_simp; done)
                have zW2_364 : W2.frozen? ⟨w.heap.size + 2, 1, none⟩ = false := by rw [← hW]; clear hW; first | (go_simp; done) | ((repeat refine keepcell ((Below.refl _ _).alloc (Nat.le_refl _) _) ?_); go_simp; done) | (simp only [frozen?_alloc_cells]; go_simp; done)
                have : w.heap.size + 2 < W2.heap.size := World.block_lt_of_cell? W2 ⟨w.heap.size + 2, 0, none⟩ (by assumption)
                have kW2_365 : W2.cell? ⟨wA.heap.size + 1, 0, none⟩ = some (.int .i64 ((rx a b 0 d))) := by rw [← hW]; clear hW; first | (go_simp; done) | ((repeat refine keepcell ((Below.refl _ _).alloc (Nat.le_refl _) _) ?_); go_simp; done) | (simp only [frozen?_alloc_cells]; go_simp; done)
                have kW2_366 : W2.cell? ⟨wA.heap.size + 1, 1, none⟩ = some (.int .i64 ((ry a b 0 d))) := by rw [← hW]; clear hW; first | (go_simp; done) | ((repeat refine keepcell ((Below.refl _ _).alloc (Nat.le_refl _) _) ?_); go_simp; done) | (simp only [frozen?_alloc_cells]; go_simp; done)
                have : wA.heap.size + 1 < W2.heap.size := World.block_lt_of_cell? W2 ⟨wA.heap.size + 1, 0, none⟩ (by assumption)
                have hBW2 : Below w.heap.size w W2 := by rw [← hW]; (repeat' (first | assumption | exact Below.refl _ _ | apply Blw.alloc | apply Blw.drew | apply Blw.drewN | (refine Blw.after ?_ (by assumption)) | (refine Blw.set ?_ (by first | (dsimp only; omega) | (simp; done) | (simp; omega)) _)))
                have hsW2 := hBW2.size
                clear hW
                try clear kW2_351; try clear zW2_351; try clear kW2_352; try clear zW2_352; try clear kW2_353; try clear zW2_353; try clear kW2_354; try clear zW2_354; try clear kW2_355; try clear zW2_355; try clear kW2_356; try clear zW2_356; try clear kW2_357; try clear kW2_358; try clear hH; try clear hH1; try clear hbwA; try clear hkwA; try clear hlwA
                refine region_slots (fun w' => w'.cell? ⟨wA.heap.size + 1, 0, none⟩ = some (.int .i64 ((rx a b 0 d))) ∧ w'.cell? ⟨wA.heap.size + 1, 1, none⟩ = some (.int .i64 ((ry a b 0 d)))) [1] [(42, .is (pr 0 d)), (43, .is (pr (rx a b 0 d) (ry a b 0 d)))] (by kernel_rfl) (by kernel_rfl) (by kernel_rfl) (fun w' hH => by go_simp) (fun _ _ _ _ _ _ h => h) ?_
                simp only [Steps, List.contains_cons, List.contains_nil, Nat.reduceBEq, Nat.reduceAdd, Bool.or_false, Bool.false_or, Bool.or_true, Bool.true_or, Bool.false_eq_true, if_false, if_true]
                refine ⟨?_, ?_, ?_⟩
                · intro u w2 hH hd K hK
                  simp only [setU, upd, List.map_cons, List.map_nil, List.contains_cons, List.contains_nil, Nat.reduceBEq, Nat.reduceAdd, Bool.or_false, Bool.false_or, Bool.or_true, Bool.true_or, Bool.false_eq_true, if_false, if_true, ite_true, ite_false, Nat.reduceEqDiff, beq_self_eq_true] at hK ⊢
                  go_wp2_with (fail)
                  exact hK _ _ (by (repeat' (first | assumption | exact Below.refl _ _ | apply Blw.alloc | apply Blw.drew | apply Blw.drewN | (refine Blw.after ?_ (by assumption)) | (refine Blw.set ?_ (by first | (dsimp only; omega) | (simp; done) | (simp; omega)) _)))) rfl
                · intro u w2 hH hd
                  simp only [setU, upd, List.map_cons, List.map_nil, List.contains_cons, List.contains_nil, Nat.reduceBEq, Nat.reduceAdd, Bool.or_false, Bool.false_or, Bool.or_true, Bool.true_or, Bool.false_eq_true, if_false, if_true, ite_true, ite_false, Nat.reduceEqDiff, beq_self_eq_true]
                  refine ⟨(pr (rx a b 0 d) (ry a b 0 d)), fun w hS => ?_, by first | rfl | trivial, by first | rfl | trivial, by first | rfl | trivial⟩
                  first | (go_simp; done) | (go_simp; exact IntWalk.i64_in _ (by omega))
                intro u w2 hH hF hne
                have hH1 := hH.1
                have hH2 := hH.2.2.2
                simp only [allFacts, SlotFact.h] at hF
                obtain ⟨f42, f43, -⟩ := hF
                simp only [setU, upd, List.map_cons, List.map_nil, List.contains_cons, List.contains_nil, Nat.reduceBEq, Nat.reduceAdd, Bool.or_false, Bool.false_or, Bool.or_true, Bool.true_or, Bool.false_eq_true, if_false, if_true, ite_true, ite_false, Nat.reduceEqDiff, beq_self_eq_true]
                rw [f42, f43]
                clear f42 f43 hne
                refine wpListS_step fun K hK => ?_
                go_wp2_with (fail)
                refine hK _ _ (by go_simp) ?_
                clear hK
                refine wpListS_step fun K hK => ?_
                go_wp2_with (fail)
                refine hK _ _ (by go_simp) ?_
                clear hK
                refine wpListS_nil ?_
                go_wp2_with fail
                go_roundg k'
                case measure => exact H1.out
                case rel => exact ⟨_, _, _, _, hcd, HD.out, H3.out, H2.out, by (repeat' (first | assumption | exact Below.refl _ _ | apply Blw.alloc | apply Blw.drew | apply Blw.drewN | (refine Blw.after ?_ (by assumption)) | (refine Blw.set ?_ (by first | (dsimp only; omega) | (simp; done) | (simp; omega)) _))), by go_simp, by go_simp, by go_simp, by go_simp, by go_simp, by go_simp, by go_simp, by go_simp, by go_simp, by go_simp, by go_simp, by go_simp⟩
        · go_enter Try.func27, Try.ntmps27
          go_wp2_with fail
          generalize hW : World.alloc _ _ = W0
          have kW0_367 : W0.cell? ⟨w.heap.size, 0, none⟩ = some (.int .i64 (0)) := by rw [← hW]; clear hW; first | (go_simp; done) | ((repeat refine keepcell ((Below.refl _ _).alloc (Nat.le_refl _) _) ?_); go_simp; done) | (simp only [frozen?_alloc_cells]; go_simp; done)
          have kW0_368 : W0.cell? ⟨w.heap.size, 1, none⟩ = some (.int .i64 (0)) := by rw [← hW]; clear hW; first | (go_simp; done) | ((repeat refine keepcell ((Below.refl _ _).alloc (Nat.le_refl _) _) ?_); go_simp; done) | (simp only [frozen?_alloc_cells]; go_simp; done)
          have : w.heap.size < W0.heap.size := World.block_lt_of_cell? W0 ⟨w.heap.size, 0, none⟩ (by assumption)
          have kW0_369 : W0.cell? ⟨w.heap.size + 1, 0, none⟩ = some (.int .i64 (0)) := by rw [← hW]; clear hW; first | (go_simp; done) | ((repeat refine keepcell ((Below.refl _ _).alloc (Nat.le_refl _) _) ?_); go_simp; done) | (simp only [frozen?_alloc_cells]; go_simp; done)
          have kW0_370 : W0.cell? ⟨w.heap.size + 1, 1, none⟩ = some (.int .i64 (y')) := by rw [← hW]; clear hW; first | (go_simp; done) | ((repeat refine keepcell ((Below.refl _ _).alloc (Nat.le_refl _) _) ?_); go_simp; done) | (simp only [frozen?_alloc_cells]; go_simp; done)
          have : w.heap.size + 1 < W0.heap.size := World.block_lt_of_cell? W0 ⟨w.heap.size + 1, 0, none⟩ (by assumption)
          have kW0_371 : W0.cell? ⟨w.heap.size + 2, 0, none⟩ = some (.int .i64 (0)) := by rw [← hW]; clear hW; first | (go_simp; done) | ((repeat refine keepcell ((Below.refl _ _).alloc (Nat.le_refl _) _) ?_); go_simp; done) | (simp only [frozen?_alloc_cells]; go_simp; done)
          have zW0_371 : W0.frozen? ⟨w.heap.size + 2, 0, none⟩ = false := by rw [← hW]; clear hW; first | (go_simp; done) | ((repeat refine keepcell ((Below.refl _ _).alloc (Nat.le_refl _) _) ?_); go_simp; done) | (simp only [frozen?_alloc_cells]; go_simp; done)
          have kW0_372 : W0.cell? ⟨w.heap.size + 2, 1, none⟩ = some (.int .i64 (0)) := by rw [← hW]; clear hW; first | (go_simp; done) | ((repeat refine keepcell ((Below.refl _ _).alloc (Nat.le_refl _) _) ?_); go_simp; done) | (simp only [frozen?_alloc_cells]; go_simp; done)
          have zW0_372 : W0.frozen? ⟨w.heap.size + 2, 1, none⟩ = false := by rw [← hW]; clear hW; first | (go_simp; done) | ((repeat refine keepcell ((Below.refl _ _).alloc (Nat.le_refl _) _) ?_); go_simp; done) | (simp only [frozen?_alloc_cells]; go_simp; done)
          have : w.heap.size + 2 < W0.heap.size := World.block_lt_of_cell? W0 ⟨w.heap.size + 2, 0, none⟩ (by assumption)
          have hBW0 : Below w.heap.size w W0 := by rw [← hW]; (repeat' (first | assumption | exact Below.refl _ _ | apply Blw.alloc | apply Blw.drew | apply Blw.drewN | (refine Blw.after ?_ (by assumption)) | (refine Blw.set ?_ (by first | (dsimp only; omega) | (simp; done) | (simp; omega)) _)))
          have hsW0 := hBW0.size
          clear hW
          refine region_slots (fun _ => True) [] [(10, .is (pr 0 0)), (11, .is (pr 0 0)), (12, .is (pr 0 y')), (13, .is (pr 0 y')), (6, .own [.int .i64 0, .int .i64 0]), (7, .own [.int .i64 0, .int .i64 0])] (by kernel_rfl) (by kernel_rfl) (by kernel_rfl) (fun _ _ => trivial) (fun _ _ _ _ _ _ h => h) ?_
          simp only [Steps, List.contains_cons, List.contains_nil, Nat.reduceBEq, Nat.reduceAdd, Bool.or_false, Bool.false_or, Bool.or_true, Bool.true_or, Bool.false_eq_true, if_false, if_true]
          refine ⟨?_, ?_, ?_, ?_, ?_, ?_, ?_⟩
          · intro u w2 hH hd K hK
            simp only [setU, upd, List.map_cons, List.map_nil, List.contains_cons, List.contains_nil, Nat.reduceBEq, Nat.reduceAdd, Bool.or_false, Bool.false_or, Bool.or_true, Bool.true_or, Bool.false_eq_true, if_false, if_true, ite_true, ite_false, Nat.reduceEqDiff, beq_self_eq_true] at hK ⊢
            go_wp2_with (fail)
            exact hK _ _ (by (repeat' (first | assumption | exact Below.refl _ _ | apply Blw.alloc | apply Blw.drew | apply Blw.drewN | (refine Blw.after ?_ (by assumption)) | (refine Blw.set ?_ (by first | (dsimp only; omega) | (simp; done) | (simp; omega)) _)))) rfl
          · intro u w2 hH hd K hK
            have f10 : u 10 = (pr 0 0) := hd 10 (by kernel_rfl)
            simp only [setU, upd, List.map_cons, List.map_nil, List.contains_cons, List.contains_nil, Nat.reduceBEq, Nat.reduceAdd, Bool.or_false, Bool.false_or, Bool.or_true, Bool.true_or, Bool.false_eq_true, if_false, if_true, ite_true, ite_false, Nat.reduceEqDiff, beq_self_eq_true] at hK ⊢
            rw [f10] at hK ⊢
            clear f10
            go_wp2_with ((go_at_call 34; refine (gPair_c _ _ _).mono ?_; rintro e w1 ⟨rfl, hb⟩; obtain ⟨hc, hf⟩ := bcell hb; have hz := bsize hb; have hs := hb.size; try simp at hs))
            exact hK _ _ (by (repeat' (first | assumption | exact Below.refl _ _ | apply Blw.alloc | apply Blw.drew | apply Blw.drewN | (refine Blw.after ?_ (by assumption)) | (refine Blw.set ?_ (by first | (dsimp only; omega) | (simp; done) | (simp; omega)) _)))) rfl
          · intro u w2 hH hd K hK
            simp only [setU, upd, List.map_cons, List.map_nil, List.contains_cons, List.contains_nil, Nat.reduceBEq, Nat.reduceAdd, Bool.or_false, Bool.false_or, Bool.or_true, Bool.true_or, Bool.false_eq_true, if_false, if_true, ite_true, ite_false, Nat.reduceEqDiff, beq_self_eq_true] at hK ⊢
            go_wp2_with (fail)
            exact hK _ _ (by (repeat' (first | assumption | exact Below.refl _ _ | apply Blw.alloc | apply Blw.drew | apply Blw.drewN | (refine Blw.after ?_ (by assumption)) | (refine Blw.set ?_ (by first | (dsimp only; omega) | (simp; done) | (simp; omega)) _)))) rfl
          · intro u w2 hH hd K hK
            have f12 : u 12 = (pr 0 y') := hd 12 (by kernel_rfl)
            simp only [setU, upd, List.map_cons, List.map_nil, List.contains_cons, List.contains_nil, Nat.reduceBEq, Nat.reduceAdd, Bool.or_false, Bool.false_or, Bool.or_true, Bool.true_or, Bool.false_eq_true, if_false, if_true, ite_true, ite_false, Nat.reduceEqDiff, beq_self_eq_true] at hK ⊢
            rw [f12] at hK ⊢
            clear f12
            go_wp2_with ((go_at_call 34; refine (gPair_c _ _ _).mono ?_; rintro e w1 ⟨rfl, hb⟩; obtain ⟨hc, hf⟩ := bcell hb; have hz := bsize hb; have hs := hb.size; try simp at hs))
            exact hK _ _ (by (repeat' (first | assumption | exact Below.refl _ _ | apply Blw.alloc | apply Blw.drew | apply Blw.drewN | (refine Blw.after ?_ (by assumption)) | (refine Blw.set ?_ (by first | (dsimp only; omega) | (simp; done) | (simp; omega)) _)))) rfl
          · intro u w2 hH hd K hK
            simp only [setU, upd, List.map_cons, List.map_nil, List.contains_cons, List.contains_nil, Nat.reduceBEq, Nat.reduceAdd, Bool.or_false, Bool.false_or, Bool.or_true, Bool.true_or, Bool.false_eq_true, if_false, if_true, ite_true, ite_false, Nat.reduceEqDiff, beq_self_eq_true] at hK ⊢
            go_wp2_with (fail)
            exact hK _ _ (by (repeat' (first | assumption | exact Below.refl _ _ | apply Blw.alloc | apply Blw.drew | apply Blw.drewN | (refine Blw.after ?_ (by assumption)) | (refine Blw.set ?_ (by first | (dsimp only; omega) | (simp; done) | (simp; omega)) _)))) (OwnP.new _ _ _)
          · intro u w2 hH hd K hK
            simp only [setU, upd, List.map_cons, List.map_nil, List.contains_cons, List.contains_nil, Nat.reduceBEq, Nat.reduceAdd, Bool.or_false, Bool.false_or, Bool.or_true, Bool.true_or, Bool.false_eq_true, if_false, if_true, ite_true, ite_false, Nat.reduceEqDiff, beq_self_eq_true] at hK ⊢
            go_wp2_with (fail)
            exact hK _ _ (by (repeat' (first | assumption | exact Below.refl _ _ | apply Blw.alloc | apply Blw.drew | apply Blw.drewN | (refine Blw.after ?_ (by assumption)) | (refine Blw.set ?_ (by first | (dsimp only; omega) | (simp; done) | (simp; omega)) _)))) (OwnP.new _ _ _)
          intro u w2 hH hF hne
          have hH1 := hH.1
          have hH2 := hH.2.2.2
          simp only [allFacts, SlotFact.h] at hF
          obtain ⟨f10, f11, f12, f13, ⟨b6, f6, g6, l6, k6, z6⟩, ⟨b7, f7, g7, l7, k7, z7⟩, -⟩ := hF
          have n6_7 : b6 ≠ b7 := by have h := hne 6 7 (by kernel_rfl) (by kernel_rfl) (by decide); rw [f6, f7] at h; exact h
          simp only [setU, upd, List.map_cons, List.map_nil, List.contains_cons, List.contains_nil, Nat.reduceBEq, Nat.reduceAdd, Bool.or_false, Bool.false_or, Bool.or_true, Bool.true_or, Bool.false_eq_true, if_false, if_true, ite_true, ite_false, Nat.reduceEqDiff, beq_self_eq_true]
          rw [f10, f11, f12, f13, f6, f7]
          clear f10 f11 f12 f13 f6 f7 hne
          have c6_0 := k6 0 _ rfl
          have e6_0 := z6 0 (by simp)
          have c6_1 := k6 1 _ rfl
          have e6_1 := z6 1 (by simp)
          clear k6 z6
          have c7_0 := k7 0 _ rfl
          have e7_0 := z7 0 (by simp)
          have c7_1 := k7 1 _ rfl
          have e7_1 := z7 1 (by simp)
          clear k7 z7
          refine wpListS_true ?_
          have gg6 : w.heap.size + 2 < b6 := by omega
          have gg7 : w.heap.size + 2 < b7 := by omega
          go_wp2_with fail
          generalize hW : World.setCell _ _ _ = W1
          have kW1_373 : W1.cell? ⟨b6, 0, none⟩ = some (.int .i64 (0)) := by rw [← hW]; clear hW; first | (go_simp; done) | ((repeat refine keepcell ((Below.refl _ _).alloc (Nat.le_refl _) _) ?_); go_simp; done) | (simp only [frozen?_alloc_cells]; go_simp; done)
          have zW1_373 : W1.frozen? ⟨b6, 0, none⟩ = false := by rw [← hW]; clear hW; first | (go_simp; done) | ((repeat refine keepcell ((Below.refl _ _).alloc (Nat.le_refl _) _) ?_); go_simp; done) | (simp only [frozen?_alloc_cells]; go_simp; done)
          have kW1_374 : W1.cell? ⟨b6, 1, none⟩ = some (.int .i64 (0)) := by rw [← hW]; clear hW; first | (go_simp; done) | ((repeat refine keepcell ((Below.refl _ _).alloc (Nat.le_refl _) _) ?_); go_simp; done) | (simp only [frozen?_alloc_cells]; go_simp; done)
          have zW1_374 : W1.frozen? ⟨b6, 1, none⟩ = false := by rw [← hW]; clear hW; first | (go_simp; done) | ((repeat refine keepcell ((Below.refl _ _).alloc (Nat.le_refl _) _) ?_); go_simp; done) | (simp only [frozen?_alloc_cells]; go_simp; done)
          have : b6 < W1.heap.size := World.block_lt_of_cell? W1 ⟨b6, 0, none⟩ (by assumption)
          have kW1_375 : W1.cell? ⟨b7, 0, none⟩ = some (.int .i64 (0)) := by rw [← hW]; clear hW; first | (go_simp; done) | ((repeat refine keepcell ((Below.refl _ _).alloc (Nat.le_refl _) _) ?_); go_simp; done) | (simp only [frozen?_alloc_cells]; go_simp; done)
          have zW1_375 : W1.frozen? ⟨b7, 0, none⟩ = false := by rw [← hW]; clear hW; first | (go_simp; done) | ((repeat refine keepcell ((Below.refl _ _).alloc (Nat.le_refl _) _) ?_); go_simp; done) | (simp only [frozen?_alloc_cells]; go_simp; done)
          have kW1_376 : W1.cell? ⟨b7, 1, none⟩ = some (.int .i64 (y')) := by rw [← hW]; clear hW; first | (go_simp; done) | ((repeat refine keepcell ((Below.refl _ _).alloc (Nat.le_refl _) _) ?_); go_simp; done) | (simp only [frozen?_alloc_cells]; go_simp; done)
          have zW1_376 : W1.frozen? ⟨b7, 1, none⟩ = false := by rw [← hW]; clear hW; first | (go_simp; done) | ((repeat refine keepcell ((Below.refl _ _).alloc (Nat.le_refl _) _) ?_); go_simp; done) | (simp only [frozen?_alloc_cells]; go_simp; done)
          have : b7 < W1.heap.size := World.block_lt_of_cell? W1 ⟨b7, 0, none⟩ (by assumption)
          have kW1_377 : W1.cell? ⟨w.heap.size + 2, 0, none⟩ = some (.int .i64 (0)) := by rw [← hW]; clear hW; first | (go_simp; done) | ((repeat refine keepcell ((Below.refl _ _).alloc (Nat.le_refl _) _) ?_); go_simp; done) | (simp only [frozen?_alloc_cells]; go_simp; done)
          have zW1_377 : W1.frozen? ⟨w.heap.size + 2, 0, none⟩ = false := by rw [← hW]; clear hW; first | (go_simp; done) | ((repeat refine keepcell ((Below.refl _ _).alloc (Nat.le_refl _) _) ?_); go_simp; done) | (simp only [frozen?_alloc_cells]; go_simp; done)
          have kW1_378 : W1.cell? ⟨w.heap.size + 2, 1, none⟩ = some (.int .i64 (0)) := by rw [← hW]; clear hW; first | (go_simp; done) | ((repeat refine keepcell ((Below.refl _ _).alloc (Nat.le_refl _) _) ?_); go_simp; done) | (simp only [frozen?_alloc_cells]; go_simp; done)
          have zW1_378 : W1.frozen? ⟨w.heap.size + 2, 1, none⟩ = false := by rw [← hW]; clear hW; first | (go_simp; done) | ((repeat refine keepcell ((Below.refl _ _).alloc (Nat.le_refl _) _) ?_); go_simp; done) | (simp only [frozen?_alloc_cells]; go_simp; done)
          have : w.heap.size + 2 < W1.heap.size := World.block_lt_of_cell? W1 ⟨w.heap.size + 2, 0, none⟩ (by assumption)
          have hBW1 : Below w.heap.size w W1 := by rw [← hW]; (repeat' (first | assumption | exact Below.refl _ _ | apply Blw.alloc | apply Blw.drew | apply Blw.drewN | (refine Blw.after ?_ (by assumption)) | (refine Blw.set ?_ (by first | (dsimp only; omega) | (simp; done) | (simp; omega)) _)))
          have hsW1 := hBW1.size
          clear hW
          try clear kW0_367; try clear kW0_368; try clear kW0_369; try clear kW0_370; try clear kW0_371; try clear zW0_371; try clear kW0_372; try clear zW0_372; try clear hH; try clear hH1; try clear c6_0; try clear e6_0; try clear c6_1; try clear e6_1; try clear c7_0; try clear e7_0; try clear c7_1; try clear e7_1
          go_wp2_with (go_at_call 35; refine (small_c _ _ _).mono ?_; rintro e w1 ⟨rfl, hb⟩; have hk : Hld W1 w1 := heldM (by (repeat' (first | assumption | exact Below.refl _ _ | apply Blw.alloc | apply Blw.drew | apply Blw.drewN | (refine Blw.after ?_ (by assumption)) | (refine Blw.set ?_ (by first | (dsimp only; omega) | (simp; done) | (simp; omega)) _)))); have hk1 := hk.1)
          go_loopg [] (nrm 0 y').toNat (fun k wr => GcdRel w 0 0 0 y' b6 b7 k wr)
          case atStart => exact ⟨0, 0, 0, y', HX.out, HY.out, rfl, nrm_toNat _ _, by (repeat' (first | assumption | exact Below.refl _ _ | apply Blw.alloc | apply Blw.drew | apply Blw.drewN | (refine Blw.after ?_ (by assumption)) | (refine Blw.set ?_ (by first | (dsimp only; omega) | (simp; done) | (simp; omega)) _))), by go_simp, by go_simp, by go_simp, by go_simp, by go_simp, by go_simp, by go_simp, by go_simp, by go_simp, by go_simp, by go_simp, by go_simp⟩
          case round =>
            obtain ⟨a, b, c, d, hab, hcd, hg, hk, hBw, a0, a1, a2, a3, p0, p1, p2, p3, r0, r1, r2, r3⟩ := hrel
            have L2 : w.heap.size + 2 < wr.heap.size := World.block_lt_of_cell? wr _ r0
            have L6 : b6 < wr.heap.size := World.block_lt_of_cell? wr _ a0
            have L7 : b7 < wr.heap.size := World.block_lt_of_cell? wr _ p0
            have Hg := Lib.hid hg
            have Hk := Lib.hid hk
            clear hg hk
            by_cases hz : c = 0 ∧ d = 0
            · obtain ⟨rfl, rfl⟩ := hz
              have He : gcdX 0 0 0 y' = a ∧ gcdY 0 0 0 y' = b := by
                unfold gcdX gcdY; rw [← Hg.out, gcdF_zero]; exact ⟨rfl, rfl⟩
              have HE := Lib.hid He
              clear He
              go_wp2_with (first | (go_at_call 47; refine (first_c _ _ _ hab).mono ?_; rintro e w1 ⟨rfl, hb⟩; have hk : Hld wr w1 := heldM (by (repeat' (first | assumption | exact Below.refl _ _ | apply Blw.alloc | apply Blw.drew | apply Blw.drewN | (refine Blw.after ?_ (by assumption)) | (refine Blw.set ?_ (by first | (dsimp only; omega) | (simp; done) | (simp; omega)) _)))); have hk1 := hk.1) | (go_at_call 45; refine (gauss_c _ _ _).mono ?_; rintro e w1 ⟨rfl, hb⟩; have hk : Hld wr w1 := heldM (by (repeat' (first | assumption | exact Below.refl _ _ | apply Blw.alloc | apply Blw.drew | apply Blw.drewN | (refine Blw.after ?_ (by assumption)) | (refine Blw.set ?_ (by first | (dsimp only; omega) | (simp; done) | (simp; omega)) _)))); have hk1 := hk.1))
              exact bodyPost_ret (v := res2 true (firstX a b) (firstY a b)) (by simp [results, Try.results27, go_sem, sel_t, *]) rfl ⟨by rw [HB.out, HE.out.1, HE.out.2], by (repeat' (first | assumption | exact Below.refl _ _ | apply Blw.alloc | apply Blw.drew | apply Blw.drewN | (refine Blw.after ?_ (by assumption)) | (refine Blw.set ?_ (by first | (dsimp only; omega) | (simp; done) | (simp; omega)) _)))⟩
            · have hn := nrm_pos hz
              obtain ⟨k', hk1, hk2, hk3⟩ := gcdF_step (x := a) (y := b) hz Hk.out
              have HD := Lib.hid (rest_in (x := a) (y := b) hn hcd)
              have H1 := Lib.hid hk1
              have H2 := Lib.hid hk2
              have H3 := Lib.hid (hk3.trans Hg.out)
              have T : ¬ c = 0 ∨ (c = 0 ∧ ¬ d = 0) := by omega
              clear hz hk1 hk2 hk3
              rcases T with T | ⟨rfl, T⟩
              · skip
                go_wp2_with (fail)
                refine (divide_c _ _ _ _ _ hab hcd hn).mono ?_
                rintro e wA ⟨rfl, hbwA⟩
                have hkwA : Hld wr wA := heldM (by (repeat' (first | assumption | exact Below.refl _ _ | apply Blw.alloc | apply Blw.drew | apply Blw.drewN | (refine Blw.after ?_ (by assumption)) | (refine Blw.set ?_ (by first | (dsimp only; omega) | (simp; done) | (simp; omega)) _))))
                have hlwA := hkwA.1
                have hswA := hkwA.2.2.2
                try (have : b6 < wA.heap.size := by omega)
                try (have : b7 < wA.heap.size := by omega)
                try (have : w.heap.size + 2 < wA.heap.size := by omega)
                go_wp2_with fail
                generalize hW : World.alloc _ _ = W2
                have kW2_379 : W2.cell? ⟨b6, 0, none⟩ = some (.int .i64 (a)) := by rw [← hW]; clear hW; first | (go_simp; done) | ((repeat refine keepcell ((Below.refl _ _).alloc (Nat.le_refl _) _) ?_); go_simp; done) | (simp only [frozen?_alloc_cells]; go_simp; done)
                have zW2_379 : W2.frozen? ⟨b6, 0, none⟩ = false := by rw [← hW]; clear hW; first | (go_simp; done) | ((repeat refine keepcell ((Below.refl _ _).alloc (Nat.le_refl _) _) ?_); go_simp; done) | (simp only [frozen?_alloc_cells]; go_simp; done)
                have kW2_380 : W2.cell? ⟨b6, 1, none⟩ = some (.int .i64 (b)) := by rw [← hW]; clear hW; first | (go_simp; done) | ((repeat refine keepcell ((Below.refl _ _).alloc (Nat.le_refl _) _) ?_); go_simp; done) | (simp only [frozen?_alloc_cells]; go_simp; done)
                have zW2_380 : W2.frozen? ⟨b6, 1, none⟩ = false := by rw [← hW]; clear hW; first | (go_simp; done) | ((repeat refine keepcell ((Below.refl _ _).alloc (Nat.le_refl _) _) ?_); go_simp; done) | (simp only [frozen?_alloc_cells]; go_simp; done)
                have : b6 < W2.heap.size := World.block_lt_of_cell? W2 ⟨b6, 0, none⟩ (by assumption)
                have kW2_381 : W2.cell? ⟨b7, 0, none⟩ = some (.int .i64 (c)) := by rw [← hW]; clear hW; first | (go_simp; done) | ((repeat refine keepcell ((Below.refl _ _).alloc (Nat.le_refl _) _) ?_); go_simp; done) | (simp only [frozen?_alloc_cells]; go_simp; done)
                have zW2_381 : W2.frozen? ⟨b7, 0, none⟩ = false := by rw [← hW]; clear hW; first | (go_simp; done) | ((repeat refine keepcell ((Below.refl _ _).alloc (Nat.le_refl _) _) ?_); go_simp; done) | (simp only [frozen?_alloc_cells]; go_simp; done)
                have kW2_382 : W2.cell? ⟨b7, 1, none⟩ = some (.int .i64 (d)) := by rw [← hW]; clear hW; first | (go_simp; done) | ((repeat refine keepcell ((Below.refl _ _).alloc (Nat.le_refl _) _) ?_); go_simp; done) | (simp only [frozen?_alloc_cells]; go_simp; done)
                have zW2_382 : W2.frozen? ⟨b7, 1, none⟩ = false := by rw [← hW]; clear hW; first | (go_simp; done) | ((repeat refine keepcell ((Below.refl _ _).alloc (Nat.le_refl _) _) ?_); go_simp; done) | (simp only [frozen?_alloc_cells]; go_simp; done)
                have : b7 < W2.heap.size := World.block_lt_of_cell? W2 ⟨b7, 0, none⟩ (by assumption)
                have kW2_383 : W2.cell? ⟨w.heap.size + 2, 0, none⟩ = some (.int .i64 (0)) := by rw [← hW]; clear hW; first | (go_simp; done) | ((repeat refine keepcell ((Below.refl _ _).alloc (Nat.le_refl _) _) ?_); go_simp; done) | (simp only [frozen?_alloc_cells]; go_simp; done)
                have zW2_383 : W2.frozen? ⟨w.heap.size + 2, 0, none⟩ = false := by rw [← hW]; clear hW; first | (go_simp; done) | ((repeat refine keepcell ((Below.refl _ _).alloc (Nat.le_refl _) _) ?_); go_simp; done) | (simp only [frozen?_alloc_cells]; go_simp; done)
                have kW2_384 : W2.cell? ⟨w.heap.size + 2, 1, none⟩ = some (.int .i64 (0)) := by rw [← hW]; clear hW; first | (go_simp; done) | ((repeat refine keepcell ((Below.refl _ _).alloc (Nat.le_refl _) _) ?_); go_simp; done) | (simp only [frozen?_alloc_cells]; go_simp; done)
                have zW2_384 : W2.frozen? ⟨w.heap.size + 2, 1, none⟩ = false := by rw [← hW]; clear hW; first | (go_simp; done) | ((repeat refine keepcell ((Below.refl _ _).alloc (Nat.le_refl _) _) ?_); go_simp; done) | (simp only [frozen?_alloc_cells]; go_simp; done)
                have : w.heap.size + 2 < W2.heap.size := World.block_lt_of_cell? W2 ⟨w.heap.size + 2, 0, none⟩ (by assumption)
                have kW2_385 : W2.cell? ⟨wA.heap.size + 1, 0, none⟩ = some (.int .i64 ((rx a b c d))) := by rw [← hW]; clear hW; first | (go_simp; done) | ((repeat refine keepcell ((Below.refl _ _).alloc (Nat.le_refl _) _) ?_); go_simp; done) | (simp only [frozen?_alloc_cells]; go_simp; done)
                have kW2_386 : W2.cell? ⟨wA.heap.size + 1, 1, none⟩ = some (.int .i64 ((ry a b c d))) := by rw [← hW]; clear hW; first | (go_simp; done) | ((repeat refine keepcell ((Below.refl _ _).alloc (Nat.le_refl _) _) ?_); go_simp; done) | (simp only [frozen?_alloc_cells]; go_simp; done)
                have : wA.heap.size + 1 < W2.heap.size := World.block_lt_of_cell? W2 ⟨wA.heap.size + 1, 0, none⟩ (by assumption)
                have hBW2 : Below w.heap.size w W2 := by rw [← hW]; (repeat' (first | assumption | exact Below.refl _ _ | apply Blw.alloc | apply Blw.drew | apply Blw.drewN | (refine Blw.after ?_ (by assumption)) | (refine Blw.set ?_ (by first | (dsimp only; omega) | (simp; done) | (simp; omega)) _)))
                have hsW2 := hBW2.size
                clear hW
                try clear kW1_373; try clear zW1_373; try clear kW1_374; try clear zW1_374; try clear kW1_375; try clear zW1_375; try clear kW1_376; try clear zW1_376; try clear kW1_377; try clear zW1_377; try clear kW1_378; try clear zW1_378; try clear hbwA; try clear hkwA; try clear hlwA
                refine region_slots (fun w' => w'.cell? ⟨wA.heap.size + 1, 0, none⟩ = some (.int .i64 ((rx a b c d))) ∧ w'.cell? ⟨wA.heap.size + 1, 1, none⟩ = some (.int .i64 ((ry a b c d)))) [1] [(42, .is (pr c d)), (43, .is (pr (rx a b c d) (ry a b c d)))] (by kernel_rfl) (by kernel_rfl) (by kernel_rfl) (fun w' hH => by go_simp) (fun _ _ _ _ _ _ h => h) ?_
                simp only [Steps, List.contains_cons, List.contains_nil, Nat.reduceBEq, Nat.reduceAdd, Bool.or_false, Bool.false_or, Bool.or_true, Bool.true_or, Bool.false_eq_true, if_false, if_true]
                refine ⟨?_, ?_, ?_⟩
                · intro u w2 hH hd K hK
                  simp only [setU, upd, List.map_cons, List.map_nil, List.contains_cons, List.contains_nil, Nat.reduceBEq, Nat.reduceAdd, Bool.or_false, Bool.false_or, Bool.or_true, Bool.true_or, Bool.false_eq_true, if_false, if_true, ite_true, ite_false, Nat.reduceEqDiff, beq_self_eq_true] at hK ⊢
                  go_wp2_with (fail)
                  exact hK _ _ (by (repeat' (first | assumption | exact Below.refl _ _ | apply Blw.alloc | apply Blw.drew | apply Blw.drewN | (refine Blw.after ?_ (by assumption)) | (refine Blw.set ?_ (by first | (dsimp only; omega) | (simp; done) | (simp; omega)) _)))) rfl
                · intro u w2 hH hd
                  simp only [setU, upd, List.map_cons, List.map_nil, List.contains_cons, List.contains_nil, Nat.reduceBEq, Nat.reduceAdd, Bool.or_false, Bool.false_or, Bool.or_true, Bool.true_or, Bool.false_eq_true, if_false, if_true, ite_true, ite_false, Nat.reduceEqDiff, beq_self_eq_true]
                  refine ⟨(pr (rx a b c d) (ry a b c d)), fun w hS => ?_, by first | rfl | trivial, by first | rfl | trivial, by first | rfl | trivial⟩
                  first | (go_simp; done) | (go_simp; exact IntWalk.i64_in _ (by omega))
                intro u w2 hH hF hne
                have hH1 := hH.1
                have hH2 := hH.2.2.2
                simp only [allFacts, SlotFact.h] at hF
                obtain ⟨f42, f43, -⟩ := hF
                simp only [setU, upd, List.map_cons, List.map_nil, List.contains_cons, List.contains_nil, Nat.reduceBEq, Nat.reduceAdd, Bool.or_false, Bool.false_or, Bool.or_true, Bool.true_or, Bool.false_eq_true, if_false, if_true, ite_true, ite_false, Nat.reduceEqDiff, beq_self_eq_true]
                rw [f42, f43]
                clear f42 f43 hne
                refine wpListS_step fun K hK => ?_
                go_wp2_with (fail)
                refine hK _ _ (by go_simp) ?_
                clear hK
                refine wpListS_step fun K hK => ?_
                go_wp2_with (fail)
                refine hK _ _ (by go_simp) ?_
                clear hK
                refine wpListS_nil ?_
                go_wp2_with fail
                go_roundg k'
                case measure => exact H1.out
                case rel => exact ⟨_, _, _, _, hcd, HD.out, H3.out, H2.out, by (repeat' (first | assumption | exact Below.refl _ _ | apply Blw.alloc | apply Blw.drew | apply Blw.drewN | (refine Blw.after ?_ (by assumption)) | (refine Blw.set ?_ (by first | (dsimp only; omega) | (simp; done) | (simp; omega)) _))), by go_simp, by go_simp, by go_simp, by go_simp, by go_simp, by go_simp, by go_simp, by go_simp, by go_simp, by go_simp, by go_simp, by go_simp⟩
              · skip
                go_wp2_with (fail)
                refine (divide_c _ _ _ _ _ hab hcd hn).mono ?_
                rintro e wA ⟨rfl, hbwA⟩
                have hkwA : Hld wr wA := heldM (by (repeat' (first | assumption | exact Below.refl _ _ | apply Blw.alloc | apply Blw.drew | apply Blw.drewN | (refine Blw.after ?_ (by assumption)) | (refine Blw.set ?_ (by first | (dsimp only; omega) | (simp; done) | (simp; omega)) _))))
                have hlwA := hkwA.1
                have hswA := hkwA.2.2.2
                try (have : b6 < wA.heap.size := by omega)
                try (have : b7 < wA.heap.size := by omega)
                try (have : w.heap.size + 2 < wA.heap.size := by omega)
                go_wp2_with fail
                generalize hW : World.alloc _ _ = W2
                have kW2_387 : W2.cell? ⟨b6, 0, none⟩ = some (.int .i64 (a)) := by rw [← hW]; clear hW; first | (go_simp; done) | ((repeat refine keepcell ((Below.refl _ _).alloc (Nat.le_refl _) _) ?_); go_simp; done) | (simp only [frozen?_alloc_cells]; go_simp; done)
                have zW2_387 : W2.frozen? ⟨b6, 0, none⟩ = false := by rw [← hW]; clear hW; first | (go_simp; done) | ((repeat refine keepcell ((Below.refl _ _).alloc (Nat.le_refl _) _) ?_); go_simp; done) | (simp only [frozen?_alloc_cells]; go_simp; done)
                have kW2_388 : W2.cell? ⟨b6, 1, none⟩ = some (.int .i64 (b)) := by rw [← hW]; clear hW; first | (go_simp; done) | ((repeat refine keepcell ((Below.refl _ _).alloc (Nat.le_refl _) _) ?_); go_simp; done) | (simp only [frozen?_alloc_cells]; go_simp; done)
                have zW2_388 : W2.frozen? ⟨b6, 1, none⟩ = false := by rw [← hW]; clear hW; first | (go_simp; done) | ((repeat refine keepcell ((Below.refl _ _).alloc (Nat.le_refl _) _) ?_); go_simp; done) | (simp only [frozen?_alloc_cells]; go_simp; done)
                have : b6 < W2.heap.size := World.block_lt_of_cell? W2 ⟨b6, 0, none⟩ (by assumption)
                have kW2_389 : W2.cell? ⟨b7, 0, none⟩ = some (.int .i64 (0)) := by rw [← hW]; clear hW; first | (go_simp; done) | ((repeat refine keepcell ((Below.refl _ _).alloc (Nat.le_refl _) _) ?_); go_simp; done) | (simp only [frozen?_alloc_cells]; go_simp; done)
                have zW2_389 : W2.frozen? ⟨b7, 0, none⟩ = false := by rw [← hW]; clear hW; first | (go_simp; done) | ((repeat refine keepcell ((Below.refl _ _).alloc (Nat.le_refl _) _) ?_); go_simp; done) | (simp only [frozen?_alloc_cells]; go_simp; done)
                have kW2_390 : W2.cell? ⟨b7, 1, none⟩ = some (.int .i64 (d)) := by rw [← hW]; clear hW; first | (go_simp; done) | ((repeat refine keepcell ((Below.refl _ _).alloc (Nat.le_refl _) _) ?_); go_simp; done) | (simp only [frozen?_alloc_cells]; go_simp; done)
                have zW2_390 : W2.frozen? ⟨b7, 1, none⟩ = false := by rw [← hW]; clear hW; first | (go_simp; done) | ((repeat refine keepcell ((Below.refl _ _).alloc (Nat.le_refl _) _) ?_); go_simp; done) | (simp only [frozen?_alloc_cells]; go_simp; done)
                have : b7 < W2.heap.size := World.block_lt_of_cell? W2 ⟨b7, 0, none⟩ (by assumption)
                have kW2_391 : W2.cell? ⟨w.heap.size + 2, 0, none⟩ = some (.int .i64 (0)) := by rw [← hW]; clear hW; first | (go_simp; done) | ((repeat refine keepcell ((Below.refl _ _).alloc (Nat.le_refl _) _) ?_); go_simp; done) | (simp only [frozen?_alloc_cells]; go_simp; done)
                have zW2_391 : W2.frozen? ⟨w.heap.size + 2, 0, none⟩ = false := by rw [← hW]; clear hW; first | (go_simp; done) | ((repeat refine keepcell ((Below.refl _ _).alloc (Nat.le_refl _) _) ?_); go_simp; done) | (simp only [frozen?_alloc_cells]; go_simp; done)
                have kW2_392 : W2.cell? ⟨w.heap.size + 2, 1, none⟩ = some (.int .i64 (0)) := by rw [← hW]; clear hW; first | (go_simp; done) | ((repeat refine keepcell ((Below.refl _ _).alloc (Nat.le_refl _) _) ?_); go_simp; done) | (simp only [frozen?_alloc_cells]; go_simp; done)
                have zW2_392 : W2.frozen? ⟨w.heap.size + 2, 1, none⟩ = false := by rw [← hW]; clear hW; first | (go_simp; done) | ((repeat refine keepcell ((Below.refl _ _).alloc (Nat.le_refl _) _) ?_); go_simp; done) | (simp only [frozen?_alloc_cells]; go_simp; done)
                have : w.heap.size + 2 < W2.heap.size := World.block_lt_of_cell? W2 ⟨w.heap.size + 2, 0, none⟩ (by assumption)
                have kW2_393 : W2.cell? ⟨wA.heap.size + 1, 0, none⟩ = some (.int .i64 ((rx a b 0 d))) := by rw [← hW]; clear hW; first | (go_simp; done) | ((repeat refine keepcell ((Below.refl _ _).alloc (Nat.le_refl _) _) ?_); go_simp; done) | (simp only [frozen?_alloc_cells]; go_simp; done)
                have kW2_394 : W2.cell? ⟨wA.heap.size + 1, 1, none⟩ = some (.int .i64 ((ry a b 0 d))) := by rw [← hW]; clear hW; first | (go_simp; done) | ((repeat refine keepcell ((Below.refl _ _).alloc (Nat.le_refl _) _) ?_); go_simp; done) | (simp only [frozen?_alloc_cells]; go_simp; done)
                have : wA.heap.size + 1 < W2.heap.size := World.block_lt_of_cell? W2 ⟨wA.heap.size + 1, 0, none⟩ (by assumption)
                have hBW2 : Below w.heap.size w W2 := by rw [← hW]; (repeat' (first | assumption | exact Below.refl _ _ | apply Blw.alloc | apply Blw.drew | apply Blw.drewN | (refine Blw.after ?_ (by assumption)) | (refine Blw.set ?_ (by first | (dsimp only; omega) | (simp; done) | (simp; omega)) _)))
                have hsW2 := hBW2.size
                clear hW
                try clear kW2_379; try clear zW2_379; try clear kW2_380; try clear zW2_380; try clear kW2_381; try clear zW2_381; try clear kW2_382; try clear zW2_382; try clear kW2_383; try clear zW2_383; try clear kW2_384; try clear zW2_384; try clear kW2_385; try clear kW2_386; try clear hH; try clear hH1; try clear hbwA; try clear hkwA; try clear hlwA
                refine region_slots (fun w' => w'.cell? ⟨wA.heap.size + 1, 0, none⟩ = some (.int .i64 ((rx a b 0 d))) ∧ w'.cell? ⟨wA.heap.size + 1, 1, none⟩ = some (.int .i64 ((ry a b 0 d)))) [1] [(42, .is (pr 0 d)), (43, .is (pr (rx a b 0 d) (ry a b 0 d)))] (by kernel_rfl) (by kernel_rfl) (by kernel_rfl) (fun w' hH => by go_simp) (fun _ _ _ _ _ _ h => h) ?_
                simp only [Steps, List.contains_cons, List.contains_nil, Nat.reduceBEq, Nat.reduceAdd, Bool.or_false, Bool.false_or, Bool.or_true, Bool.true_or, Bool.false_eq_true, if_false, if_true]
                refine ⟨?_, ?_, ?_⟩
                · intro u w2 hH hd K hK
                  simp only [setU, upd, List.map_cons, List.map_nil, List.contains_cons, List.contains_nil, Nat.reduceBEq, Nat.reduceAdd, Bool.or_false, Bool.false_or, Bool.or_true, Bool.true_or, Bool.false_eq_true, if_false, if_true, ite_true, ite_false, Nat.reduceEqDiff, beq_self_eq_true] at hK ⊢
                  go_wp2_with (fail)
                  exact hK _ _ (by (repeat' (first | assumption | exact Below.refl _ _ | apply Blw.alloc | apply Blw.drew | apply Blw.drewN | (refine Blw.after ?_ (by assumption)) | (refine Blw.set ?_ (by first | (dsimp only; omega) | (simp; done) | (simp; omega)) _)))) rfl
                · intro u w2 hH hd
                  simp only [setU, upd, List.map_cons, List.map_nil, List.contains_cons, List.contains_nil, Nat.reduceBEq, Nat.reduceAdd, Bool.or_false, Bool.false_or, Bool.or_true, Bool.true_or, Bool.false_eq_true, if_false, if_true, ite_true, ite_false, Nat.reduceEqDiff, beq_self_eq_true]
                  refine ⟨(pr (rx a b 0 d) (ry a b 0 d)), fun w hS => ?_, by first | rfl | trivial, by first | rfl | trivial, by first | rfl | trivial⟩
                  first | (go_simp; done) | (go_simp; exact IntWalk.i64_in _ (by omega))
                intro u w2 hH hF hne
                have hH1 := hH.1
                have hH2 := hH.2.2.2
                simp only [allFacts, SlotFact.h] at hF
                obtain ⟨f42, f43, -⟩ := hF
                simp only [setU, upd, List.map_cons, List.map_nil, List.contains_cons, List.contains_nil, Nat.reduceBEq, Nat.reduceAdd, Bool.or_false, Bool.false_or, Bool.or_true, Bool.true_or, Bool.false_eq_true, if_false, if_true, ite_true, ite_false, Nat.reduceEqDiff, beq_self_eq_true]
                rw [f42, f43]
                clear f42 f43 hne
                refine wpListS_step fun K hK => ?_
                go_wp2_with (fail)
                refine hK _ _ (by go_simp) ?_
                clear hK
                refine wpListS_step fun K hK => ?_
                go_wp2_with (fail)
                refine hK _ _ (by go_simp) ?_
                clear hK
                refine wpListS_nil ?_
                go_wp2_with fail
                go_roundg k'
                case measure => exact H1.out
                case rel => exact ⟨_, _, _, _, hcd, HD.out, H3.out, H2.out, by (repeat' (first | assumption | exact Below.refl _ _ | apply Blw.alloc | apply Blw.drew | apply Blw.drewN | (refine Blw.after ?_ (by assumption)) | (refine Blw.set ?_ (by first | (dsimp only; omega) | (simp; done) | (simp; omega)) _))), by go_simp, by go_simp, by go_simp, by go_simp, by go_simp, by go_simp, by go_simp, by go_simp, by go_simp, by go_simp, by go_simp, by go_simp⟩
    · skip
      go_enter Try.func27, Try.ntmps27
      go_wp2_with fail
      generalize hW : World.alloc _ _ = W0
      have kW0_395 : W0.cell? ⟨w.heap.size, 0, none⟩ = some (.int .i64 (x)) := by rw [← hW]; clear hW; first | (go_simp; done) | ((repeat refine keepcell ((Below.refl _ _).alloc (Nat.le_refl _) _) ?_); go_simp; done) | (simp only [frozen?_alloc_cells]; go_simp; done)
      have kW0_396 : W0.cell? ⟨w.heap.size, 1, none⟩ = some (.int .i64 (y)) := by rw [← hW]; clear hW; first | (go_simp; done) | ((repeat refine keepcell ((Below.refl _ _).alloc (Nat.le_refl _) _) ?_); go_simp; done) | (simp only [frozen?_alloc_cells]; go_simp; done)
      have : w.heap.size < W0.heap.size := World.block_lt_of_cell? W0 ⟨w.heap.size, 0, none⟩ (by assumption)
      have kW0_397 : W0.cell? ⟨w.heap.size + 1, 0, none⟩ = some (.int .i64 (x')) := by rw [← hW]; clear hW; first | (go_simp; done) | ((repeat refine keepcell ((Below.refl _ _).alloc (Nat.le_refl _) _) ?_); go_simp; done) | (simp only [frozen?_alloc_cells]; go_simp; done)
      have kW0_398 : W0.cell? ⟨w.heap.size + 1, 1, none⟩ = some (.int .i64 (y')) := by rw [← hW]; clear hW; first | (go_simp; done) | ((repeat refine keepcell ((Below.refl _ _).alloc (Nat.le_refl _) _) ?_); go_simp; done) | (simp only [frozen?_alloc_cells]; go_simp; done)
      have : w.heap.size + 1 < W0.heap.size := World.block_lt_of_cell? W0 ⟨w.heap.size + 1, 0, none⟩ (by assumption)
      have kW0_399 : W0.cell? ⟨w.heap.size + 2, 0, none⟩ = some (.int .i64 (0)) := by rw [← hW]; clear hW; first | (go_simp; done) | ((repeat refine keepcell ((Below.refl _ _).alloc (Nat.le_refl _) _) ?_); go_simp; done) | (simp only [frozen?_alloc_cells]; go_simp; done)
      have zW0_399 : W0.frozen? ⟨w.heap.size + 2, 0, none⟩ = false := by rw [← hW]; clear hW; first | (go_simp; done) | ((repeat refine keepcell ((Below.refl _ _).alloc (Nat.le_refl _) _) ?_); go_simp; done) | (simp only [frozen?_alloc_cells]; go_simp; done)
      have kW0_400 : W0.cell? ⟨w.heap.size + 2, 1, none⟩ = some (.int .i64 (0)) := by rw [← hW]; clear hW; first | (go_simp; done) | ((repeat refine keepcell ((Below.refl _ _).alloc (Nat.le_refl _) _) ?_); go_simp; done) | (simp only [frozen?_alloc_cells]; go_simp; done)
      have zW0_400 : W0.frozen? ⟨w.heap.size + 2, 1, none⟩ = false := by rw [← hW]; clear hW; first | (go_simp; done) | ((repeat refine keepcell ((Below.refl _ _).alloc (Nat.le_refl _) _) ?_); go_simp; done) | (simp only [frozen?_alloc_cells]; go_simp; done)
      have : w.heap.size + 2 < W0.heap.size := World.block_lt_of_cell? W0 ⟨w.heap.size + 2, 0, none⟩ (by assumption)
      have hBW0 : Below w.heap.size w W0 := by rw [← hW]; (repeat' (first | assumption | exact Below.refl _ _ | apply Blw.alloc | apply Blw.drew | apply Blw.drewN | (refine Blw.after ?_ (by assumption)) | (refine Blw.set ?_ (by first | (dsimp only; omega) | (simp; done) | (simp; omega)) _)))
      have hsW0 := hBW0.size
      clear hW
      refine region_slots (fun _ => True) [] [(10, .is (pr x y)), (11, .is (pr x y)), (12, .is (pr x' y')), (13, .is (pr x' y')), (6, .own [.int .i64 0, .int .i64 0]), (7, .own [.int .i64 0, .int .i64 0])] (by kernel_rfl) (by kernel_rfl) (by kernel_rfl) (fun _ _ => trivial) (fun _ _ _ _ _ _ h => h) ?_
      simp only [Steps, List.contains_cons, List.contains_nil, Nat.reduceBEq, Nat.reduceAdd, Bool.or_false, Bool.false_or, Bool.or_true, Bool.true_or, Bool.false_eq_true, if_false, if_true]
      refine ⟨?_, ?_, ?_, ?_, ?_, ?_, ?_⟩
      · intro u w2 hH hd K hK
        simp only [setU, upd, List.map_cons, List.map_nil, List.contains_cons, List.contains_nil, Nat.reduceBEq, Nat.reduceAdd, Bool.or_false, Bool.false_or, Bool.or_true, Bool.true_or, Bool.false_eq_true, if_false, if_true, ite_true, ite_false, Nat.reduceEqDiff, beq_self_eq_true] at hK ⊢
        go_wp2_with (fail)
        exact hK _ _ (by (repeat' (first | assumption | exact Below.refl _ _ | apply Blw.alloc | apply Blw.drew | apply Blw.drewN | (refine Blw.after ?_ (by assumption)) | (refine Blw.set ?_ (by first | (dsimp only; omega) | (simp; done) | (simp; omega)) _)))) rfl
      · intro u w2 hH hd K hK
        have f10 : u 10 = (pr x y) := hd 10 (by kernel_rfl)
        simp only [setU, upd, List.map_cons, List.map_nil, List.contains_cons, List.contains_nil, Nat.reduceBEq, Nat.reduceAdd, Bool.or_false, Bool.false_or, Bool.or_true, Bool.true_or, Bool.false_eq_true, if_false, if_true, ite_true, ite_false, Nat.reduceEqDiff, beq_self_eq_true] at hK ⊢
        rw [f10] at hK ⊢
        clear f10
        go_wp2_with ((go_at_call 34; refine (gPair_c _ _ _).mono ?_; rintro e w1 ⟨rfl, hb⟩; obtain ⟨hc, hf⟩ := bcell hb; have hz := bsize hb; have hs := hb.size; try simp at hs))
        exact hK _ _ (by (repeat' (first | assumption | exact Below.refl _ _ | apply Blw.alloc | apply Blw.drew | apply Blw.drewN | (refine Blw.after ?_ (by assumption)) | (refine Blw.set ?_ (by first | (dsimp only; omega) | (simp; done) | (simp; omega)) _)))) rfl
      · intro u w2 hH hd K hK
        simp only [setU, upd, List.map_cons, List.map_nil, List.contains_cons, List.contains_nil, Nat.reduceBEq, Nat.reduceAdd, Bool.or_false, Bool.false_or, Bool.or_true, Bool.true_or, Bool.false_eq_true, if_false, if_true, ite_true, ite_false, Nat.reduceEqDiff, beq_self_eq_true] at hK ⊢
        go_wp2_with (fail)
        exact hK _ _ (by (repeat' (first | assumption | exact Below.refl _ _ | apply Blw.alloc | apply Blw.drew | apply Blw.drewN | (refine Blw.after ?_ (by assumption)) | (refine Blw.set ?_ (by first | (dsimp only; omega) | (simp; done) | (simp; omega)) _)))) rfl
      · intro u w2 hH hd K hK
        have f12 : u 12 = (pr x' y') := hd 12 (by kernel_rfl)
        simp only [setU, upd, List.map_cons, List.map_nil, List.contains_cons, List.contains_nil, Nat.reduceBEq, Nat.reduceAdd, Bool.or_false, Bool.false_or, Bool.or_true, Bool.true_or, Bool.false_eq_true, if_false, if_true, ite_true, ite_false, Nat.reduceEqDiff, beq_self_eq_true] at hK ⊢
        rw [f12] at hK ⊢
        clear f12
        go_wp2_with ((go_at_call 34; refine (gPair_c _ _ _).mono ?_; rintro e w1 ⟨rfl, hb⟩; obtain ⟨hc, hf⟩ := bcell hb; have hz := bsize hb; have hs := hb.size; try simp at hs))
        exact hK _ _ (by (repeat' (first | assumption | exact Below.refl _ _ | apply Blw.alloc | apply Blw.drew | apply Blw.drewN | (refine Blw.after ?_ (by assumption)) | (refine Blw.set ?_ (by first | (dsimp only; omega) | (simp; done) | (simp; omega)) _)))) rfl
      · intro u w2 hH hd K hK
        simp only [setU, upd, List.map_cons, List.map_nil, List.contains_cons, List.contains_nil, Nat.reduceBEq, Nat.reduceAdd, Bool.or_false, Bool.false_or, Bool.or_true, Bool.true_or, Bool.false_eq_true, if_false, if_true, ite_true, ite_false, Nat.reduceEqDiff, beq_self_eq_true] at hK ⊢
        go_wp2_with (fail)
        exact hK _ _ (by (repeat' (first | assumption | exact Below.refl _ _ | apply Blw.alloc | apply Blw.drew | apply Blw.drewN | (refine Blw.after ?_ (by assumption)) | (refine Blw.set ?_ (by first | (dsimp only; omega) | (simp; done) | (simp; omega)) _)))) (OwnP.new _ _ _)
      · intro u w2 hH hd K hK
        simp only [setU, upd, List.map_cons, List.map_nil, List.contains_cons, List.contains_nil, Nat.reduceBEq, Nat.reduceAdd, Bool.or_false, Bool.false_or, Bool.or_true, Bool.true_or, Bool.false_eq_true, if_false, if_true, ite_true, ite_false, Nat.reduceEqDiff, beq_self_eq_true] at hK ⊢
        go_wp2_with (fail)
        exact hK _ _ (by (repeat' (first | assumption | exact Below.refl _ _ | apply Blw.alloc | apply Blw.drew | apply Blw.drewN | (refine Blw.after ?_ (by assumption)) | (refine Blw.set ?_ (by first | (dsimp only; omega) | (simp; done) | (simp; omega)) _)))) (OwnP.new _ _ _)
      intro u w2 hH hF hne
      have hH1 := hH.1
      have hH2 := hH.2.2.2
      simp only [allFacts, SlotFact.h] at hF
      obtain ⟨f10, f11, f12, f13, ⟨b6, f6, g6, l6, k6, z6⟩, ⟨b7, f7, g7, l7, k7, z7⟩, -⟩ := hF
      have n6_7 : b6 ≠ b7 := by have h := hne 6 7 (by kernel_rfl) (by kernel_rfl) (by decide); rw [f6, f7] at h; exact h
      simp only [setU, upd, List.map_cons, List.map_nil, List.contains_cons, List.contains_nil, Nat.reduceBEq, Nat.reduceAdd, Bool.or_false, Bool.false_or, Bool.or_true, Bool.true_or, Bool.false_eq_true, if_false, if_true, ite_true, ite_false, Nat.reduceEqDiff, beq_self_eq_true]
      rw [f10, f11, f12, f13, f6, f7]
      clear f10 f11 f12 f13 f6 f7 hne
      have c6_0 := k6 0 _ rfl
      have e6_0 := z6 0 (by simp)
      have c6_1 := k6 1 _ rfl
      have e6_1 := z6 1 (by simp)
      clear k6 z6
      have c7_0 := k7 0 _ rfl
      have e7_0 := z7 0 (by simp)
      have c7_1 := k7 1 _ rfl
      have e7_1 := z7 1 (by simp)
      clear k7 z7
      refine wpListS_true ?_
      have gg6 : w.heap.size + 2 < b6 := by omega
      have gg7 : w.heap.size + 2 < b7 := by omega
      go_wp2_with fail
      generalize hW : World.setCell _ _ _ = W1
      have kW1_401 : W1.cell? ⟨b6, 0, none⟩ = some (.int .i64 (x)) := by rw [← hW]; clear hW; first | (go_simp; done) | ((repeat refine keepcell ((Below.refl _ _).alloc (Nat.le_refl _) _) ?_); go_simp; done) | (simp only [frozen?_alloc_cells]; go_simp; done)
      have zW1_401 : W1.frozen? ⟨b6, 0, none⟩ = false := by rw [← hW]; clear hW; first | (go_simp; done) | ((repeat refine keepcell ((Below.refl _ _).alloc (Nat.le_refl _) _) ?_); go_simp; done) | (simp only [frozen?_alloc_cells]; go_simp; done)
      have kW1_402 : W1.cell? ⟨b6, 1, none⟩ = some (.int .i64 (y)) := by rw [← hW]; clear hW; first | (go_simp; done) | ((repeat refine keepcell ((Below.refl _ _).alloc (Nat.le_refl _) _) ?_); go_simp; done) | (simp only [frozen?_alloc_cells]; go_simp; done)
      have zW1_402 : W1.frozen? ⟨b6, 1, none⟩ = false := by rw [← hW]; clear hW; first | (go_simp; done) | ((repeat refine keepcell ((Below.refl _ _).alloc (Nat.le_refl _) _) ?_); go_simp; done) | (simp only [frozen?_alloc_cells]; go_simp; done)
      have : b6 < W1.heap.size := World.block_lt_of_cell? W1 ⟨b6, 0, none⟩ (by assumption)
      have kW1_403 : W1.cell? ⟨b7, 0, none⟩ = some (.int .i64 (x')) := by rw [← hW]; clear hW; first | (go_simp; done) | ((repeat refine keepcell ((Below.refl _ _).alloc (Nat.le_refl _) _) ?_); go_simp; done) | (simp only [frozen?_alloc_cells]; go_simp; done)
      have zW1_403 : W1.frozen? ⟨b7, 0, none⟩ = false := by rw [← hW]; clear hW; first | (go_simp; done) | ((repeat refine keepcell ((Below.refl _ _).alloc (Nat.le_refl _) _) ?_); go_simp; done) | (simp only [frozen?_alloc_cells]; go_simp; done)
      have kW1_404 : W1.cell? ⟨b7, 1, none⟩ = some (.int .i64 (y')) := by rw [← hW]; clear hW; first | (go_simp; done) | ((repeat refine keepcell ((Below.refl _ _).alloc (Nat.le_refl _) _) ?_); go_simp; done) | (simp only [frozen?_alloc_cells]; go_simp; done)
      have zW1_404 : W1.frozen? ⟨b7, 1, none⟩ = false := by rw [← hW]; clear hW; first | (go_simp; done) | ((repeat refine keepcell ((Below.refl _ _).alloc (Nat.le_refl _) _) ?_); go_simp; done) | (simp only [frozen?_alloc_cells]; go_simp; done)
      have : b7 < W1.heap.size := World.block_lt_of_cell? W1 ⟨b7, 0, none⟩ (by assumption)
      have kW1_405 : W1.cell? ⟨w.heap.size + 2, 0, none⟩ = some (.int .i64 (0)) := by rw [← hW]; clear hW; first | (go_simp; done) | ((repeat refine keepcell ((Below.refl _ _).alloc (Nat.le_refl _) _) ?_); go_simp; done) | (simp only [frozen?_alloc_cells]; go_simp; done)
      have zW1_405 : W1.frozen? ⟨w.heap.size + 2, 0, none⟩ = false := by rw [← hW]; clear hW; first | (go_simp; done) | ((repeat refine keepcell ((Below.refl _ _).alloc (Nat.le_refl _) _) ?_); go_simp; done) | (simp only [frozen?_alloc_cells]; go_simp; done)
      have kW1_406 : W1.cell? ⟨w.heap.size + 2, 1, none⟩ = some (.int .i64 (0)) := by rw [← hW]; clear hW; first | (go_simp; done) | ((repeat refine keepcell ((Below.refl _ _).alloc (Nat.le_refl _) _) ?_); go_simp; done) | (simp only [frozen?_alloc_cells]; go_simp; done)
      have zW1_406 : W1.frozen? ⟨w.heap.size + 2, 1, none⟩ = false := by rw [← hW]; clear hW; first | (go_simp; done) | ((repeat refine keepcell ((Below.refl _ _).alloc (Nat.le_refl _) _) ?_); go_simp; done) | (simp only [frozen?_alloc_cells]; go_simp; done)
      have : w.heap.size + 2 < W1.heap.size := World.block_lt_of_cell? W1 ⟨w.heap.size + 2, 0, none⟩ (by assumption)
      have hBW1 : Below w.heap.size w W1 := by rw [← hW]; (repeat' (first | assumption | exact Below.refl _ _ | apply Blw.alloc | apply Blw.drew | apply Blw.drewN | (refine Blw.after ?_ (by assumption)) | (refine Blw.set ?_ (by first | (dsimp only; omega) | (simp; done) | (simp; omega)) _)))
      have hsW1 := hBW1.size
      clear hW
      try clear kW0_395; try clear kW0_396; try clear kW0_397; try clear kW0_398; try clear kW0_399; try clear zW0_399; try clear kW0_400; try clear zW0_400; try clear hH; try clear hH1; try clear c6_0; try clear e6_0; try clear c6_1; try clear e6_1; try clear c7_0; try clear e7_0; try clear c7_1; try clear e7_1
      go_wp2_with (go_at_call 35; refine (small_c _ _ _).mono ?_; rintro e w1 ⟨rfl, hb⟩; have hk : Hld W1 w1 := heldM (by (repeat' (first | assumption | exact Below.refl _ _ | apply Blw.alloc | apply Blw.drew | apply Blw.drewN | (refine Blw.after ?_ (by assumption)) | (refine Blw.set ?_ (by first | (dsimp only; omega) | (simp; done) | (simp; omega)) _)))); have hk1 := hk.1)
      exact bodyPost_ret (v := (res2 (gcdB x y x' y') (firstX (gcdX x y x' y') (gcdY x y x' y')) (firstY (gcdX x y x' y') (gcdY x y x' y')))) (by simp [results, Try.results27, go_sem, gcdB, sel_t, sel_f, *]) rfl ⟨rfl, by (repeat' (first | assumption | exact Below.refl _ _ | apply Blw.alloc | apply Blw.drew | apply Blw.drewN | (refine Blw.after ?_ (by assumption)) | (refine Blw.set ?_ (by first | (dsimp only; omega) | (simp; done) | (simp; omega)) _)))⟩
  · skip
    go_enter Try.func27, Try.ntmps27
    go_wp2_with fail
    generalize hW : World.alloc _ _ = W0
    have kW0_407 : W0.cell? ⟨w.heap.size, 0, none⟩ = some (.int .i64 (x)) := by rw [← hW]; clear hW; first | (go_simp; done) | ((repeat refine keepcell ((Below.refl _ _).alloc (Nat.le_refl _) _) ?_); go_simp; done) | (simp only [frozen?_alloc_cells]; go_simp; done)
    have kW0_408 : W0.cell? ⟨w.heap.size, 1, none⟩ = some (.int .i64 (y)) := by rw [← hW]; clear hW; first | (go_simp; done) | ((repeat refine keepcell ((Below.refl _ _).alloc (Nat.le_refl _) _) ?_); go_simp; done) | (simp only [frozen?_alloc_cells]; go_simp; done)
    have : w.heap.size < W0.heap.size := World.block_lt_of_cell? W0 ⟨w.heap.size, 0, none⟩ (by assumption)
    have kW0_409 : W0.cell? ⟨w.heap.size + 1, 0, none⟩ = some (.int .i64 (x')) := by rw [← hW]; clear hW; first | (go_simp; done) | ((repeat refine keepcell ((Below.refl _ _).alloc (Nat.le_refl _) _) ?_); go_simp; done) | (simp only [frozen?_alloc_cells]; go_simp; done)
    have kW0_410 : W0.cell? ⟨w.heap.size + 1, 1, none⟩ = some (.int .i64 (y')) := by rw [← hW]; clear hW; first | (go_simp; done) | ((repeat refine keepcell ((Below.refl _ _).alloc (Nat.le_refl _) _) ?_); go_simp; done) | (simp only [frozen?_alloc_cells]; go_simp; done)
    have : w.heap.size + 1 < W0.heap.size := World.block_lt_of_cell? W0 ⟨w.heap.size + 1, 0, none⟩ (by assumption)
    have kW0_411 : W0.cell? ⟨w.heap.size + 2, 0, none⟩ = some (.int .i64 (0)) := by rw [← hW]; clear hW; first | (go_simp; done) | ((repeat refine keepcell ((Below.refl _ _).alloc (Nat.le_refl _) _) ?_); go_simp; done) | (simp only [frozen?_alloc_cells]; go_simp; done)
    have zW0_411 : W0.frozen? ⟨w.heap.size + 2, 0, none⟩ = false := by rw [← hW]; clear hW; first | (go_simp; done) | ((repeat refine keepcell ((Below.refl _ _).alloc (Nat.le_refl _) _) ?_); go_simp; done) | (simp only [frozen?_alloc_cells]; go_simp; done)
    have kW0_412 : W0.cell? ⟨w.heap.size + 2, 1, none⟩ = some (.int .i64 (0)) := by rw [← hW]; clear hW; first | (go_simp; done) | ((repeat refine keepcell ((Below.refl _ _).alloc (Nat.le_refl _) _) ?_); go_simp; done) | (simp only [frozen?_alloc_cells]; go_simp; done)
    have zW0_412 : W0.frozen? ⟨w.heap.size + 2, 1, none⟩ = false := by rw [← hW]; clear hW; first | (go_simp; done) | ((repeat refine keepcell ((Below.refl _ _).alloc (Nat.le_refl _) _) ?_); go_simp; done) | (simp only [frozen?_alloc_cells]; go_simp; done)
    have : w.heap.size + 2 < W0.heap.size := World.block_lt_of_cell? W0 ⟨w.heap.size + 2, 0, none⟩ (by assumption)
    have hBW0 : Below w.heap.size w W0 := by rw [← hW]; (repeat' (first | assumption | exact Below.refl _ _ | apply Blw.alloc | apply Blw.drew | apply Blw.drewN | (refine Blw.after ?_ (by assumption)) | (refine Blw.set ?_ (by first | (dsimp only; omega) | (simp; done) | (simp; omega)) _)))
    have hsW0 := hBW0.size
    clear hW
    refine region_slots (fun _ => True) [] [(10, .is (pr x y)), (11, .is (pr x y)), (12, .is (pr x' y')), (13, .is (pr x' y')), (6, .own [.int .i64 0, .int .i64 0]), (7, .own [.int .i64 0, .int .i64 0])] (by kernel_rfl) (by kernel_rfl) (by kernel_rfl) (fun _ _ => trivial) (fun _ _ _ _ _ _ h => h) ?_
    simp only [Steps, List.contains_cons, List.contains_nil, Nat.reduceBEq, Nat.reduceAdd, Bool.or_false, Bool.false_or, Bool.or_true, Bool.true_or, Bool.false_eq_true, if_false, if_true]
    refine ⟨?_, ?_, ?_, ?_, ?_, ?_, ?_⟩
    · intro u w2 hH hd K hK
      simp only [setU, upd, List.map_cons, List.map_nil, List.contains_cons, List.contains_nil, Nat.reduceBEq, Nat.reduceAdd, Bool.or_false, Bool.false_or, Bool.or_true, Bool.true_or, Bool.false_eq_true, if_false, if_true, ite_true, ite_false, Nat.reduceEqDiff, beq_self_eq_true] at hK ⊢
      go_wp2_with (fail)
      exact hK _ _ (by (repeat' (first | assumption | exact Below.refl _ _ | apply Blw.alloc | apply Blw.drew | apply Blw.drewN | (refine Blw.after ?_ (by assumption)) | (refine Blw.set ?_ (by first | (dsimp only; omega) | (simp; done) | (simp; omega)) _)))) rfl
    · intro u w2 hH hd K hK
      have f10 : u 10 = (pr x y) := hd 10 (by kernel_rfl)
      simp only [setU, upd, List.map_cons, List.map_nil, List.contains_cons, List.contains_nil, Nat.reduceBEq, Nat.reduceAdd, Bool.or_false, Bool.false_or, Bool.or_true, Bool.true_or, Bool.false_eq_true, if_false, if_true, ite_true, ite_false, Nat.reduceEqDiff, beq_self_eq_true] at hK ⊢
      rw [f10] at hK ⊢
      clear f10
      go_wp2_with ((go_at_call 34; refine (gPair_c _ _ _).mono ?_; rintro e w1 ⟨rfl, hb⟩; obtain ⟨hc, hf⟩ := bcell hb; have hz := bsize hb; have hs := hb.size; try simp at hs))
      exact hK _ _ (by (repeat' (first | assumption | exact Below.refl _ _ | apply Blw.alloc | apply Blw.drew | apply Blw.drewN | (refine Blw.after ?_ (by assumption)) | (refine Blw.set ?_ (by first | (dsimp only; omega) | (simp; done) | (simp; omega)) _)))) rfl
    · intro u w2 hH hd K hK
      simp only [setU, upd, List.map_cons, List.map_nil, List.contains_cons, List.contains_nil, Nat.reduceBEq, Nat.reduceAdd, Bool.or_false, Bool.false_or, Bool.or_true, Bool.true_or, Bool.false_eq_true, if_false, if_true, ite_true, ite_false, Nat.reduceEqDiff, beq_self_eq_true] at hK ⊢
      go_wp2_with (fail)
      exact hK _ _ (by (repeat' (first | assumption | exact Below.refl _ _ | apply Blw.alloc | apply Blw.drew | apply Blw.drewN | (refine Blw.after ?_ (by assumption)) | (refine Blw.set ?_ (by first | (dsimp only; omega) | (simp; done) | (simp; omega)) _)))) rfl
    · intro u w2 hH hd K hK
      have f12 : u 12 = (pr x' y') := hd 12 (by kernel_rfl)
      simp only [setU, upd, List.map_cons, List.map_nil, List.contains_cons, List.contains_nil, Nat.reduceBEq, Nat.reduceAdd, Bool.or_false, Bool.false_or, Bool.or_true, Bool.true_or, Bool.false_eq_true, if_false, if_true, ite_true, ite_false, Nat.reduceEqDiff, beq_self_eq_true] at hK ⊢
      rw [f12] at hK ⊢
      clear f12
      go_wp2_with ((go_at_call 34; refine (gPair_c _ _ _).mono ?_; rintro e w1 ⟨rfl, hb⟩; obtain ⟨hc, hf⟩ := bcell hb; have hz := bsize hb; have hs := hb.size; try simp at hs))
      exact hK _ _ (by (repeat' (first | assumption | exact Below.refl _ _ | apply Blw.alloc | apply Blw.drew | apply Blw.drewN | (refine Blw.after ?_ (by assumption)) | (refine Blw.set ?_ (by first | (dsimp only; omega) | (simp; done) | (simp; omega)) _)))) rfl
    · intro u w2 hH hd K hK
      simp only [setU, upd, List.map_cons, List.map_nil, List.contains_cons, List.contains_nil, Nat.reduceBEq, Nat.reduceAdd, Bool.or_false, Bool.false_or, Bool.or_true, Bool.true_or, Bool.false_eq_true, if_false, if_true, ite_true, ite_false, Nat.reduceEqDiff, beq_self_eq_true] at hK ⊢
      go_wp2_with (fail)
      exact hK _ _ (by (repeat' (first | assumption | exact Below.refl _ _ | apply Blw.alloc | apply Blw.drew | apply Blw.drewN | (refine Blw.after ?_ (by assumption)) | (refine Blw.set ?_ (by first | (dsimp only; omega) | (simp; done) | (simp; omega)) _)))) (OwnP.new _ _ _)
    · intro u w2 hH hd K hK
      simp only [setU, upd, List.map_cons, List.map_nil, List.contains_cons, List.contains_nil, Nat.reduceBEq, Nat.reduceAdd, Bool.or_false, Bool.false_or, Bool.or_true, Bool.true_or, Bool.false_eq_true, if_false, if_true, ite_true, ite_false, Nat.reduceEqDiff, beq_self_eq_true] at hK ⊢
      go_wp2_with (fail)
      exact hK _ _ (by (repeat' (first | assumption | exact Below.refl _ _ | apply Blw.alloc | apply Blw.drew | apply Blw.drewN | (refine Blw.after ?_ (by assumption)) | (refine Blw.set ?_ (by first | (dsimp only; omega) | (simp; done) | (simp; omega)) _)))) (OwnP.new _ _ _)
    intro u w2 hH hF hne
    have hH1 := hH.1
    have hH2 := hH.2.2.2
    simp only [allFacts, SlotFact.h] at hF
    obtain ⟨f10, f11, f12, f13, ⟨b6, f6, g6, l6, k6, z6⟩, ⟨b7, f7, g7, l7, k7, z7⟩, -⟩ := hF
    have n6_7 : b6 ≠ b7 := by have h := hne 6 7 (by kernel_rfl) (by kernel_rfl) (by decide); rw [f6, f7] at h; exact h
    simp only [setU, upd, List.map_cons, List.map_nil, List.contains_cons, List.contains_nil, Nat.reduceBEq, Nat.reduceAdd, Bool.or_false, Bool.false_or, Bool.or_true, Bool.true_or, Bool.false_eq_true, if_false, if_true, ite_true, ite_false, Nat.reduceEqDiff, beq_self_eq_true]
    rw [f10, f11, f12, f13, f6, f7]
    clear f10 f11 f12 f13 f6 f7 hne
    have c6_0 := k6 0 _ rfl
    have e6_0 := z6 0 (by simp)
    have c6_1 := k6 1 _ rfl
    have e6_1 := z6 1 (by simp)
    clear k6 z6
    have c7_0 := k7 0 _ rfl
    have e7_0 := z7 0 (by simp)
    have c7_1 := k7 1 _ rfl
    have e7_1 := z7 1 (by simp)
    clear k7 z7
    refine wpListS_true ?_
    have gg6 : w.heap.size + 2 < b6 := by omega
    have gg7 : w.heap.size + 2 < b7 := by omega
    go_wp2_with fail
    generalize hW : World.setCell _ _ _ = W1
    have kW1_413 : W1.cell? ⟨b6, 0, none⟩ = some (.int .i64 (x)) := by rw [← hW]; clear hW; first | (go_simp; done) | ((repeat refine keepcell ((Below.refl _ _).alloc (Nat.le_refl _) _) ?_); go_simp; done) | (simp only [frozen?_alloc_cells]; go_simp; done)
    have zW1_413 : W1.frozen? ⟨b6, 0, none⟩ = false := by rw [← hW]; clear hW; first | (go_simp; done) | ((repeat refine keepcell ((Below.refl _ _).alloc (Nat.le_refl _) _) ?_); go_simp; done) | (simp only [frozen?_alloc_cells]; go_simp; done)
    have kW1_414 : W1.cell? ⟨b6, 1, none⟩ = some (.int .i64 (y)) := by rw [← hW]; clear hW; first | (go_simp; done) | ((repeat refine keepcell ((Below.refl _ _).alloc (Nat.le_refl _) _) ?_); go_simp; done) | (simp only [frozen?_alloc_cells]; go_simp; done)
    have zW1_414 : W1.frozen? ⟨b6, 1, none⟩ = false := by rw [← hW]; clear hW; first | (go_simp; done) | ((repeat refine keepcell ((Below.refl _ _).alloc (Nat.le_refl _) _) ?_); go_simp; done) | (simp only [frozen?_alloc_cells]; go_simp; done)
    have : b6 < W1.heap.size := World.block_lt_of_cell? W1 ⟨b6, 0, none⟩ (by assumption)
    have kW1_415 : W1.cell? ⟨b7, 0, none⟩ = some (.int .i64 (x')) := by rw [← hW]; clear hW; first | (go_simp; done) | ((repeat refine keepcell ((Below.refl _ _).alloc (Nat.le_refl _) _) ?_); go_simp; done) | (simp only [frozen?_alloc_cells]; go_simp; done)
    have zW1_415 : W1.frozen? ⟨b7, 0, none⟩ = false := by rw [← hW]; clear hW; first | (go_simp; done) | ((repeat refine keepcell ((Below.refl _ _).alloc (Nat.le_refl _) _) ?_); go_simp; done) | (simp only [frozen?_alloc_cells]; go_simp; done)
    have kW1_416 : W1.cell? ⟨b7, 1, none⟩ = some (.int .i64 (y')) := by rw [← hW]; clear hW; first | (go_simp; done) | ((repeat refine keepcell ((Below.refl _ _).alloc (Nat.le_refl _) _) ?_); go_simp; done) | (simp only [frozen?_alloc_cells]; go_simp; done)
    have zW1_416 : W1.frozen? ⟨b7, 1, none⟩ = false := by rw [← hW]; clear hW; first | (go_simp; done) | ((repeat refine keepcell ((Below.refl _ _).alloc (Nat.le_refl _) _) ?_); go_simp; done) | (simp only [frozen?_alloc_cells]; go_simp; done)
    have : b7 < W1.heap.size := World.block_lt_of_cell? W1 ⟨b7, 0, none⟩ (by assumption)
    have kW1_417 : W1.cell? ⟨w.heap.size + 2, 0, none⟩ = some (.int .i64 (0)) := by rw [← hW]; clear hW; first | (go_simp; done) | ((repeat refine keepcell ((Below.refl _ _).alloc (Nat.le_refl _) _) ?_); go_simp; done) | (simp only [frozen?_alloc_cells]; go_simp; done)
    have zW1_417 : W1.frozen? ⟨w.heap.size + 2, 0, none⟩ = false := by rw [← hW]; clear hW; first | (go_simp; done) | ((repeat refine keepcell ((Below.refl _ _).alloc (Nat.le_refl _) _) ?_); go_simp; done) | (simp only [frozen?_alloc_cells]; go_simp; done)
    have kW1_418 : W1.cell? ⟨w.heap.size + 2, 1, none⟩ = some (.int .i64 (0)) := by rw [← hW]; clear hW; first | (go_simp; done) | ((repeat refine keepcell ((Below.refl _ _).alloc (Nat.le_refl _) _) ?_); go_simp; done) | (simp only [frozen?_alloc_cells]; go_simp; done)
    have zW1_418 : W1.frozen? ⟨w.heap.size + 2, 1, none⟩ = false := by rw [← hW]; clear hW; first | (go_simp; done) | ((repeat refine keepcell ((Below.refl _ _).alloc (Nat.le_refl _) _) ?_); go_simp; done) | (simp only [frozen?_alloc_cells]; go_simp; done)
    have : w.heap.size + 2 < W1.heap.size := World.block_lt_of_cell? W1 ⟨w.heap.size + 2, 0, none⟩ (by assumption)
    have hBW1 : Below w.heap.size w W1 := by rw [← hW]; (repeat' (first | assumption | exact Below.refl _ _ | apply Blw.alloc | apply Blw.drew | apply Blw.drewN | (refine Blw.after ?_ (by assumption)) | (refine Blw.set ?_ (by first | (dsimp only; omega) | (simp; done) | (simp; omega)) _)))
    have hsW1 := hBW1.size
    clear hW
    try clear kW0_407; try clear kW0_408; try clear kW0_409; try clear kW0_410; try clear kW0_411; try clear zW0_411; try clear kW0_412; try clear zW0_412; try clear hH; try clear hH1; try clear c6_0; try clear e6_0; try clear c6_1; try clear e6_1; try clear c7_0; try clear e7_0; try clear c7_1; try clear e7_1
    go_wp2_with (go_at_call 35; refine (small_c _ _ _).mono ?_; rintro e w1 ⟨rfl, hb⟩; have hk : Hld W1 w1 := heldM (by (repeat' (first | assumption | exact Below.refl _ _ | apply Blw.alloc | apply Blw.drew | apply Blw.drewN | (refine Blw.after ?_ (by assumption)) | (refine Blw.set ?_ (by first | (dsimp only; omega) | (simp; done) | (simp; omega)) _)))); have hk1 := hk.1)
    exact bodyPost_ret (v := (res2 (gcdB x y x' y') (firstX (gcdX x y x' y') (gcdY x y x' y')) (firstY (gcdX x y x' y') (gcdY x y x' y')))) (by simp [results, Try.results27, go_sem, gcdB, sel_t, sel_f, *]) rfl ⟨rfl, by (repeat' (first | assumption | exact Below.refl _ _ | apply Blw.alloc | apply Blw.drew | apply Blw.drewN | (refine Blw.after ?_ (by assumption)) | (refine Blw.set ?_ (by first | (dsimp only; omega) | (simp; done) | (simp; omega)) _)))⟩
end Go.Proofs.Ytglieacjpdpmnaa

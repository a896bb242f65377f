/- Chapter 1: products and norms, of both sides. -/
import Derived.Test.YtfodfapaidfhbacGc
import Derived.Test.YtfodfapaidfhbacMath
namespace Go.Proofs.Ytfodfapaidfhbac
set_option linter.unusedSimpArgs false
set_option linter.unusedVariables false
open Go.RowKit

/-- both are small, and so is the product -/
def mulB (x y x' y' : Int) : Bool := inB 1000000 x y && inB 1000000 x' y' && inB 1000000 (x * x' - y * y') (x * y' + y * x')

theorem times_c (x y x' y' : Int) (w : World) (h : in9 x y) (h' : in9 x' y') : Calls Try.prog 62 #[pr x y, pr x' y'] w fun e w' => e = .returned (pr (x * x' - y * y') (x * y' + y * x')) ∧ Below w.heap.size w w' := by
  obtain ⟨h1, h2, h3, h4⟩ := h
  obtain ⟨h5, h6, h7, h8⟩ := h'
  obtain ⟨a1, a2⟩ := mul9 ⟨h1, h2⟩ ⟨h5, h6⟩
  obtain ⟨a3, a4⟩ := mul9 ⟨h3, h4⟩ ⟨h7, h8⟩
  obtain ⟨a5, a6⟩ := mul9 ⟨h1, h2⟩ ⟨h7, h8⟩
  obtain ⟨a7, a8⟩ := mul9 ⟨h3, h4⟩ ⟨h5, h6⟩
  go_enter Try.func62, Try.ntmps62
  go_wp2
  exact bodyPost_ret (v := pr (x * x' - y * y') (x * y' + y * x')) (by simp [results, Try.results62, go_sem]) rfl ⟨rfl, by (repeat' (first | assumption | exact Below.refl _ _ | apply Blw.alloc | apply Blw.drew | apply Blw.drewN | (refine Blw.after ?_ (by assumption)) | (refine Blw.set ?_ (by first | (dsimp only; omega) | (simp; done) | (simp; omega)) _)))⟩

theorem l1Times_c (x y x' y' : Int) (w : World) (h : in9 x y) (h' : in9 x' y') : Calls Try.prog 48 #[pr x y, pr x' y'] w fun e w' => e = .returned (pr (x * x' - y * y') (x * y' + y * x')) ∧ Below w.heap.size w w' := by
  obtain ⟨h1, h2, h3, h4⟩ := h
  obtain ⟨h5, h6, h7, h8⟩ := h'
  obtain ⟨a1, a2⟩ := mul9 ⟨h1, h2⟩ ⟨h5, h6⟩
  obtain ⟨a3, a4⟩ := mul9 ⟨h3, h4⟩ ⟨h7, h8⟩
  obtain ⟨a5, a6⟩ := mul9 ⟨h1, h2⟩ ⟨h7, h8⟩
  obtain ⟨a7, a8⟩ := mul9 ⟨h3, h4⟩ ⟨h5, h6⟩
  go_enter Try.func48, Try.ntmps48
  go_wp2
  exact bodyPost_ret (v := pr (x * x' - y * y') (x * y' + y * x')) (by simp [results, Try.results48, go_sem]) rfl ⟨rfl, by (repeat' (first | assumption | exact Below.refl _ _ | apply Blw.alloc | apply Blw.drew | apply Blw.drewN | (refine Blw.after ?_ (by assumption)) | (refine Blw.set ?_ (by first | (dsimp only; omega) | (simp; done) | (simp; omega)) _)))⟩

theorem norm_c (x y : Int) (w : World) (h : in9 x y) : Calls Try.prog 63 #[pr x y] w fun e w' => e = .returned (.int .i64 (x * x + y * y)) ∧ Below w.heap.size w w' := by
  obtain ⟨h1, h2, h3, h4⟩ := h
  obtain ⟨a1, a2⟩ := mul9 ⟨h1, h2⟩ ⟨h1, h2⟩
  obtain ⟨a3, a4⟩ := mul9 ⟨h3, h4⟩ ⟨h3, h4⟩
  go_enter Try.func63, Try.ntmps63
  go_wp2
  go_ret
  exact ⟨rfl, by (repeat' (first | assumption | exact Below.refl _ _ | apply Blw.alloc | apply Blw.drew | apply Blw.drewN | (refine Blw.after ?_ (by assumption)) | (refine Blw.set ?_ (by first | (dsimp only; omega) | (simp; done) | (simp; omega)) _)))⟩

theorem l1Norm_c (x y : Int) (w : World) (h : in9 x y) : Calls Try.prog 64 #[pr x y] w fun e w' => e = .returned (.int .i64 (x * x + y * y)) ∧ Below w.heap.size w w' := by
  obtain ⟨h1, h2, h3, h4⟩ := h
  obtain ⟨a1, a2⟩ := mul9 ⟨h1, h2⟩ ⟨h1, h2⟩
  obtain ⟨a3, a4⟩ := mul9 ⟨h3, h4⟩ ⟨h3, h4⟩
  go_enter Try.func64, Try.ntmps64
  go_wp2
  go_ret
  exact ⟨rfl, by (repeat' (first | assumption | exact Below.refl _ _ | apply Blw.alloc | apply Blw.drew | apply Blw.drewN | (refine Blw.after ?_ (by assumption)) | (refine Blw.set ?_ (by first | (dsimp only; omega) | (simp; done) | (simp; omega)) _)))⟩

/-- the norm, or -1: the walk does not look into it -/
def normV (x y : Int) : Int := if inB 1000000 x y then x * x + y * y else -1

theorem sGaussNorm_c (x y : Int) (w : World) : Calls Try.prog 28 #[pr x y] w fun e w' => e = .returned (.int .i64 (normV x y)) ∧ Below w.heap.size w w' := by
  rcases Bool.eq_false_or_eq_true (inB 1000000 x y) with h1 | h1
  · have H1 := inB_le h1
    go_enter Try.func28, Try.ntmps28
    go_wp2_with (first | (go_at_call 54; refine (sGaussSmall_c _ _ _).mono ?_; rintro e w1 ⟨rfl, hb⟩; obtain ⟨hc, hf⟩ := bcell hb; have hz := bsize hb; have hs := hb.size; try simp at hs) | (go_at_call 64; refine (l1Norm_c _ _ _ (small9 H1)).mono ?_; rintro e w1 ⟨rfl, hb⟩; obtain ⟨hc, hf⟩ := bcell hb; have hz := bsize hb; have hs := hb.size; try simp at hs))
    go_ret
    exact ⟨by simp [normV, h1], by (repeat' (first | assumption | exact Below.refl _ _ | apply Blw.alloc | apply Blw.drew | apply Blw.drewN | (refine Blw.after ?_ (by assumption)) | (refine Blw.set ?_ (by first | (dsimp only; omega) | (simp; done) | (simp; omega)) _)))⟩
  · go_enter Try.func28, Try.ntmps28
    go_wp2_with (first | (go_at_call 54; refine (sGaussSmall_c _ _ _).mono ?_; rintro e w1 ⟨rfl, hb⟩; obtain ⟨hc, hf⟩ := bcell hb; have hz := bsize hb; have hs := hb.size; try simp at hs))
    go_ret
    exact ⟨by simp [normV, h1], by (repeat' (first | assumption | exact Below.refl _ _ | apply Blw.alloc | apply Blw.drew | apply Blw.drewN | (refine Blw.after ?_ (by assumption)) | (refine Blw.set ?_ (by first | (dsimp only; omega) | (simp; done) | (simp; omega)) _)))⟩

theorem iGaussNorm_c (x y : Int) (w : World) : Calls Try.prog 26 #[pr x y] w fun e w' => e = .returned (.int .i64 (normV x y)) ∧ Below w.heap.size w w' := by
  rcases Bool.eq_false_or_eq_true (inB 1000000 x y) with h1 | h1
  · have H1 := inB_le h1
    go_enter Try.func26, Try.ntmps26
    go_wp2_with (first | (go_at_call 49; refine (gPair_c _ _ _).mono ?_; rintro e w1 ⟨rfl, hb⟩; obtain ⟨hc, hf⟩ := bcell hb; have hz := bsize hb; have hs := hb.size; try simp at hs) | (go_at_call 50; refine (small_c _ _ _).mono ?_; rintro e w1 ⟨rfl, hb⟩; obtain ⟨hc, hf⟩ := bcell hb; have hz := bsize hb; have hs := hb.size; try simp at hs) | (go_at_call 63; refine (norm_c _ _ _ (small9 H1)).mono ?_; rintro e w1 ⟨rfl, hb⟩; obtain ⟨hc, hf⟩ := bcell hb; have hz := bsize hb; have hs := hb.size; try simp at hs))
    go_ret
    exact ⟨by simp [normV, h1], by (repeat' (first | assumption | exact Below.refl _ _ | apply Blw.alloc | apply Blw.drew | apply Blw.drewN | (refine Blw.after ?_ (by assumption)) | (refine Blw.set ?_ (by first | (dsimp only; omega) | (simp; done) | (simp; omega)) _)))⟩
  · go_enter Try.func26, Try.ntmps26
    go_wp2_with (first | (go_at_call 49; refine (gPair_c _ _ _).mono ?_; rintro e w1 ⟨rfl, hb⟩; obtain ⟨hc, hf⟩ := bcell hb; have hz := bsize hb; have hs := hb.size; try simp at hs) | (go_at_call 50; refine (small_c _ _ _).mono ?_; rintro e w1 ⟨rfl, hb⟩; obtain ⟨hc, hf⟩ := bcell hb; have hz := bsize hb; have hs := hb.size; try simp at hs))
    go_ret
    exact ⟨by simp [normV, h1], by (repeat' (first | assumption | exact Below.refl _ _ | apply Blw.alloc | apply Blw.drew | apply Blw.drewN | (refine Blw.after ?_ (by assumption)) | (refine Blw.set ?_ (by first | (dsimp only; omega) | (simp; done) | (simp; omega)) _)))⟩

set_option maxHeartbeats 1000000 in
theorem iGaussTimes_c (x y x' y' : Int) (w : World) : Calls Try.prog 24 #[pr x y, pr x' y'] w fun e w' => e = .returned (res2 (mulB x y x' y') (x * x' - y * y') (x * y' + y * x')) ∧ Below w.heap.size w w' := by
  go_enter Try.func24, Try.ntmps24
  go_wp2_with fail
  generalize hW : World.alloc _ _ = W0
  have kW0_27 : W0.cell? ⟨w.heap.size, 0, none⟩ = some (.int .i64 (x)) := by rw [← hW]; clear hW; first | (go_simp; done) | ((repeat refine keepcell ((Below.refl _ _).alloc (Nat.le_refl _) _) ?_); go_simp; done) | (simp only [frozen?_alloc_cells]; go_simp; done)
  have kW0_28 : W0.cell? ⟨w.heap.size, 1, none⟩ = some (.int .i64 (y)) := by rw [← hW]; clear hW; first | (go_simp; done) | ((repeat refine keepcell ((Below.refl _ _).alloc (Nat.le_refl _) _) ?_); go_simp; done) | (simp only [frozen?_alloc_cells]; go_simp; done)
  have : w.heap.size < W0.heap.size := World.block_lt_of_cell? W0 ⟨w.heap.size, 0, none⟩ (by assumption)
  have kW0_29 : W0.cell? ⟨w.heap.size + 1, 0, none⟩ = some (.int .i64 (x')) := by rw [← hW]; clear hW; first | (go_simp; done) | ((repeat refine keepcell ((Below.refl _ _).alloc (Nat.le_refl _) _) ?_); go_simp; done) | (simp only [frozen?_alloc_cells]; go_simp; done)
  have kW0_30 : W0.cell? ⟨w.heap.size + 1, 1, none⟩ = some (.int .i64 (y')) := by rw [← hW]; clear hW; first | (go_simp; done) | ((repeat refine keepcell ((Below.refl _ _).alloc (Nat.le_refl _) _) ?_); go_simp; done) | (simp only [frozen?_alloc_cells]; go_simp; done)
  have : w.heap.size + 1 < W0.heap.size := World.block_lt_of_cell? W0 ⟨w.heap.size + 1, 0, none⟩ (by assumption)
  have kW0_31 : W0.cell? ⟨w.heap.size + 2, 0, none⟩ = some (.int .i64 (0)) := by rw [← hW]; clear hW; first | (go_simp; done) | ((repeat refine keepcell ((Below.refl _ _).alloc (Nat.le_refl _) _) ?_); go_simp; done) | (simp only [frozen?_alloc_cells]; go_simp; done)
  have zW0_31 : W0.frozen? ⟨w.heap.size + 2, 0, none⟩ = false := by rw [← hW]; clear hW; first | (go_simp; done) | ((repeat refine keepcell ((Below.refl _ _).alloc (Nat.le_refl _) _) ?_); go_simp; done) | (simp only [frozen?_alloc_cells]; go_simp; done)
  have kW0_32 : W0.cell? ⟨w.heap.size + 2, 1, none⟩ = some (.int .i64 (0)) := by rw [← hW]; clear hW; first | (go_simp; done) | ((repeat refine keepcell ((Below.refl _ _).alloc (Nat.le_refl _) _) ?_); go_simp; done) | (simp only [frozen?_alloc_cells]; go_simp; done)
  have zW0_32 : W0.frozen? ⟨w.heap.size + 2, 1, none⟩ = false := by rw [← hW]; clear hW; first | (go_simp; done) | ((repeat refine keepcell ((Below.refl _ _).alloc (Nat.le_refl _) _) ?_); go_simp; done) | (simp only [frozen?_alloc_cells]; go_simp; done)
  have : w.heap.size + 2 < W0.heap.size := World.block_lt_of_cell? W0 ⟨w.heap.size + 2, 0, none⟩ (by assumption)
  have hBW0 : Below w.heap.size w W0 := by rw [← hW]; (repeat' (first | assumption | exact Below.refl _ _ | apply Blw.alloc | apply Blw.drew | apply Blw.drewN | (refine Blw.after ?_ (by assumption)) | (refine Blw.set ?_ (by first | (dsimp only; omega) | (simp; done) | (simp; omega)) _)))
  have hsW0 := hBW0.size
  clear hW
  refine region_slots (fun _ => True) [] [(8, .is (pr x y)), (9, .is (pr x y)), (10, .is (pr x' y')), (11, .is (pr x' y')), (6, .own [.int .i64 0, .int .i64 0]), (7, .own [.int .i64 0, .int .i64 0])] (by kernel_rfl) (by kernel_rfl) (by kernel_rfl) (fun _ _ => trivial) (fun _ _ _ _ _ _ h => h) ?_
  simp only [Steps, List.contains_cons, List.contains_nil, Nat.reduceBEq, Nat.reduceAdd, Bool.or_false, Bool.false_or, Bool.or_true, Bool.true_or, Bool.false_eq_true, if_false, if_true]
  refine ⟨?_, ?_, ?_, ?_, ?_, ?_, ?_⟩
  · intro u w2 hH hd K hK
    simp only [setU, upd, List.map_cons, List.map_nil, List.contains_cons, List.contains_nil, Nat.reduceBEq, Nat.reduceAdd, Bool.or_false, Bool.false_or, Bool.or_true, Bool.true_or, Bool.false_eq_true, if_false, if_true, ite_true, ite_false, Nat.reduceEqDiff, beq_self_eq_true] at hK ⊢
    go_wp2_with (fail)
    exact hK _ _ (by (repeat' (first | assumption | exact Below.refl _ _ | apply Blw.alloc | apply Blw.drew | apply Blw.drewN | (refine Blw.after ?_ (by assumption)) | (refine Blw.set ?_ (by first | (dsimp only; omega) | (simp; done) | (simp; omega)) _)))) rfl
  · intro u w2 hH hd K hK
    have f8 : u 8 = (pr x y) := hd 8 (by kernel_rfl)
    simp only [setU, upd, List.map_cons, List.map_nil, List.contains_cons, List.contains_nil, Nat.reduceBEq, Nat.reduceAdd, Bool.or_false, Bool.false_or, Bool.or_true, Bool.true_or, Bool.false_eq_true, if_false, if_true, ite_true, ite_false, Nat.reduceEqDiff, beq_self_eq_true] at hK ⊢
    rw [f8] at hK ⊢
    clear f8
    go_wp2_with ((go_at_call 49; refine (gPair_c _ _ _).mono ?_; rintro e w1 ⟨rfl, hb⟩; obtain ⟨hc, hf⟩ := bcell hb; have hz := bsize hb; have hs := hb.size; try simp at hs))
    exact hK _ _ (by (repeat' (first | assumption | exact Below.refl _ _ | apply Blw.alloc | apply Blw.drew | apply Blw.drewN | (refine Blw.after ?_ (by assumption)) | (refine Blw.set ?_ (by first | (dsimp only; omega) | (simp; done) | (simp; omega)) _)))) rfl
  · intro u w2 hH hd K hK
    simp only [setU, upd, List.map_cons, List.map_nil, List.contains_cons, List.contains_nil, Nat.reduceBEq, Nat.reduceAdd, Bool.or_false, Bool.false_or, Bool.or_true, Bool.true_or, Bool.false_eq_true, if_false, if_true, ite_true, ite_false, Nat.reduceEqDiff, beq_self_eq_true] at hK ⊢
    go_wp2_with (fail)
    exact hK _ _ (by (repeat' (first | assumption | exact Below.refl _ _ | apply Blw.alloc | apply Blw.drew | apply Blw.drewN | (refine Blw.after ?_ (by assumption)) | (refine Blw.set ?_ (by first | (dsimp only; omega) | (simp; done) | (simp; omega)) _)))) rfl
  · intro u w2 hH hd K hK
    have f10 : u 10 = (pr x' y') := hd 10 (by kernel_rfl)
    simp only [setU, upd, List.map_cons, List.map_nil, List.contains_cons, List.contains_nil, Nat.reduceBEq, Nat.reduceAdd, Bool.or_false, Bool.false_or, Bool.or_true, Bool.true_or, Bool.false_eq_true, if_false, if_true, ite_true, ite_false, Nat.reduceEqDiff, beq_self_eq_true] at hK ⊢
    rw [f10] at hK ⊢
    clear f10
    go_wp2_with ((go_at_call 49; refine (gPair_c _ _ _).mono ?_; rintro e w1 ⟨rfl, hb⟩; obtain ⟨hc, hf⟩ := bcell hb; have hz := bsize hb; have hs := hb.size; try simp at hs))
    exact hK _ _ (by (repeat' (first | assumption | exact Below.refl _ _ | apply Blw.alloc | apply Blw.drew | apply Blw.drewN | (refine Blw.after ?_ (by assumption)) | (refine Blw.set ?_ (by first | (dsimp only; omega) | (simp; done) | (simp; omega)) _)))) rfl
  · intro u w2 hH hd K hK
    simp only [setU, upd, List.map_cons, List.map_nil, List.contains_cons, List.contains_nil, Nat.reduceBEq, Nat.reduceAdd, Bool.or_false, Bool.false_or, Bool.or_true, Bool.true_or, Bool.false_eq_true, if_false, if_true, ite_true, ite_false, Nat.reduceEqDiff, beq_self_eq_true] at hK ⊢
    go_wp2_with (fail)
    exact hK _ _ (by (repeat' (first | assumption | exact Below.refl _ _ | apply Blw.alloc | apply Blw.drew | apply Blw.drewN | (refine Blw.after ?_ (by assumption)) | (refine Blw.set ?_ (by first | (dsimp only; omega) | (simp; done) | (simp; omega)) _)))) (OwnP.new _ _ _)
  · intro u w2 hH hd K hK
    simp only [setU, upd, List.map_cons, List.map_nil, List.contains_cons, List.contains_nil, Nat.reduceBEq, Nat.reduceAdd, Bool.or_false, Bool.false_or, Bool.or_true, Bool.true_or, Bool.false_eq_true, if_false, if_true, ite_true, ite_false, Nat.reduceEqDiff, beq_self_eq_true] at hK ⊢
    go_wp2_with (fail)
    exact hK _ _ (by (repeat' (first | assumption | exact Below.refl _ _ | apply Blw.alloc | apply Blw.drew | apply Blw.drewN | (refine Blw.after ?_ (by assumption)) | (refine Blw.set ?_ (by first | (dsimp only; omega) | (simp; done) | (simp; omega)) _)))) (OwnP.new _ _ _)
  intro u w2 hH hF hne
  have hH1 := hH.1
  have hH2 := hH.2.2.2
  simp only [allFacts, SlotFact.h] at hF
  obtain ⟨f8, f9, f10, f11, ⟨b6, f6, g6, l6, k6, z6⟩, ⟨b7, f7, g7, l7, k7, z7⟩, -⟩ := hF
  have n6_7 : b6 ≠ b7 := by have h := hne 6 7 (by kernel_rfl) (by kernel_rfl) (by decide); rw [f6, f7] at h; exact h
  simp only [setU, upd, List.map_cons, List.map_nil, List.contains_cons, List.contains_nil, Nat.reduceBEq, Nat.reduceAdd, Bool.or_false, Bool.false_or, Bool.or_true, Bool.true_or, Bool.false_eq_true, if_false, if_true, ite_true, ite_false, Nat.reduceEqDiff, beq_self_eq_true]
  rw [f8, f9, f10, f11, f6, f7]
  clear f8 f9 f10 f11 f6 f7 hne
  have c6_0 := k6 0 _ rfl
  have e6_0 := z6 0 (by simp)
  have c6_1 := k6 1 _ rfl
  have e6_1 := z6 1 (by simp)
  clear k6 z6
  have c7_0 := k7 0 _ rfl
  have e7_0 := z7 0 (by simp)
  have c7_1 := k7 1 _ rfl
  have e7_1 := z7 1 (by simp)
  clear k7 z7
  refine wpListS_true ?_
  go_wp2_with fail
  generalize hW : World.setCell _ _ _ = W1
  have kW1_33 : W1.cell? ⟨b6, 0, none⟩ = some (.int .i64 (x)) := by rw [← hW]; clear hW; first | (go_simp; done) | ((repeat refine keepcell ((Below.refl _ _).alloc (Nat.le_refl _) _) ?_); go_simp; done) | (simp only [frozen?_alloc_cells]; go_simp; done)
  have kW1_34 : W1.cell? ⟨b6, 1, none⟩ = some (.int .i64 (y)) := by rw [← hW]; clear hW; first | (go_simp; done) | ((repeat refine keepcell ((Below.refl _ _).alloc (Nat.le_refl _) _) ?_); go_simp; done) | (simp only [frozen?_alloc_cells]; go_simp; done)
  have : b6 < W1.heap.size := World.block_lt_of_cell? W1 ⟨b6, 0, none⟩ (by assumption)
  have kW1_35 : W1.cell? ⟨b7, 0, none⟩ = some (.int .i64 (x')) := by rw [← hW]; clear hW; first | (go_simp; done) | ((repeat refine keepcell ((Below.refl _ _).alloc (Nat.le_refl _) _) ?_); go_simp; done) | (simp only [frozen?_alloc_cells]; go_simp; done)
  have kW1_36 : W1.cell? ⟨b7, 1, none⟩ = some (.int .i64 (y')) := by rw [← hW]; clear hW; first | (go_simp; done) | ((repeat refine keepcell ((Below.refl _ _).alloc (Nat.le_refl _) _) ?_); go_simp; done) | (simp only [frozen?_alloc_cells]; go_simp; done)
  have : b7 < W1.heap.size := World.block_lt_of_cell? W1 ⟨b7, 0, none⟩ (by assumption)
  have kW1_37 : W1.cell? ⟨w.heap.size + 2, 0, none⟩ = some (.int .i64 (0)) := by rw [← hW]; clear hW; first | (go_simp; done) | ((repeat refine keepcell ((Below.refl _ _).alloc (Nat.le_refl _) _) ?_); go_simp; done) | (simp only [frozen?_alloc_cells]; go_simp; done)
  have zW1_37 : W1.frozen? ⟨w.heap.size + 2, 0, none⟩ = false := by rw [← hW]; clear hW; first | (go_simp; done) | ((repeat refine keepcell ((Below.refl _ _).alloc (Nat.le_refl _) _) ?_); go_simp; done) | (simp only [frozen?_alloc_cells]; go_simp; done)
  have kW1_38 : W1.cell? ⟨w.heap.size + 2, 1, none⟩ = some (.int .i64 (0)) := by rw [← hW]; clear hW; first | (go_simp; done) | ((repeat refine keepcell ((Below.refl _ _).alloc (Nat.le_refl _) _) ?_); go_simp; done) | (simp only [frozen?_alloc_cells]; go_simp; done)
  have zW1_38 : W1.frozen? ⟨w.heap.size + 2, 1, none⟩ = false := by rw [← hW]; clear hW; first | (go_simp; done) | ((repeat refine keepcell ((Below.refl _ _).alloc (Nat.le_refl _) _) ?_); go_simp; done) | (simp only [frozen?_alloc_cells]; go_simp; done)
  have : w.heap.size + 2 < W1.heap.size := World.block_lt_of_cell? W1 ⟨w.heap.size + 2, 0, none⟩ (by assumption)
  have hBW1 : Below w.heap.size w W1 := by rw [← hW]; (repeat' (first | assumption | exact Below.refl _ _ | apply Blw.alloc | apply Blw.drew | apply Blw.drewN | (refine Blw.after ?_ (by assumption)) | (refine Blw.set ?_ (by first | (dsimp only; omega) | (simp; done) | (simp; omega)) _)))
  have hsW1 := hBW1.size
  clear hW
  try clear kW0_27; try clear kW0_28; try clear kW0_29; try clear kW0_30; try clear kW0_31; try clear zW0_31; try clear kW0_32; try clear zW0_32; try clear hH; try clear hH1; try clear c6_0; try clear e6_0; try clear c6_1; try clear e6_1; try clear c7_0; try clear e7_0; try clear c7_1; try clear e7_1
  rcases Bool.eq_false_or_eq_true (inB 1000000 x y) with h1 | h1
  · rcases Bool.eq_false_or_eq_true (inB 1000000 x' y') with h2 | h2
    · have H1 := inB_le h1
      have H2 := inB_le h2
      rcases Bool.eq_false_or_eq_true (inB 1000000 (x * x' - y * y') (x * y' + y * x')) with h3 | h3
      all_goals
        go_wp2_with (first | (go_at_call 50; refine (small_c _ _ _).mono ?_; rintro e w1 ⟨rfl, hb⟩; have hk : Hld W1 w1 := heldM (by (repeat' (first | assumption | exact Below.refl _ _ | apply Blw.alloc | apply Blw.drew | apply Blw.drewN | (refine Blw.after ?_ (by assumption)) | (refine Blw.set ?_ (by first | (dsimp only; omega) | (simp; done) | (simp; omega)) _)))); have hk1 := hk.1) | (go_at_call 62; refine (times_c _ _ _ _ _ (small9 H1) (small9 H2)).mono ?_; rintro e w1 ⟨rfl, hb⟩; have hk : Hld W1 w1 := heldM (by (repeat' (first | assumption | exact Below.refl _ _ | apply Blw.alloc | apply Blw.drew | apply Blw.drewN | (refine Blw.after ?_ (by assumption)) | (refine Blw.set ?_ (by first | (dsimp only; omega) | (simp; done) | (simp; omega)) _)))); have hk1 := hk.1) | (go_at_call 57; refine (ifSmall_c _ _ _).mono ?_; rintro e w1 ⟨rfl, hb⟩; have hk : Hld W1 w1 := heldM (by (repeat' (first | assumption | exact Below.refl _ _ | apply Blw.alloc | apply Blw.drew | apply Blw.drewN | (refine Blw.after ?_ (by assumption)) | (refine Blw.set ?_ (by first | (dsimp only; omega) | (simp; done) | (simp; omega)) _)))); have hk1 := hk.1))
        exact bodyPost_ret (v := res2 (mulB x y x' y') (x * x' - y * y') (x * y' + y * x')) (by simp [results, Try.results24, go_sem, mulB, sel_t, sel_f, *]) rfl ⟨rfl, by (repeat' (first | assumption | exact Below.refl _ _ | apply Blw.alloc | apply Blw.drew | apply Blw.drewN | (refine Blw.after ?_ (by assumption)) | (refine Blw.set ?_ (by first | (dsimp only; omega) | (simp; done) | (simp; omega)) _)))⟩
    · go_wp2_with (first | (go_at_call 50; refine (small_c _ _ _).mono ?_; rintro e w1 ⟨rfl, hb⟩; have hk : Hld W1 w1 := heldM (by (repeat' (first | assumption | exact Below.refl _ _ | apply Blw.alloc | apply Blw.drew | apply Blw.drewN | (refine Blw.after ?_ (by assumption)) | (refine Blw.set ?_ (by first | (dsimp only; omega) | (simp; done) | (simp; omega)) _)))); have hk1 := hk.1))
      exact bodyPost_ret (v := res2 (mulB x y x' y') (x * x' - y * y') (x * y' + y * x')) (by simp [results, Try.results24, go_sem, mulB, sel_t, sel_f, *]) rfl ⟨rfl, by (repeat' (first | assumption | exact Below.refl _ _ | apply Blw.alloc | apply Blw.drew | apply Blw.drewN | (refine Blw.after ?_ (by assumption)) | (refine Blw.set ?_ (by first | (dsimp only; omega) | (simp; done) | (simp; omega)) _)))⟩
  · go_wp2_with (first | (go_at_call 50; refine (small_c _ _ _).mono ?_; rintro e w1 ⟨rfl, hb⟩; have hk : Hld W1 w1 := heldM (by (repeat' (first | assumption | exact Below.refl _ _ | apply Blw.alloc | apply Blw.drew | apply Blw.drewN | (refine Blw.after ?_ (by assumption)) | (refine Blw.set ?_ (by first | (dsimp only; omega) | (simp; done) | (simp; omega)) _)))); have hk1 := hk.1))
    exact bodyPost_ret (v := res2 (mulB x y x' y') (x * x' - y * y') (x * y' + y * x')) (by simp [results, Try.results24, go_sem, mulB, sel_t, sel_f, *]) rfl ⟨rfl, by (repeat' (first | assumption | exact Below.refl _ _ | apply Blw.alloc | apply Blw.drew | apply Blw.drewN | (refine Blw.after ?_ (by assumption)) | (refine Blw.set ?_ (by first | (dsimp only; omega) | (simp; done) | (simp; omega)) _)))⟩

set_option maxHeartbeats 1000000 in
theorem sGaussTimes_c (x y x' y' : Int) (w : World) : Calls Try.prog 25 #[pr x y, pr x' y'] w fun e w' => e = .returned (res2 (mulB x y x' y') (x * x' - y * y') (x * y' + y * x')) ∧ Below w.heap.size w w' := by
  go_enter Try.func25, Try.ntmps25
  go_wp2_with fail
  generalize hW : World.alloc _ _ = W1
  have kW1_39 : W1.cell? ⟨w.heap.size, 0, none⟩ = some (.int .i64 (x)) := by rw [← hW]; clear hW; first | (go_simp; done) | ((repeat refine keepcell ((Below.refl _ _).alloc (Nat.le_refl _) _) ?_); go_simp; done) | (simp only [frozen?_alloc_cells]; go_simp; done)
  have kW1_40 : W1.cell? ⟨w.heap.size, 1, none⟩ = some (.int .i64 (y)) := by rw [← hW]; clear hW; first | (go_simp; done) | ((repeat refine keepcell ((Below.refl _ _).alloc (Nat.le_refl _) _) ?_); go_simp; done) | (simp only [frozen?_alloc_cells]; go_simp; done)
  have : w.heap.size < W1.heap.size := World.block_lt_of_cell? W1 ⟨w.heap.size, 0, none⟩ (by assumption)
  have kW1_41 : W1.cell? ⟨w.heap.size + 1, 0, none⟩ = some (.int .i64 (x')) := by rw [← hW]; clear hW; first | (go_simp; done) | ((repeat refine keepcell ((Below.refl _ _).alloc (Nat.le_refl _) _) ?_); go_simp; done) | (simp only [frozen?_alloc_cells]; go_simp; done)
  have kW1_42 : W1.cell? ⟨w.heap.size + 1, 1, none⟩ = some (.int .i64 (y')) := by rw [← hW]; clear hW; first | (go_simp; done) | ((repeat refine keepcell ((Below.refl _ _).alloc (Nat.le_refl _) _) ?_); go_simp; done) | (simp only [frozen?_alloc_cells]; go_simp; done)
  have : w.heap.size + 1 < W1.heap.size := World.block_lt_of_cell? W1 ⟨w.heap.size + 1, 0, none⟩ (by assumption)
  have kW1_43 : W1.cell? ⟨w.heap.size + 2, 0, none⟩ = some (.int .i64 (0)) := by rw [← hW]; clear hW; first | (go_simp; done) | ((repeat refine keepcell ((Below.refl _ _).alloc (Nat.le_refl _) _) ?_); go_simp; done) | (simp only [frozen?_alloc_cells]; go_simp; done)
  have zW1_43 : W1.frozen? ⟨w.heap.size + 2, 0, none⟩ = false := by rw [← hW]; clear hW; first | (go_simp; done) | ((repeat refine keepcell ((Below.refl _ _).alloc (Nat.le_refl _) _) ?_); go_simp; done) | (simp only [frozen?_alloc_cells]; go_simp; done)
  have kW1_44 : W1.cell? ⟨w.heap.size + 2, 1, none⟩ = some (.int .i64 (0)) := by rw [← hW]; clear hW; first | (go_simp; done) | ((repeat refine keepcell ((Below.refl _ _).alloc (Nat.le_refl _) _) ?_); go_simp; done) | (simp only [frozen?_alloc_cells]; go_simp; done)
  have zW1_44 : W1.frozen? ⟨w.heap.size + 2, 1, none⟩ = false := by rw [← hW]; clear hW; first | (go_simp; done) | ((repeat refine keepcell ((Below.refl _ _).alloc (Nat.le_refl _) _) ?_); go_simp; done) | (simp only [frozen?_alloc_cells]; go_simp; done)
  have : w.heap.size + 2 < W1.heap.size := World.block_lt_of_cell? W1 ⟨w.heap.size + 2, 0, none⟩ (by assumption)
  have hBW1 : Below w.heap.size w W1 := by rw [← hW]; (repeat' (first | assumption | exact Below.refl _ _ | apply Blw.alloc | apply Blw.drew | apply Blw.drewN | (refine Blw.after ?_ (by assumption)) | (refine Blw.set ?_ (by first | (dsimp only; omega) | (simp; done) | (simp; omega)) _)))
  have hsW1 := hBW1.size
  clear hW
  try clear kW1_33; try clear kW1_34; try clear kW1_35; try clear kW1_36; try clear kW1_37; try clear zW1_37; try clear kW1_38; try clear zW1_38
  rcases Bool.eq_false_or_eq_true (inB 1000000 x y) with h1 | h1
  · rcases Bool.eq_false_or_eq_true (inB 1000000 x' y') with h2 | h2
    · have H1 := inB_le h1
      have H2 := inB_le h2
      rcases Bool.eq_false_or_eq_true (inB 1000000 (x * x' - y * y') (x * y' + y * x')) with h3 | h3
      all_goals
        go_wp2_with (first | (go_at_call 54; refine (sGaussSmall_c _ _ _).mono ?_; rintro e w1 ⟨rfl, hb⟩; have hk : Hld W1 w1 := heldM (by (repeat' (first | assumption | exact Below.refl _ _ | apply Blw.alloc | apply Blw.drew | apply Blw.drewN | (refine Blw.after ?_ (by assumption)) | (refine Blw.set ?_ (by first | (dsimp only; omega) | (simp; done) | (simp; omega)) _)))); have hk1 := hk.1) | (go_at_call 48; refine (l1Times_c _ _ _ _ _ (small9 H1) (small9 H2)).mono ?_; rintro e w1 ⟨rfl, hb⟩; have hk : Hld W1 w1 := heldM (by (repeat' (first | assumption | exact Below.refl _ _ | apply Blw.alloc | apply Blw.drew | apply Blw.drewN | (refine Blw.after ?_ (by assumption)) | (refine Blw.set ?_ (by first | (dsimp only; omega) | (simp; done) | (simp; omega)) _)))); have hk1 := hk.1) | (go_at_call 60; refine (l1Done_c _ _ _).mono ?_; rintro e w1 ⟨rfl, hb⟩; have hk : Hld W1 w1 := heldM (by (repeat' (first | assumption | exact Below.refl _ _ | apply Blw.alloc | apply Blw.drew | apply Blw.drewN | (refine Blw.after ?_ (by assumption)) | (refine Blw.set ?_ (by first | (dsimp only; omega) | (simp; done) | (simp; omega)) _)))); have hk1 := hk.1))
        exact bodyPost_ret (v := res2 (mulB x y x' y') (x * x' - y * y') (x * y' + y * x')) (by simp [results, Try.results25, go_sem, mulB, sel_t, sel_f, *]) rfl ⟨rfl, by (repeat' (first | assumption | exact Below.refl _ _ | apply Blw.alloc | apply Blw.drew | apply Blw.drewN | (refine Blw.after ?_ (by assumption)) | (refine Blw.set ?_ (by first | (dsimp only; omega) | (simp; done) | (simp; omega)) _)))⟩
    · go_wp2_with (first | (go_at_call 54; refine (sGaussSmall_c _ _ _).mono ?_; rintro e w1 ⟨rfl, hb⟩; have hk : Hld W1 w1 := heldM (by (repeat' (first | assumption | exact Below.refl _ _ | apply Blw.alloc | apply Blw.drew | apply Blw.drewN | (refine Blw.after ?_ (by assumption)) | (refine Blw.set ?_ (by first | (dsimp only; omega) | (simp; done) | (simp; omega)) _)))); have hk1 := hk.1))
      exact bodyPost_ret (v := res2 (mulB x y x' y') (x * x' - y * y') (x * y' + y * x')) (by simp [results, Try.results25, go_sem, mulB, sel_t, sel_f, *]) rfl ⟨rfl, by (repeat' (first | assumption | exact Below.refl _ _ | apply Blw.alloc | apply Blw.drew | apply Blw.drewN | (refine Blw.after ?_ (by assumption)) | (refine Blw.set ?_ (by first | (dsimp only; omega) | (simp; done) | (simp; omega)) _)))⟩
  · go_wp2_with (first | (go_at_call 54; refine (sGaussSmall_c _ _ _).mono ?_; rintro e w1 ⟨rfl, hb⟩; have hk : Hld W1 w1 := heldM (by (repeat' (first | assumption | exact Below.refl _ _ | apply Blw.alloc | apply Blw.drew | apply Blw.drewN | (refine Blw.after ?_ (by assumption)) | (refine Blw.set ?_ (by first | (dsimp only; omega) | (simp; done) | (simp; omega)) _)))); have hk1 := hk.1))
    exact bodyPost_ret (v := res2 (mulB x y x' y') (x * x' - y * y') (x * y' + y * x')) (by simp [results, Try.results25, go_sem, mulB, sel_t, sel_f, *]) rfl ⟨rfl, by (repeat' (first | assumption | exact Below.refl _ _ | apply Blw.alloc | apply Blw.drew | apply Blw.drewN | (refine Blw.after ?_ (by assumption)) | (refine Blw.set ?_ (by first | (dsimp only; omega) | (simp; done) | (simp; omega)) _)))⟩
end Go.Proofs.Ytfodfapaidfhbac

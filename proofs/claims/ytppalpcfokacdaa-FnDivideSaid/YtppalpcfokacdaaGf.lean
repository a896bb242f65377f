/- Chapter 1: GaussDivide of both sides. -/
import Derived.Test.YtppalpcfokacdaaGe
import Derived.Test.YtppalpcfokacdaaEq
import Derived.ChangeKeysEq
import Derived.OwnWalk
namespace Go.Proofs.Ytppalpcfokacdaa
set_option linter.unusedSimpArgs false
set_option linter.unusedVariables false
open Go.RowKit

abbrev res3 (b : Bool) (x y x' y' : Int) : Value := .tuple #[pr (sel b x) (sel b y), pr (sel b x') (sel b y'), .bool b]
/-- both are small, and the second one is not 0 -/
def divB (x y x' y' : Int) : Bool := inB 1000000 x y && inB 1000000 x' y' && !(decide (x' = 0) && decide (y' = 0))
theorem inB_of {x y : Int} (h : in6 x y) : inB 1000000 x y = true := by
  simp only [inB, inR, Bool.and_eq_true, decide_eq_true_eq]; omega
theorem nz_of {x y : Int} (h : (decide (x = 0) && decide (y = 0)) = false) : ¬ (x = 0 ∧ y = 0) := by
  rintro ⟨rfl, rfl⟩; simp at h

set_option maxHeartbeats 1000000 in
theorem sGaussDivide_c (x y x' y' : Int) (w : World) : Calls Try.prog 16 #[pr x y, pr x' y'] w fun e w' => e = .returned (res3 (divB x y x' y') (qx x y x' y') (qy x y x' y') (rx x y x' y') (ry x y x' y')) ∧ Below w.heap.size w w' := by
  go_enter Try.func16, Try.ntmps16
  go_wp2_with fail
  generalize hW : World.alloc _ _ = W0
  have kW0_111 : W0.cell? ⟨w.heap.size, 0, none⟩ = some (.int .i64 (x)) := by rw [← hW]; clear hW; first | (go_simp; done) | ((repeat refine keepcell ((Below.refl _ _).alloc (Nat.le_refl _) _) ?_); go_simp; done) | (simp only [frozen?_alloc_cells]; go_simp; done)
  have kW0_112 : W0.cell? ⟨w.heap.size, 1, none⟩ = some (.int .i64 (y)) := by rw [← hW]; clear hW; first | (go_simp; done) | ((repeat refine keepcell ((Below.refl _ _).alloc (Nat.le_refl _) _) ?_); go_simp; done) | (simp only [frozen?_alloc_cells]; go_simp; done)
  have : w.heap.size < W0.heap.size := World.block_lt_of_cell? W0 ⟨w.heap.size, 0, none⟩ (by assumption)
  have kW0_113 : W0.cell? ⟨w.heap.size + 1, 0, none⟩ = some (.int .i64 (x')) := by rw [← hW]; clear hW; first | (go_simp; done) | ((repeat refine keepcell ((Below.refl _ _).alloc (Nat.le_refl _) _) ?_); go_simp; done) | (simp only [frozen?_alloc_cells]; go_simp; done)
  have kW0_114 : W0.cell? ⟨w.heap.size + 1, 1, none⟩ = some (.int .i64 (y')) := by rw [← hW]; clear hW; first | (go_simp; done) | ((repeat refine keepcell ((Below.refl _ _).alloc (Nat.le_refl _) _) ?_); go_simp; done) | (simp only [frozen?_alloc_cells]; go_simp; done)
  have : w.heap.size + 1 < W0.heap.size := World.block_lt_of_cell? W0 ⟨w.heap.size + 1, 0, none⟩ (by assumption)
  have kW0_115 : W0.cell? ⟨w.heap.size + 2, 0, none⟩ = some (.int .i64 (0)) := by rw [← hW]; clear hW; first | (go_simp; done) | ((repeat refine keepcell ((Below.refl _ _).alloc (Nat.le_refl _) _) ?_); go_simp; done) | (simp only [frozen?_alloc_cells]; go_simp; done)
  have zW0_115 : W0.frozen? ⟨w.heap.size + 2, 0, none⟩ = false := by rw [← hW]; clear hW; first | (go_simp; done) | ((repeat refine keepcell ((Below.refl _ _).alloc (Nat.le_refl _) _) ?_); go_simp; done) | (simp only [frozen?_alloc_cells]; go_simp; done)
  have kW0_116 : W0.cell? ⟨w.heap.size + 2, 1, none⟩ = some (.int .i64 (0)) := by rw [← hW]; clear hW; first | (go_simp; done) | ((repeat refine keepcell ((Below.refl _ _).alloc (Nat.le_refl _) _) ?_); go_simp; done) | (simp only [frozen?_alloc_cells]; go_simp; done)
  have zW0_116 : W0.frozen? ⟨w.heap.size + 2, 1, none⟩ = false := by rw [← hW]; clear hW; first | (go_simp; done) | ((repeat refine keepcell ((Below.refl _ _).alloc (Nat.le_refl _) _) ?_); go_simp; done) | (simp only [frozen?_alloc_cells]; go_simp; done)
  have : w.heap.size + 2 < W0.heap.size := World.block_lt_of_cell? W0 ⟨w.heap.size + 2, 0, none⟩ (by assumption)
  have kW0_117 : W0.cell? ⟨w.heap.size + 3, 0, none⟩ = some (.int .i64 (0)) := by rw [← hW]; clear hW; first | (go_simp; done) | ((repeat refine keepcell ((Below.refl _ _).alloc (Nat.le_refl _) _) ?_); go_simp; done) | (simp only [frozen?_alloc_cells]; go_simp; done)
  have zW0_117 : W0.frozen? ⟨w.heap.size + 3, 0, none⟩ = false := by rw [← hW]; clear hW; first | (go_simp; done) | ((repeat refine keepcell ((Below.refl _ _).alloc (Nat.le_refl _) _) ?_); go_simp; done) | (simp only [frozen?_alloc_cells]; go_simp; done)
  have kW0_118 : W0.cell? ⟨w.heap.size + 3, 1, none⟩ = some (.int .i64 (0)) := by rw [← hW]; clear hW; first | (go_simp; done) | ((repeat refine keepcell ((Below.refl _ _).alloc (Nat.le_refl _) _) ?_); go_simp; done) | (simp only [frozen?_alloc_cells]; go_simp; done)
  have zW0_118 : W0.frozen? ⟨w.heap.size + 3, 1, none⟩ = false := by rw [← hW]; clear hW; first | (go_simp; done) | ((repeat refine keepcell ((Below.refl _ _).alloc (Nat.le_refl _) _) ?_); go_simp; done) | (simp only [frozen?_alloc_cells]; go_simp; done)
  have : w.heap.size + 3 < W0.heap.size := World.block_lt_of_cell? W0 ⟨w.heap.size + 3, 0, none⟩ (by assumption)
  have hBW0 : Below w.heap.size w W0 := by rw [← hW]; (repeat' (first | assumption | exact Below.refl _ _ | apply Blw.alloc | apply Blw.drew | apply Blw.drewN | (refine Blw.after ?_ (by assumption)) | (refine Blw.set ?_ (by first | (dsimp only; omega) | (simp; done) | (simp; omega)) _)))
  have hsW0 := hBW0.size
  clear hW
  rcases Bool.eq_false_or_eq_true (inB 1000000 x y) with h1 | h1
  · rcases Bool.eq_false_or_eq_true (inB 1000000 x' y') with h2 | h2
    · have H1 := inB_le h1
      have H2 := inB_le h2
      by_cases hx : x' = 0
      · subst hx
        by_cases hy : y' = 0
        · subst hy
          go_wp2_with (go_at_call 47; refine (sGaussSmall_c _ _ _).mono ?_; rintro e w1 ⟨rfl, hb⟩; have hk : Hld W0 w1 := heldM (by (repeat' (first | assumption | exact Below.refl _ _ | apply Blw.alloc | apply Blw.drew | apply Blw.drewN | (refine Blw.after ?_ (by assumption)) | (refine Blw.set ?_ (by first | (dsimp only; omega) | (simp; done) | (simp; omega)) _)))); have hk1 := hk.1)
          exact bodyPost_ret (v := res3 (divB x y 0 0) (qx x y 0 0) (qy x y 0 0) (rx x y 0 0) (ry x y 0 0)) (by simp [results, Try.results16, go_sem, divB, sel_t, sel_f, *]) rfl ⟨rfl, by (repeat' (first | assumption | exact Below.refl _ _ | apply Blw.alloc | apply Blw.drew | apply Blw.drewN | (refine Blw.after ?_ (by assumption)) | (refine Blw.set ?_ (by first | (dsimp only; omega) | (simp; done) | (simp; omega)) _)))⟩
        · have H3 := nrm_pos (x := 0) (y := y') (by omega)
          have H4 := inB_of (q_in H1 H3)
          go_wp2_with ((go_at_call 47; refine (sGaussSmall_c _ _ _).mono ?_; rintro e w1 ⟨rfl, hb⟩; have hk : Hld W0 w1 := heldM (by (repeat' (first | assumption | exact Below.refl _ _ | apply Blw.alloc | apply Blw.drew | apply Blw.drewN | (refine Blw.after ?_ (by assumption)) | (refine Blw.set ?_ (by first | (dsimp only; omega) | (simp; done) | (simp; omega)) _)))); have hk1 := hk.1))
          refine (l1Divide_c _ _ _ _ _ H1 H2 H3).mono ?_
          rintro e wA ⟨rfl, hbwA⟩
          have hkwA : Hld W0 wA := heldM (by (repeat' (first | assumption | exact Below.refl _ _ | apply Blw.alloc | apply Blw.drew | apply Blw.drewN | (refine Blw.after ?_ (by assumption)) | (refine Blw.set ?_ (by first | (dsimp only; omega) | (simp; done) | (simp; omega)) _))))
          have hlwA := hkwA.1
          have hswA := hkwA.2.2.2
          try (have : w.heap.size < wA.heap.size := by omega)
          try (have : w.heap.size + 1 < wA.heap.size := by omega)
          try (have : w.heap.size + 2 < wA.heap.size := by omega)
          try (have : w.heap.size + 3 < wA.heap.size := by omega)
          go_wp2_with fail
          generalize hW : World.alloc _ _ = W1
          have kW1_119 : W1.cell? ⟨w.heap.size + 2, 0, none⟩ = some (.int .i64 (0)) := by rw [← hW]; clear hW; first | (go_simp; done) | ((repeat refine keepcell ((Below.refl _ _).alloc (Nat.le_refl _) _) ?_); go_simp; done) | (simp only [frozen?_alloc_cells]; go_simp; done)
          have zW1_119 : W1.frozen? ⟨w.heap.size + 2, 0, none⟩ = false := by rw [← hW]; clear hW; first | (go_simp; done) | ((repeat refine keepcell ((Below.refl _ _).alloc (Nat.le_refl _) _) ?_); go_simp; done) | (simp only [frozen?_alloc_cells]; go_simp; done)
          have kW1_120 : W1.cell? ⟨w.heap.size + 2, 1, none⟩ = some (.int .i64 (0)) := by rw [← hW]; clear hW; first | (go_simp; done) | ((repeat refine keepcell ((Below.refl _ _).alloc (Nat.le_refl _) _) ?_); go_simp; done) | (simp only [frozen?_alloc_cells]; go_simp; done)
          have zW1_120 : W1.frozen? ⟨w.heap.size + 2, 1, none⟩ = false := by rw [← hW]; clear hW; first | (go_simp; done) | ((repeat refine keepcell ((Below.refl _ _).alloc (Nat.le_refl _) _) ?_); go_simp; done) | (simp only [frozen?_alloc_cells]; go_simp; done)
          have : w.heap.size + 2 < W1.heap.size := World.block_lt_of_cell? W1 ⟨w.heap.size + 2, 0, none⟩ (by assumption)
          have kW1_121 : W1.cell? ⟨w.heap.size + 3, 0, none⟩ = some (.int .i64 (0)) := by rw [← hW]; clear hW; first | (go_simp; done) | ((repeat refine keepcell ((Below.refl _ _).alloc (Nat.le_refl _) _) ?_); go_simp; done) | (simp only [frozen?_alloc_cells]; go_simp; done)
          have zW1_121 : W1.frozen? ⟨w.heap.size + 3, 0, none⟩ = false := by rw [← hW]; clear hW; first | (go_simp; done) | ((repeat refine keepcell ((Below.refl _ _).alloc (Nat.le_refl _) _) ?_); go_simp; done) | (simp only [frozen?_alloc_cells]; go_simp; done)
          have kW1_122 : W1.cell? ⟨w.heap.size + 3, 1, none⟩ = some (.int .i64 (0)) := by rw [← hW]; clear hW; first | (go_simp; done) | ((repeat refine keepcell ((Below.refl _ _).alloc (Nat.le_refl _) _) ?_); go_simp; done) | (simp only [frozen?_alloc_cells]; go_simp; done)
          have zW1_122 : W1.frozen? ⟨w.heap.size + 3, 1, none⟩ = false := by rw [← hW]; clear hW; first | (go_simp; done) | ((repeat refine keepcell ((Below.refl _ _).alloc (Nat.le_refl _) _) ?_); go_simp; done) | (simp only [frozen?_alloc_cells]; go_simp; done)
          have : w.heap.size + 3 < W1.heap.size := World.block_lt_of_cell? W1 ⟨w.heap.size + 3, 0, none⟩ (by assumption)
          have kW1_123 : W1.cell? ⟨wA.heap.size, 0, none⟩ = some (.int .i64 ((qx x y 0 y'))) := by rw [← hW]; clear hW; first | (go_simp; done) | ((repeat refine keepcell ((Below.refl _ _).alloc (Nat.le_refl _) _) ?_); go_simp; done) | (simp only [frozen?_alloc_cells]; go_simp; done)
          have kW1_124 : W1.cell? ⟨wA.heap.size, 1, none⟩ = some (.int .i64 ((qy x y 0 y'))) := by rw [← hW]; clear hW; first | (go_simp; done) | ((repeat refine keepcell ((Below.refl _ _).alloc (Nat.le_refl _) _) ?_); go_simp; done) | (simp only [frozen?_alloc_cells]; go_simp; done)
          have : wA.heap.size < W1.heap.size := World.block_lt_of_cell? W1 ⟨wA.heap.size, 0, none⟩ (by assumption)
          have kW1_125 : W1.cell? ⟨wA.heap.size + 1, 0, none⟩ = some (.int .i64 ((rx x y 0 y'))) := by rw [← hW]; clear hW; first | (go_simp; done) | ((repeat refine keepcell ((Below.refl _ _).alloc (Nat.le_refl _) _) ?_); go_simp; done) | (simp only [frozen?_alloc_cells]; go_simp; done)
          have kW1_126 : W1.cell? ⟨wA.heap.size + 1, 1, none⟩ = some (.int .i64 ((ry x y 0 y'))) := by rw [← hW]; clear hW; first | (go_simp; done) | ((repeat refine keepcell ((Below.refl _ _).alloc (Nat.le_refl _) _) ?_); go_simp; done) | (simp only [frozen?_alloc_cells]; go_simp; done)
          have : wA.heap.size + 1 < W1.heap.size := World.block_lt_of_cell? W1 ⟨wA.heap.size + 1, 0, none⟩ (by assumption)
          have hBW1 : Below w.heap.size w W1 := by rw [← hW]; (repeat' (first | assumption | exact Below.refl _ _ | apply Blw.alloc | apply Blw.drew | apply Blw.drewN | (refine Blw.after ?_ (by assumption)) | (refine Blw.set ?_ (by first | (dsimp only; omega) | (simp; done) | (simp; omega)) _)))
          have hsW1 := hBW1.size
          clear hW
          try clear kW0_111; try clear kW0_112; try clear kW0_113; try clear kW0_114; try clear kW0_115; try clear zW0_115; try clear kW0_116; try clear zW0_116; try clear kW0_117; try clear zW0_117; try clear kW0_118; try clear zW0_118; try clear hbwA; try clear hkwA; try clear hlwA
          go_wp2_with (fail)
          refine (sGaussSmall_c _ _ _).mono ?_
          rintro e wB ⟨rfl, hbwB⟩
          have hkwB : Hld W1 wB := heldM (by (repeat' (first | assumption | exact Below.refl _ _ | apply Blw.alloc | apply Blw.drew | apply Blw.drewN | (refine Blw.after ?_ (by assumption)) | (refine Blw.set ?_ (by first | (dsimp only; omega) | (simp; done) | (simp; omega)) _))))
          have hlwB := hkwB.1
          have hswB := hkwB.2.2.2
          try (have : w.heap.size + 2 < wB.heap.size := by omega)
          try (have : w.heap.size + 3 < wB.heap.size := by omega)
          try (have : wA.heap.size < wB.heap.size := by omega)
          try (have : wA.heap.size + 1 < wB.heap.size := by omega)
          go_wp2_with fail
          have kwB_127 : wB.cell? ⟨w.heap.size + 2, 0, none⟩ = some (.int .i64 (0)) := by go_simp
          have zwB_127 : wB.frozen? ⟨w.heap.size + 2, 0, none⟩ = false := by go_simp
          have kwB_128 : wB.cell? ⟨w.heap.size + 2, 1, none⟩ = some (.int .i64 (0)) := by go_simp
          have zwB_128 : wB.frozen? ⟨w.heap.size + 2, 1, none⟩ = false := by go_simp
          have : w.heap.size + 2 < wB.heap.size := World.block_lt_of_cell? wB ⟨w.heap.size + 2, 0, none⟩ (by assumption)
          have kwB_129 : wB.cell? ⟨w.heap.size + 3, 0, none⟩ = some (.int .i64 (0)) := by go_simp
          have zwB_129 : wB.frozen? ⟨w.heap.size + 3, 0, none⟩ = false := by go_simp
          have kwB_130 : wB.cell? ⟨w.heap.size + 3, 1, none⟩ = some (.int .i64 (0)) := by go_simp
          have zwB_130 : wB.frozen? ⟨w.heap.size + 3, 1, none⟩ = false := by go_simp
          have : w.heap.size + 3 < wB.heap.size := World.block_lt_of_cell? wB ⟨w.heap.size + 3, 0, none⟩ (by assumption)
          have kwB_131 : wB.cell? ⟨wA.heap.size, 0, none⟩ = some (.int .i64 ((qx x y 0 y'))) := by go_simp
          have kwB_132 : wB.cell? ⟨wA.heap.size, 1, none⟩ = some (.int .i64 ((qy x y 0 y'))) := by go_simp
          have : wA.heap.size < wB.heap.size := World.block_lt_of_cell? wB ⟨wA.heap.size, 0, none⟩ (by assumption)
          have kwB_133 : wB.cell? ⟨wA.heap.size + 1, 0, none⟩ = some (.int .i64 ((rx x y 0 y'))) := by go_simp
          have kwB_134 : wB.cell? ⟨wA.heap.size + 1, 1, none⟩ = some (.int .i64 ((ry x y 0 y'))) := by go_simp
          have : wA.heap.size + 1 < wB.heap.size := World.block_lt_of_cell? wB ⟨wA.heap.size + 1, 0, none⟩ (by assumption)
          have hBwB : Below w.heap.size w wB := by (repeat' (first | assumption | exact Below.refl _ _ | apply Blw.alloc | apply Blw.drew | apply Blw.drewN | (refine Blw.after ?_ (by assumption)) | (refine Blw.set ?_ (by first | (dsimp only; omega) | (simp; done) | (simp; omega)) _)))
          have hSwB := hBwB.size
          try clear kW1_119; try clear zW1_119; try clear kW1_120; try clear zW1_120; try clear kW1_121; try clear zW1_121; try clear kW1_122; try clear zW1_122; try clear kW1_123; try clear kW1_124; try clear kW1_125; try clear kW1_126; try clear hbwB; try clear hkwB; try clear hlwB
          refine region_slots (fun w' => w'.cell? ⟨wA.heap.size + 1, 0, none⟩ = some (.int .i64 ((rx x y 0 y'))) ∧ w'.cell? ⟨wA.heap.size + 1, 1, none⟩ = some (.int .i64 ((ry x y 0 y')))) [1] [(35, .is (pr (qx x y 0 y') (qy x y 0 y'))), (36, .is (pr (rx x y 0 y') (ry x y 0 y')))] (by kernel_rfl) (by kernel_rfl) (by kernel_rfl) (fun w' hH => by go_simp) (fun _ _ _ _ _ _ h => h) ?_
          simp only [Steps, List.contains_cons, List.contains_nil, Nat.reduceBEq, Nat.reduceAdd, Bool.or_false, Bool.false_or, Bool.or_true, Bool.true_or, Bool.false_eq_true, if_false, if_true]
          refine ⟨?_, ?_, ?_⟩
          · intro u w2 hH hd K hK
            simp only [setU, upd, List.map_cons, List.map_nil, List.contains_cons, List.contains_nil, Nat.reduceBEq, Nat.reduceAdd, Bool.or_false, Bool.false_or, Bool.or_true, Bool.true_or, Bool.false_eq_true, if_false, if_true, ite_true, ite_false, Nat.reduceEqDiff, beq_self_eq_true] at hK ⊢
            go_wp2_with (fail)
            exact hK _ _ (by (repeat' (first | assumption | exact Below.refl _ _ | apply Blw.alloc | apply Blw.drew | apply Blw.drewN | (refine Blw.after ?_ (by assumption)) | (refine Blw.set ?_ (by first | (dsimp only; omega) | (simp; done) | (simp; omega)) _)))) rfl
          · intro u w2 hH hd
            simp only [setU, upd, List.map_cons, List.map_nil, List.contains_cons, List.contains_nil, Nat.reduceBEq, Nat.reduceAdd, Bool.or_false, Bool.false_or, Bool.or_true, Bool.true_or, Bool.false_eq_true, if_false, if_true, ite_true, ite_false, Nat.reduceEqDiff, beq_self_eq_true]
            refine ⟨(pr (rx x y 0 y') (ry x y 0 y')), fun w hS => ?_, by first | rfl | trivial, by first | rfl | trivial, by first | rfl | trivial⟩
            first | (go_simp; done) | (go_simp; exact IntWalk.i64_in _ (by omega))
          intro u w2 hH hF hne
          have hH1 := hH.1
          have hH2 := hH.2.2.2
          simp only [allFacts, SlotFact.h] at hF
          obtain ⟨f35, f36, -⟩ := hF
          simp only [setU, upd, List.map_cons, List.map_nil, List.contains_cons, List.contains_nil, Nat.reduceBEq, Nat.reduceAdd, Bool.or_false, Bool.false_or, Bool.or_true, Bool.true_or, Bool.false_eq_true, if_false, if_true, ite_true, ite_false, Nat.reduceEqDiff, beq_self_eq_true]
          rw [f35, f36]
          clear f35 f36 hne
          refine wpListS_step fun K hK => ?_
          go_wp2_with (fail)
          refine hK _ _ (by go_simp) ?_
          clear hK
          refine wpListS_step fun K hK => ?_
          go_wp2_with (fail)
          refine hK _ _ (by go_simp) ?_
          clear hK
          refine wpListS_step fun K hK => ?_
          go_wp2_with (fail)
          refine hK _ _ (by go_simp) ?_
          clear hK
          refine wpListS_nil ?_
          go_wp2_with fail
          exact bodyPost_ret (v := res3 (divB x y 0 y') (qx x y 0 y') (qy x y 0 y') (rx x y 0 y') (ry x y 0 y')) (by simp [results, Try.results16, go_sem, divB, sel_t, sel_f, *]) rfl ⟨rfl, by (repeat' (first | assumption | exact Below.refl _ _ | apply Blw.alloc | apply Blw.drew | apply Blw.drewN | (refine Blw.after ?_ (by assumption)) | (refine Blw.set ?_ (by first | (dsimp only; omega) | (simp; done) | (simp; omega)) _)))⟩
      · have H3 := nrm_pos (x := x') (y := y') (by omega)
        have H4 := inB_of (q_in H1 H3)
        go_wp2_with ((go_at_call 47; refine (sGaussSmall_c _ _ _).mono ?_; rintro e w1 ⟨rfl, hb⟩; have hk : Hld W0 w1 := heldM (by (repeat' (first | assumption | exact Below.refl _ _ | apply Blw.alloc | apply Blw.drew | apply Blw.drewN | (refine Blw.after ?_ (by assumption)) | (refine Blw.set ?_ (by first | (dsimp only; omega) | (simp; done) | (simp; omega)) _)))); have hk1 := hk.1))
        refine (l1Divide_c _ _ _ _ _ H1 H2 H3).mono ?_
        rintro e wA ⟨rfl, hbwA⟩
        have hkwA : Hld W0 wA := heldM (by (repeat' (first | assumption | exact Below.refl _ _ | apply Blw.alloc | apply Blw.drew | apply Blw.drewN | (refine Blw.after ?_ (by assumption)) | (refine Blw.set ?_ (by first | (dsimp only; omega) | (simp; done) | (simp; omega)) _))))
        have hlwA := hkwA.1
        have hswA := hkwA.2.2.2
        try (have : w.heap.size + 2 < wA.heap.size := by omega)
        try (have : w.heap.size + 3 < wA.heap.size := by omega)
        go_wp2_with fail
        generalize hW : World.alloc _ _ = W1
        have kW1_135 : W1.cell? ⟨w.heap.size + 2, 0, none⟩ = some (.int .i64 (0)) := by rw [← hW]; clear hW; first | (go_simp; done) | ((repeat refine keepcell ((Below.refl _ _).alloc (Nat.le_refl _) _) ?_); go_simp; done) | (simp only [frozen?_alloc_cells]; go_simp; done)
        have zW1_135 : W1.frozen? ⟨w.heap.size + 2, 0, none⟩ = false := by rw [← hW]; clear hW; first | (go_simp; done) | ((repeat refine keepcell ((Below.refl _ _).alloc (Nat.le_refl _) _) ?_); go_simp; done) | (simp only [frozen?_alloc_cells]; go_simp; done)
        have kW1_136 : W1.cell? ⟨w.heap.size + 2, 1, none⟩ = some (.int .i64 (0)) := by rw [← hW]; clear hW; first | (go_simp; done) | ((repeat refine keepcell ((Below.refl _ _).alloc (Nat.le_refl _) _) ?_); go_simp; done) | (simp only [frozen?_alloc_cells]; go_simp; done)
        have zW1_136 : W1.frozen? ⟨w.heap.size + 2, 1, none⟩ = false := by rw [← hW]; clear hW; first | (go_simp; done) | ((repeat refine keepcell ((Below.refl _ _).alloc (Nat.le_refl _) _) ?_); go_simp; done) | (simp only [frozen?_alloc_cells]; go_simp; done)
        have : w.heap.size + 2 < W1.heap.size := World.block_lt_of_cell? W1 ⟨w.heap.size + 2, 0, none⟩ (by assumption)
        have kW1_137 : W1.cell? ⟨w.heap.size + 3, 0, none⟩ = some (.int .i64 (0)) := by rw [← hW]; clear hW; first | (go_simp; done) | ((repeat refine keepcell ((Below.refl _ _).alloc (Nat.le_refl _) _) ?_); go_simp; done) | (simp only [frozen?_alloc_cells]; go_simp; done)
        have zW1_137 : W1.frozen? ⟨w.heap.size + 3, 0, none⟩ = false := by rw [← hW]; clear hW; first | (go_simp; done) | ((repeat refine keepcell ((Below.refl _ _).alloc (Nat.le_refl _) _) ?_); go_simp; done) | (simp only [frozen?_alloc_cells]; go_simp; done)
        have kW1_138 : W1.cell? ⟨w.heap.size + 3, 1, none⟩ = some (.int .i64 (0)) := by rw [← hW]; clear hW; first | (go_simp; done) | ((repeat refine keepcell ((Below.refl _ _).alloc (Nat.le_refl _) _) ?_); go_simp; done) | (simp only [frozen?_alloc_cells]; go_simp; done)
        have zW1_138 : W1.frozen? ⟨w.heap.size + 3, 1, none⟩ = false := by rw [← hW]; clear hW; first | (go_simp; done) | ((repeat refine keepcell ((Below.refl _ _).alloc (Nat.le_refl _) _) ?_); go_simp; done) | (simp only [frozen?_alloc_cells]; go_simp; done)
        have : w.heap.size + 3 < W1.heap.size := World.block_lt_of_cell? W1 ⟨w.heap.size + 3, 0, none⟩ (by assumption)
        have kW1_139 : W1.cell? ⟨wA.heap.size, 0, none⟩ = some (.int .i64 ((qx x y x' y'))) := by rw [← hW]; clear hW; first | (go_simp; done) | ((repeat refine keepcell ((Below.refl _ _).alloc (Nat.le_refl _) _) ?_); go_simp; done) | (simp only [frozen?_alloc_cells]; go_simp; done)
        have kW1_140 : W1.cell? ⟨wA.heap.size, 1, none⟩ = some (.int .i64 ((qy x y x' y'))) := by rw [← hW]; clear hW; first | (go_simp; done) | ((repeat refine keepcell ((Below.refl _ _).alloc (Nat.le_refl _) _) ?_); go_simp; done) | (simp only [frozen?_alloc_cells]; go_simp; done)
        have : wA.heap.size < W1.heap.size := World.block_lt_of_cell? W1 ⟨wA.heap.size, 0, none⟩ (by assumption)
        have kW1_141 : W1.cell? ⟨wA.heap.size + 1, 0, none⟩ = some (.int .i64 ((rx x y x' y'))) := by rw [← hW]; clear hW; first | (go_simp; done) | ((repeat refine keepcell ((Below.refl _ _).alloc (Nat.le_refl _) _) ?_); go_simp; done) | (simp only [frozen?_alloc_cells]; go_simp; done)
        have kW1_142 : W1.cell? ⟨wA.heap.size + 1, 1, none⟩ = some (.int .i64 ((ry x y x' y'))) := by rw [← hW]; clear hW; first | (go_simp; done) | ((repeat refine keepcell ((Below.refl _ _).alloc (Nat.le_refl _) _) ?_); go_simp; done) | (simp only [frozen?_alloc_cells]; go_simp; done)
        have : wA.heap.size + 1 < W1.heap.size := World.block_lt_of_cell? W1 ⟨wA.heap.size + 1, 0, none⟩ (by assumption)
        have hBW1 : Below w.heap.size w W1 := by rw [← hW]; (repeat' (first | assumption | exact Below.refl _ _ | apply Blw.alloc | apply Blw.drew | apply Blw.drewN | (refine Blw.after ?_ (by assumption)) | (refine Blw.set ?_ (by first | (dsimp only; omega) | (simp; done) | (simp; omega)) _)))
        have hsW1 := hBW1.size
        clear hW
        try clear kwB_127; try clear zwB_127; try clear kwB_128; try clear zwB_128; try clear kwB_129; try clear zwB_129; try clear kwB_130; try clear zwB_130; try clear kwB_131; try clear kwB_132; try clear kwB_133; try clear kwB_134; try clear hH; try clear hH1; try clear hbwA; try clear hkwA; try clear hlwA
        go_wp2_with (fail)
        refine (sGaussSmall_c _ _ _).mono ?_
        rintro e wB ⟨rfl, hbwB⟩
        have hkwB : Hld W1 wB := heldM (by (repeat' (first | assumption | exact Below.refl _ _ | apply Blw.alloc | apply Blw.drew | apply Blw.drewN | (refine Blw.after ?_ (by assumption)) | (refine Blw.set ?_ (by first | (dsimp only; omega) | (simp; done) | (simp; omega)) _))))
        have hlwB := hkwB.1
        have hswB := hkwB.2.2.2
        try (have : w.heap.size + 2 < wB.heap.size := by omega)
        try (have : w.heap.size + 3 < wB.heap.size := by omega)
        try (have : wA.heap.size < wB.heap.size := by omega)
        try (have : wA.heap.size + 1 < wB.heap.size := by omega)
        go_wp2_with fail
        have kwB_143 : wB.cell? ⟨w.heap.size + 2, 0, none⟩ = some (.int .i64 (0)) := by go_simp
        have zwB_143 : wB.frozen? ⟨w.heap.size + 2, 0, none⟩ = false := by go_simp
        have kwB_144 : wB.cell? ⟨w.heap.size + 2, 1, none⟩ = some (.int .i64 (0)) := by go_simp
        have zwB_144 : wB.frozen? ⟨w.heap.size + 2, 1, none⟩ = false := by go_simp
        have : w.heap.size + 2 < wB.heap.size := World.block_lt_of_cell? wB ⟨w.heap.size + 2, 0, none⟩ (by assumption)
        have kwB_145 : wB.cell? ⟨w.heap.size + 3, 0, none⟩ = some (.int .i64 (0)) := by go_simp
        have zwB_145 : wB.frozen? ⟨w.heap.size + 3, 0, none⟩ = false := by go_simp
        have kwB_146 : wB.cell? ⟨w.heap.size + 3, 1, none⟩ = some (.int .i64 (0)) := by go_simp
        have zwB_146 : wB.frozen? ⟨w.heap.size + 3, 1, none⟩ = false := by go_simp
        have : w.heap.size + 3 < wB.heap.size := World.block_lt_of_cell? wB ⟨w.heap.size + 3, 0, none⟩ (by assumption)
        have kwB_147 : wB.cell? ⟨wA.heap.size, 0, none⟩ = some (.int .i64 ((qx x y x' y'))) := by go_simp
        have kwB_148 : wB.cell? ⟨wA.heap.size, 1, none⟩ = some (.int .i64 ((qy x y x' y'))) := by go_simp
        have : wA.heap.size < wB.heap.size := World.block_lt_of_cell? wB ⟨wA.heap.size, 0, none⟩ (by assumption)
        have kwB_149 : wB.cell? ⟨wA.heap.size + 1, 0, none⟩ = some (.int .i64 ((rx x y x' y'))) := by go_simp
        have kwB_150 : wB.cell? ⟨wA.heap.size + 1, 1, none⟩ = some (.int .i64 ((ry x y x' y'))) := by go_simp
        have : wA.heap.size + 1 < wB.heap.size := World.block_lt_of_cell? wB ⟨wA.heap.size + 1, 0, none⟩ (by assumption)
        have hBwB : Below w.heap.size w wB := by (repeat' (first | assumption | exact Below.refl _ _ | apply Blw.alloc | apply Blw.drew | apply Blw.drewN | (refine Blw.after ?_ (by assumption)) | (refine Blw.set ?_ (by first | (dsimp only; omega) | (simp; done) | (simp; omega)) _)))
        have hSwB := hBwB.size
        try clear kW1_135; try clear zW1_135; try clear kW1_136; try clear zW1_136; try clear kW1_137; try clear zW1_137; try clear kW1_138; try clear zW1_138; try clear kW1_139; try clear kW1_140; try clear kW1_141; try clear kW1_142; try clear hbwB; try clear hkwB; try clear hlwB
        refine region_slots (fun w' => w'.cell? ⟨wA.heap.size + 1, 0, none⟩ = some (.int .i64 ((rx x y x' y'))) ∧ w'.cell? ⟨wA.heap.size + 1, 1, none⟩ = some (.int .i64 ((ry x y x' y')))) [1] [(35, .is (pr (qx x y x' y') (qy x y x' y'))), (36, .is (pr (rx x y x' y') (ry x y x' y')))] (by kernel_rfl) (by kernel_rfl) (by kernel_rfl) (fun w' hH => by go_simp) (fun _ _ _ _ _ _ h => h) ?_
        simp only [Steps, List.contains_cons, List.contains_nil, Nat.reduceBEq, Nat.reduceAdd, Bool.or_false, Bool.false_or, Bool.or_true, Bool.true_or, Bool.false_eq_true, if_false, if_true]
        refine ⟨?_, ?_, ?_⟩
        · intro u w2 hH hd K hK
          simp only [setU, upd, List.map_cons, List.map_nil, List.contains_cons, List.contains_nil, Nat.reduceBEq, Nat.reduceAdd, Bool.or_false, Bool.false_or, Bool.or_true, Bool.true_or, Bool.false_eq_true, if_false, if_true, ite_true, ite_false, Nat.reduceEqDiff, beq_self_eq_true] at hK ⊢
          go_wp2_with (fail)
          exact hK _ _ (by (repeat' (first | assumption | exact Below.refl _ _ | apply Blw.alloc | apply Blw.drew | apply Blw.drewN | (refine Blw.after ?_ (by assumption)) | (refine Blw.set ?_ (by first | (dsimp only; omega) | (simp; done) | (simp; omega)) _)))) rfl
        · intro u w2 hH hd
          simp only [setU, upd, List.map_cons, List.map_nil, List.contains_cons, List.contains_nil, Nat.reduceBEq, Nat.reduceAdd, Bool.or_false, Bool.false_or, Bool.or_true, Bool.true_or, Bool.false_eq_true, if_false, if_true, ite_true, ite_false, Nat.reduceEqDiff, beq_self_eq_true]
          refine ⟨(pr (rx x y x' y') (ry x y x' y')), fun w hS => ?_, by first | rfl | trivial, by first | rfl | trivial, by first | rfl | trivial⟩
          first | (go_simp; done) | (go_simp; exact IntWalk.i64_in _ (by omega))
        intro u w2 hH hF hne
        have hH1 := hH.1
        have hH2 := hH.2.2.2
        simp only [allFacts, SlotFact.h] at hF
        obtain ⟨f35, f36, -⟩ := hF
        simp only [setU, upd, List.map_cons, List.map_nil, List.contains_cons, List.contains_nil, Nat.reduceBEq, Nat.reduceAdd, Bool.or_false, Bool.false_or, Bool.or_true, Bool.true_or, Bool.false_eq_true, if_false, if_true, ite_true, ite_false, Nat.reduceEqDiff, beq_self_eq_true]
        rw [f35, f36]
        clear f35 f36 hne
        refine wpListS_step fun K hK => ?_
        go_wp2_with (fail)
        refine hK _ _ (by go_simp) ?_
        clear hK
        refine wpListS_step fun K hK => ?_
        go_wp2_with (fail)
        refine hK _ _ (by go_simp) ?_
        clear hK
        refine wpListS_step fun K hK => ?_
        go_wp2_with (fail)
        refine hK _ _ (by go_simp) ?_
        clear hK
        refine wpListS_nil ?_
        go_wp2_with fail
        exact bodyPost_ret (v := res3 (divB x y x' y') (qx x y x' y') (qy x y x' y') (rx x y x' y') (ry x y x' y')) (by simp [results, Try.results16, go_sem, divB, sel_t, sel_f, *]) rfl ⟨rfl, by (repeat' (first | assumption | exact Below.refl _ _ | apply Blw.alloc | apply Blw.drew | apply Blw.drewN | (refine Blw.after ?_ (by assumption)) | (refine Blw.set ?_ (by first | (dsimp only; omega) | (simp; done) | (simp; omega)) _)))⟩
    · go_wp2_with (go_at_call 47; refine (sGaussSmall_c _ _ _).mono ?_; rintro e w1 ⟨rfl, hb⟩; have hk : Hld W0 w1 := heldM (by (repeat' (first | assumption | exact Below.refl _ _ | apply Blw.alloc | apply Blw.drew | apply Blw.drewN | (refine Blw.after ?_ (by assumption)) | (refine Blw.set ?_ (by first | (dsimp only; omega) | (simp; done) | (simp; omega)) _)))); have hk1 := hk.1)
      exact bodyPost_ret (v := (res3 (divB x y x' y') (qx x y x' y') (qy x y x' y') (rx x y x' y') (ry x y x' y'))) (by simp [results, Try.results16, go_sem, divB, sel_t, sel_f, *]) rfl ⟨rfl, by (repeat' (first | assumption | exact Below.refl _ _ | apply Blw.alloc | apply Blw.drew | apply Blw.drewN | (refine Blw.after ?_ (by assumption)) | (refine Blw.set ?_ (by first | (dsimp only; omega) | (simp; done) | (simp; omega)) _)))⟩
  · go_wp2_with (go_at_call 47; refine (sGaussSmall_c _ _ _).mono ?_; rintro e w1 ⟨rfl, hb⟩; have hk : Hld W0 w1 := heldM (by (repeat' (first | assumption | exact Below.refl _ _ | apply Blw.alloc | apply Blw.drew | apply Blw.drewN | (refine Blw.after ?_ (by assumption)) | (refine Blw.set ?_ (by first | (dsimp only; omega) | (simp; done) | (simp; omega)) _)))); have hk1 := hk.1)
    exact bodyPost_ret (v := (res3 (divB x y x' y') (qx x y x' y') (qy x y x' y') (rx x y x' y') (ry x y x' y'))) (by simp [results, Try.results16, go_sem, divB, sel_t, sel_f, *]) rfl ⟨rfl, by (repeat' (first | assumption | exact Below.refl _ _ | apply Blw.alloc | apply Blw.drew | apply Blw.drewN | (refine Blw.after ?_ (by assumption)) | (refine Blw.set ?_ (by first | (dsimp only; omega) | (simp; done) | (simp; omega)) _)))⟩
end Go.Proofs.Ytppalpcfokacdaa

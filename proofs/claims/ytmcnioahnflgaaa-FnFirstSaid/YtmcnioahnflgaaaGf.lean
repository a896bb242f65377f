/- Chapter 1: GaussDivide of both sides. -/
import Derived.Test.YtmcnioahnflgaaaGe
import Derived.ChangeKeysEq
import Derived.OwnWalk
namespace Go.Proofs.Ytmcnioahnflgaaa
set_option linter.unusedSimpArgs false
set_option linter.unusedVariables false
open Go.RowKit

/-- two of the program's pairs, compared -/
@[go_sem] theorem eqPair (a b c d : Int) (w : World) : (Op.equalIn 10000 46 (.agg #[.int .i64 a, .int .i64 b]) (.agg #[.int .i64 c, .int .i64 d])).run Try.prog w = .ok (decide (a = c) && decide (b = d)) w := by
  obtain ⟨i, hi, h0, h1, h2⟩ := info_parts (show (Try.prog.info? 3).map (fun i => (i.zero, i.size, i.bytes)) = some (some (.int .i64 0), 1, 8) by kernel_rfl)
  show (Op.equalIn (9999 + 1) 46 _ _).run _ _ = _
  rw [run_equalIn_array w 9999 _ _ Try.underlying46 hi]
  by_cases e1 : a = c <;> by_cases e2 : b = d <;> simp [go_sem, Op.eqItems, Program.cellsOf, hi, h1, part, e1, e2]

abbrev res3 (b : Bool) (x y x' y' : Int) : Value := .tuple #[pr (sel b x) (sel b y), pr (sel b x') (sel b y'), .bool b]
/-- both are small, and the second one is not 0 -/
def divB (x y x' y' : Int) : Bool := inB 1000000 x y && inB 1000000 x' y' && !(decide (x' = 0) && decide (y' = 0))
theorem inB_of {x y : Int} (h : in6 x y) : inB 1000000 x y = true := by
  simp only [inB, inR, Bool.and_eq_true, decide_eq_true_eq]; omega
theorem nz_of {x y : Int} (h : (decide (x = 0) && decide (y = 0)) = false) : ¬ (x = 0 ∧ y = 0) := by
  rintro ⟨rfl, rfl⟩; simp at h

set_option maxHeartbeats 1000000 in
theorem sGaussDivide_c (x y x' y' : Int) (w : World) : Calls Try.prog 28 #[pr x y, pr x' y'] w fun e w' => e = .returned (res3 (divB x y x' y') (qx x y x' y') (qy x y x' y') (rx x y x' y') (ry x y x' y')) ∧ Below w.heap.size w w' := by
  go_enter Try.func28, Try.ntmps28
  go_wp2_with fail
  generalize hW : World.alloc _ _ = W0
  have kW0_67 : W0.cell? ⟨w.heap.size, 0, none⟩ = some (.int .i64 (x)) := by rw [← hW]; clear hW; first | (go_simp; done) | ((repeat refine keepcell ((Below.refl _ _).alloc (Nat.le_refl _) _) ?_); go_simp; done) | (simp only [frozen?_alloc_cells]; go_simp; done)
  have kW0_68 : W0.cell? ⟨w.heap.size, 1, none⟩ = some (.int .i64 (y)) := by rw [← hW]; clear hW; first | (go_simp; done) | ((repeat refine keepcell ((Below.refl _ _).alloc (Nat.le_refl _) _) ?_); go_simp; done) | (simp only [frozen?_alloc_cells]; go_simp; done)
  have : w.heap.size < W0.heap.size := World.block_lt_of_cell? W0 ⟨w.heap.size, 0, none⟩ (by assumption)
  have kW0_69 : W0.cell? ⟨w.heap.size + 1, 0, none⟩ = some (.int .i64 (x')) := by rw [← hW]; clear hW; first | (go_simp; done) | ((repeat refine keepcell ((Below.refl _ _).alloc (Nat.le_refl _) _) ?_); go_simp; done) | (simp only [frozen?_alloc_cells]; go_simp; done)
  have kW0_70 : W0.cell? ⟨w.heap.size + 1, 1, none⟩ = some (.int .i64 (y')) := by rw [← hW]; clear hW; first | (go_simp; done) | ((repeat refine keepcell ((Below.refl _ _).alloc (Nat.le_refl _) _) ?_); go_simp; done) | (simp only [frozen?_alloc_cells]; go_simp; done)
  have : w.heap.size + 1 < W0.heap.size := World.block_lt_of_cell? W0 ⟨w.heap.size + 1, 0, none⟩ (by assumption)
  have kW0_71 : W0.cell? ⟨w.heap.size + 2, 0, none⟩ = some (.int .i64 (0)) := by rw [← hW]; clear hW; first | (go_simp; done) | ((repeat refine keepcell ((Below.refl _ _).alloc (Nat.le_refl _) _) ?_); go_simp; done) | (simp only [frozen?_alloc_cells]; go_simp; done)
  have zW0_71 : W0.frozen? ⟨w.heap.size + 2, 0, none⟩ = false := by rw [← hW]; clear hW; first | (go_simp; done) | ((repeat refine keepcell ((Below.refl _ _).alloc (Nat.le_refl _) _) ?_); go_simp; done) | (simp only [frozen?_alloc_cells]; go_simp; done)
  have kW0_72 : W0.cell? ⟨w.heap.size + 2, 1, none⟩ = some (.int .i64 (0)) := by rw [← hW]; clear hW; first | (go_simp; done) | ((repeat refine keepcell ((Below.refl _ _).alloc (Nat.le_refl _) _) ?_); go_simp; done) | (simp only [frozen?_alloc_cells]; go_simp; done)
  have zW0_72 : W0.frozen? ⟨w.heap.size + 2, 1, none⟩ = false := by rw [← hW]; clear hW; first | (go_simp; done) | ((repeat refine keepcell ((Below.refl _ _).alloc (Nat.le_refl _) _) ?_); go_simp; done) | (simp only [frozen?_alloc_cells]; go_simp; done)
  have : w.heap.size + 2 < W0.heap.size := World.block_lt_of_cell? W0 ⟨w.heap.size + 2, 0, none⟩ (by assumption)
  have kW0_73 : W0.cell? ⟨w.heap.size + 3, 0, none⟩ = some (.int .i64 (0)) := by rw [← hW]; clear hW; first | (go_simp; done) | ((repeat refine keepcell ((Below.refl _ _).alloc (Nat.le_refl _) _) ?_); go_simp; done) | (simp only [frozen?_alloc_cells]; go_simp; done)
  have zW0_73 : W0.frozen? ⟨w.heap.size + 3, 0, none⟩ = false := by rw [← hW]; clear hW; first | (go_simp; done) | ((repeat refine keepcell ((Below.refl _ _).alloc (Nat.le_refl _) _) ?_); go_simp; done) | (simp only [frozen?_alloc_cells]; go_simp; done)
  have kW0_74 : W0.cell? ⟨w.heap.size + 3, 1, none⟩ = some (.int .i64 (0)) := by rw [← hW]; clear hW; first | (go_simp; done) | ((repeat refine keepcell ((Below.refl _ _).alloc (Nat.le_refl _) _) ?_); go_simp; done) | (simp only [frozen?_alloc_cells]; go_simp; done)
  have zW0_74 : W0.frozen? ⟨w.heap.size + 3, 1, none⟩ = false := by rw [← hW]; clear hW; first | (go_simp; done) | ((repeat refine keepcell ((Below.refl _ _).alloc (Nat.le_refl _) _) ?_); go_simp; done) | (simp only [frozen?_alloc_cells]; go_simp; done)
  have : w.heap.size + 3 < W0.heap.size := World.block_lt_of_cell? W0 ⟨w.heap.size + 3, 0, none⟩ (by assumption)
  have hBW0 : Below w.heap.size w W0 := by rw [← hW]; (repeat' (first | assumption | exact Below.refl _ _ | apply Blw.alloc | apply Blw.drew | apply Blw.drewN | (refine Blw.after ?_ (by assumption)) | (refine Blw.set ?_ (by first | (dsimp only; omega) | (simp; done) | (simp; omega)) _)))
  have hsW0 := hBW0.size
  clear hW
  rcases Bool.eq_false_or_eq_true (inB 1000000 x y) with h1 | h1
  · rcases Bool.eq_false_or_eq_true (inB 1000000 x' y') with h2 | h2
    · have H1 := inB_le h1
      have H2 := inB_le h2
      by_cases hx : x' = 0
      · subst hx
        by_cases hy : y' = 0
        · subst hy
          go_wp2_with (go_at_call 15; refine (sGaussSmall_c _ _ _).mono ?_; rintro e w1 ⟨rfl, hb⟩; have hk : Hld W0 w1 := heldM (by (repeat' (first | assumption | exact Below.refl _ _ | apply Blw.alloc | apply Blw.drew | apply Blw.drewN | (refine Blw.after ?_ (by assumption)) | (refine Blw.set ?_ (by first | (dsimp only; omega) | (simp; done) | (simp; omega)) _)))); have hk1 := hk.1)
          exact bodyPost_ret (v := res3 (divB x y 0 0) (qx x y 0 0) (qy x y 0 0) (rx x y 0 0) (ry x y 0 0)) (by simp [results, Try.results28, go_sem, divB, sel_t, sel_f, *]) rfl ⟨rfl, by (repeat' (first | assumption | exact Below.refl _ _ | apply Blw.alloc | apply Blw.drew | apply Blw.drewN | (refine Blw.after ?_ (by assumption)) | (refine Blw.set ?_ (by first | (dsimp only; omega) | (simp; done) | (simp; omega)) _)))⟩
        · have H3 := nrm_pos (x := 0) (y := y') (by omega)
          have H4 := inB_of (q_in H1 H3)
          go_wp2_with ((go_at_call 15; refine (sGaussSmall_c _ _ _).mono ?_; rintro e w1 ⟨rfl, hb⟩; have hk : Hld W0 w1 := heldM (by (repeat' (first | assumption | exact Below.refl _ _ | apply Blw.alloc | apply Blw.drew | apply Blw.drewN | (refine Blw.after ?_ (by assumption)) | (refine Blw.set ?_ (by first | (dsimp only; omega) | (simp; done) | (simp; omega)) _)))); have hk1 := hk.1))
          refine (l1Divide_c _ _ _ _ _ H1 H2 H3).mono ?_
          rintro e wA ⟨rfl, hbwA⟩
          have hkwA : Hld W0 wA := heldM (by (repeat' (first | assumption | exact Below.refl _ _ | apply Blw.alloc | apply Blw.drew | apply Blw.drewN | (refine Blw.after ?_ (by assumption)) | (refine Blw.set ?_ (by first | (dsimp only; omega) | (simp; done) | (simp; omega)) _))))
          have hlwA := hkwA.1
          have hswA := hkwA.2.2.2
          try (have : w.heap.size < wA.heap.size := by omega)
          try (have : w.heap.size + 1 < wA.heap.size := by omega)
          try (have : w.heap.size + 2 < wA.heap.size := by omega)
          try (have : w.heap.size + 3 < wA.heap.size := by omega)
          go_wp2_with fail
          generalize hW : World.alloc _ _ = W1
          have kW1_75 : W1.cell? ⟨w.heap.size + 2, 0, none⟩ = some (.int .i64 (0)) := by rw [← hW]; clear hW; first | (go_simp; done) | ((repeat refine keepcell ((Below.refl _ _).alloc (Nat.le_refl _) _) ?_); go_simp; done) | (simp only [frozen?_alloc_cells]; go_simp; done)
          have zW1_75 : W1.frozen? ⟨w.heap.size + 2, 0, none⟩ = false := by rw [← hW]; clear hW; first | (go_simp; done) | ((repeat refine keepcell ((Below.refl _ _).alloc (Nat.le_refl _) _) ?_); go_simp; done) | (simp only [frozen?_alloc_cells]; go_simp; done)
          have kW1_76 : W1.cell? ⟨w.heap.size + 2, 1, none⟩ = some (.int .i64 (0)) := by rw [← hW]; clear hW; first | (go_simp; done) | ((repeat refine keepcell ((Below.refl _ _).alloc (Nat.le_refl _) _) ?_); go_simp; done) | (simp only [frozen?_alloc_cells]; go_simp; done)
          have zW1_76 : W1.frozen? ⟨w.heap.size + 2, 1, none⟩ = false := by rw [← hW]; clear hW; first | (go_simp; done) | ((repeat refine keepcell ((Below.refl _ _).alloc (Nat.le_refl _) _) ?_); go_simp; done) | (simp only [frozen?_alloc_cells]; go_simp; done)
          have : w.heap.size + 2 < W1.heap.size := World.block_lt_of_cell? W1 ⟨w.heap.size + 2, 0, none⟩ (by assumption)
          have kW1_77 : W1.cell? ⟨w.heap.size + 3, 0, none⟩ = some (.int .i64 (0)) := by rw [← hW]; clear hW; first | (go_simp; done) | ((repeat refine keepcell ((Below.refl _ _).alloc (Nat.le_refl _) _) ?_); go_simp; done) | (simp only [frozen?_alloc_cells]; go_simp; done)
          have zW1_77 : W1.frozen? ⟨w.heap.size + 3, 0, none⟩ = false := by rw [← hW]; clear hW; first | (go_simp; done) | ((repeat refine keepcell ((Below.refl _ _).alloc (Nat.le_refl _) _) ?_); go_simp; done) | (simp only [frozen?_alloc_cells]; go_simp; done)
          have kW1_78 : W1.cell? ⟨w.heap.size + 3, 1, none⟩ = some (.int .i64 (0)) := by rw [← hW]; clear hW; first | (go_simp; done) | ((repeat refine keepcell ((Below.refl _ _).alloc (Nat.le_refl _) _) ?_); go_simp; done) | (simp only [frozen?_alloc_cells]; go_simp; done)
          have zW1_78 : W1.frozen? ⟨w.heap.size + 3, 1, none⟩ = false := by rw [← hW]; clear hW; first | (go_simp; done) | ((repeat refine keepcell ((Below.refl _ _).alloc (Nat.le_refl _) _) ?_); go_simp; done) | (simp only [frozen?_alloc_cells]; go_simp; done)
          have : w.heap.size + 3 < W1.heap.size := World.block_lt_of_cell? W1 ⟨w.heap.size + 3, 0, none⟩ (by assumption)
          have kW1_79 : W1.cell? ⟨wA.heap.size, 0, none⟩ = some (.int .i64 ((qx x y 0 y'))) := by rw [← hW]; clear hW; first | (go_simp; done) | ((repeat refine keepcell ((Below.refl _ _).alloc (Nat.le_refl _) _) ?_); go_simp; done) | (simp only [frozen?_alloc_cells]; go_simp; done)
          have kW1_80 : W1.cell? ⟨wA.heap.size, 1, none⟩ = some (.int .i64 ((qy x y 0 y'))) := by rw [← hW]; clear hW; first | (go_simp; done) | ((repeat refine keepcell ((Below.refl _ _).alloc (Nat.le_refl _) _) ?_); go_simp; done) | (simp only [frozen?_alloc_cells]; go_simp; done)
          have : wA.heap.size < W1.heap.size := World.block_lt_of_cell? W1 ⟨wA.heap.size, 0, none⟩ (by assumption)
          have kW1_81 : W1.cell? ⟨wA.heap.size + 1, 0, none⟩ = some (.int .i64 ((rx x y 0 y'))) := by rw [← hW]; clear hW; first | (go_simp; done) | ((repeat refine keepcell ((Below.refl _ _).alloc (Nat.le_refl _) _) ?_); go_simp; done) | (simp only [frozen?_alloc_cells]; go_simp; done)
          have kW1_82 : W1.cell? ⟨wA.heap.size + 1, 1, none⟩ = some (.int .i64 ((ry x y 0 y'))) := by rw [← hW]; clear hW; first | (go_simp; done) | ((repeat refine keepcell ((Below.refl _ _).alloc (Nat.le_refl _) _) ?_); go_simp; done) | (simp only [frozen?_alloc_cells]; go_simp; done)
          have : wA.heap.size + 1 < W1.heap.size := World.block_lt_of_cell? W1 ⟨wA.heap.size + 1, 0, none⟩ (by assumption)
          have hBW1 : Below w.heap.size w W1 := by rw [← hW]; (repeat' (first | assumption | exact Below.refl _ _ | apply Blw.alloc | apply Blw.drew | apply Blw.drewN | (refine Blw.after ?_ (by assumption)) | (refine Blw.set ?_ (by first | (dsimp only; omega) | (simp; done) | (simp; omega)) _)))
          have hsW1 := hBW1.size
          clear hW
          try clear kW0_67; try clear kW0_68; try clear kW0_69; try clear kW0_70; try clear kW0_71; try clear zW0_71; try clear kW0_72; try clear zW0_72; try clear kW0_73; try clear zW0_73; try clear kW0_74; try clear zW0_74; try clear hbwA; try clear hkwA; try clear hlwA
          go_wp2_with (fail)
          refine (sGaussSmall_c _ _ _).mono ?_
          rintro e wB ⟨rfl, hbwB⟩
          have hkwB : Hld W1 wB := heldM (by (repeat' (first | assumption | exact Below.refl _ _ | apply Blw.alloc | apply Blw.drew | apply Blw.drewN | (refine Blw.after ?_ (by assumption)) | (refine Blw.set ?_ (by first | (dsimp only; omega) | (simp; done) | (simp; omega)) _))))
          have hlwB := hkwB.1
          have hswB := hkwB.2.2.2
          try (have : w.heap.size + 2 < wB.heap.size := by omega)
          try (have : w.heap.size + 3 < wB.heap.size := by omega)
          try (have : wA.heap.size < wB.heap.size := by omega)
          try (have : wA.heap.size + 1 < wB.heap.size := by omega)
          go_wp2_with fail
          have kwB_83 : wB.cell? ⟨w.heap.size + 2, 0, none⟩ = some (.int .i64 (0)) := by go_simp
          have zwB_83 : wB.frozen? ⟨w.heap.size + 2, 0, none⟩ = false := by go_simp
          have kwB_84 : wB.cell? ⟨w.heap.size + 2, 1, none⟩ = some (.int .i64 (0)) := by go_simp
          have zwB_84 : wB.frozen? ⟨w.heap.size + 2, 1, none⟩ = false := by go_simp
          have : w.heap.size + 2 < wB.heap.size := World.block_lt_of_cell? wB ⟨w.heap.size + 2, 0, none⟩ (by assumption)
          have kwB_85 : wB.cell? ⟨w.heap.size + 3, 0, none⟩ = some (.int .i64 (0)) := by go_simp
          have zwB_85 : wB.frozen? ⟨w.heap.size + 3, 0, none⟩ = false := by go_simp
          have kwB_86 : wB.cell? ⟨w.heap.size + 3, 1, none⟩ = some (.int .i64 (0)) := by go_simp
          have zwB_86 : wB.frozen? ⟨w.heap.size + 3, 1, none⟩ = false := by go_simp
          have : w.heap.size + 3 < wB.heap.size := World.block_lt_of_cell? wB ⟨w.heap.size + 3, 0, none⟩ (by assumption)
          have kwB_87 : wB.cell? ⟨wA.heap.size, 0, none⟩ = some (.int .i64 ((qx x y 0 y'))) := by go_simp
          have kwB_88 : wB.cell? ⟨wA.heap.size, 1, none⟩ = some (.int .i64 ((qy x y 0 y'))) := by go_simp
          have : wA.heap.size < wB.heap.size := World.block_lt_of_cell? wB ⟨wA.heap.size, 0, none⟩ (by assumption)
          have kwB_89 : wB.cell? ⟨wA.heap.size + 1, 0, none⟩ = some (.int .i64 ((rx x y 0 y'))) := by go_simp
          have kwB_90 : wB.cell? ⟨wA.heap.size + 1, 1, none⟩ = some (.int .i64 ((ry x y 0 y'))) := by go_simp
          have : wA.heap.size + 1 < wB.heap.size := World.block_lt_of_cell? wB ⟨wA.heap.size + 1, 0, none⟩ (by assumption)
          have hBwB : Below w.heap.size w wB := by (repeat' (first | assumption | exact Below.refl _ _ | apply Blw.alloc | apply Blw.drew | apply Blw.drewN | (refine Blw.after ?_ (by assumption)) | (refine Blw.set ?_ (by first | (dsimp only; omega) | (simp; done) | (simp; omega)) _)))
          have hSwB := hBwB.size
          try clear kW1_75; try clear zW1_75; try clear kW1_76; try clear zW1_76; try clear kW1_77; try clear zW1_77; try clear kW1_78; try clear zW1_78; try clear kW1_79; try clear kW1_80; try clear kW1_81; try clear kW1_82; try clear hbwB; try clear hkwB; try clear hlwB
          refine region_slots (fun w' => w'.cell? ⟨wA.heap.size + 1, 0, none⟩ = some (.int .i64 ((rx x y 0 y'))) ∧ w'.cell? ⟨wA.heap.size + 1, 1, none⟩ = some (.int .i64 ((ry x y 0 y')))) [1] [(35, .is (pr (qx x y 0 y') (qy x y 0 y'))), (36, .is (pr (rx x y 0 y') (ry x y 0 y')))] (by kernel_rfl) (by kernel_rfl) (by kernel_rfl) (fun w' hH => by go_simp) (fun _ _ _ _ _ _ h => h) ?_
          simp only [Steps, List.contains_cons, List.contains_nil, Nat.reduceBEq, Nat.reduceAdd, Bool.or_false, Bool.false_or, Bool.or_true, Bool.true_or, Bool.false_eq_true, if_false, if_true]
          refine ⟨?_, ?_, ?_⟩
          · intro u w2 hH hd K hK
            simp only [setU, upd, List.map_cons, List.map_nil, List.contains_cons, List.contains_nil, Nat.reduceBEq, Nat.reduceAdd, Bool.or_false, Bool.false_or, Bool.or_true, Bool.true_or, Bool.false_eq_true, if_false, if_true, ite_true, ite_false, Nat.reduceEqDiff, beq_self_eq_true] at hK ⊢
            go_wp2_with (fail)
            exact hK _ _ (by (repeat' (first | assumption | exact Below.refl _ _ | apply Blw.alloc | apply Blw.drew | apply Blw.drewN | (refine Blw.after ?_ (by assumption)) | (refine Blw.set ?_ (by first | (dsimp only; omega) | (simp; done) | (simp; omega)) _)))) rfl
          · intro u w2 hH hd
            simp only [setU, upd, List.map_cons, List.map_nil, List.contains_cons, List.contains_nil, Nat.reduceBEq, Nat.reduceAdd, Bool.or_false, Bool.false_or, Bool.or_true, Bool.true_or, Bool.false_eq_true, if_false, if_true, ite_true, ite_false, Nat.reduceEqDiff, beq_self_eq_true]
            refine ⟨(pr (rx x y 0 y') (ry x y 0 y')), fun w hS => ?_, by first | rfl | trivial, by first | rfl | trivial, by first | rfl | trivial⟩
            first | (go_simp; done) | (go_simp; exact IntWalk.i64_in _ (by omega))
          intro u w2 hH hF hne
          have hH1 := hH.1
          have hH2 := hH.2.2.2
          simp only [allFacts, SlotFact.h] at hF
          obtain ⟨f35, f36, -⟩ := hF
          simp only [setU, upd, List.map_cons, List.map_nil, List.contains_cons, List.contains_nil, Nat.reduceBEq, Nat.reduceAdd, Bool.or_false, Bool.false_or, Bool.or_true, Bool.true_or, Bool.false_eq_true, if_false, if_true, ite_true, ite_false, Nat.reduceEqDiff, beq_self_eq_true]
          rw [f35, f36]
          clear f35 f36 hne
          refine wpListS_step fun K hK => ?_
          go_wp2_with (fail)
          refine hK _ _ (by go_simp) ?_
          clear hK
          refine wpListS_step fun K hK => ?_
          go_wp2_with (fail)
          refine hK _ _ (by go_simp) ?_
          clear hK
          refine wpListS_step fun K hK => ?_
          go_wp2_with (fail)
          refine hK _ _ (by go_simp) ?_
          clear hK
          refine wpListS_nil ?_
          go_wp2_with fail
          exact bodyPost_ret (v := res3 (divB x y 0 y') (qx x y 0 y') (qy x y 0 y') (rx x y 0 y') (ry x y 0 y')) (by simp [results, Try.results28, go_sem, divB, sel_t, sel_f, *]) rfl ⟨rfl, by (repeat' (first | assumption | exact Below.refl _ _ | apply Blw.alloc | apply Blw.drew | apply Blw.drewN | (refine Blw.after ?_ (by assumption)) | (refine Blw.set ?_ (by first | (dsimp only; omega) | (simp; done) | (simp; omega)) _)))⟩
      · have H3 := nrm_pos (x := x') (y := y') (by omega)
        have H4 := inB_of (q_in H1 H3)
        go_wp2_with ((go_at_call 15; refine (sGaussSmall_c _ _ _).mono ?_; rintro e w1 ⟨rfl, hb⟩; have hk : Hld W0 w1 := heldM (by (repeat' (first | assumption | exact Below.refl _ _ | apply Blw.alloc | apply Blw.drew | apply Blw.drewN | (refine Blw.after ?_ (by assumption)) | (refine Blw.set ?_ (by first | (dsimp only; omega) | (simp; done) | (simp; omega)) _)))); have hk1 := hk.1))
        refine (l1Divide_c _ _ _ _ _ H1 H2 H3).mono ?_
        rintro e wA ⟨rfl, hbwA⟩
        have hkwA : Hld W0 wA := heldM (by (repeat' (first | assumption | exact Below.refl _ _ | apply Blw.alloc | apply Blw.drew | apply Blw.drewN | (refine Blw.after ?_ (by assumption)) | (refine Blw.set ?_ (by first | (dsimp only; omega) | (simp; done) | (simp; omega)) _))))
        have hlwA := hkwA.1
        have hswA := hkwA.2.2.2
        try (have : w.heap.size + 2 < wA.heap.size := by omega)
        try (have : w.heap.size + 3 < wA.heap.size := by omega)
        go_wp2_with fail
        generalize hW : World.alloc _ _ = W1
        have kW1_91 : W1.cell? ⟨w.heap.size + 2, 0, none⟩ = some (.int .i64 (0)) := by rw [← hW]; clear hW; first | (go_simp; done) | ((repeat refine keepcell ((Below.refl _ _).alloc (Nat.le_refl _) _) ?_); go_simp; done) | (simp only [frozen?_alloc_cells]; go_simp; done)
        have zW1_91 : W1.frozen? ⟨w.heap.size + 2, 0, none⟩ = false := by rw [← hW]; clear hW; first | (go_simp; done) | ((repeat refine keepcell ((Below.refl _ _).alloc (Nat.le_refl _) _) ?_); go_simp; done) | (simp only [frozen?_alloc_cells]; go_simp; done)
        have kW1_92 : W1.cell? ⟨w.heap.size + 2, 1, none⟩ = some (.int .i64 (0)) := by rw [← hW]; clear hW; first | (go_simp; done) | ((repeat refine keepcell ((Below.refl _ _).alloc (Nat.le_refl _) _) ?_); go_simp; done) | (simp only [frozen?_alloc_cells]; go_simp; done)
        have zW1_92 : W1.frozen? ⟨w.heap.size + 2, 1, none⟩ = false := by rw [← hW]; clear hW; first | (go_simp; done) | ((repeat refine keepcell ((Below.refl _ _).alloc (Nat.le_refl _) _) ?_); go_simp; done) | (simp only [frozen?_alloc_cells]; go_simp; done)
        have : w.heap.size + 2 < W1.heap.size := World.block_lt_of_cell? W1 ⟨w.heap.size + 2, 0, none⟩ (by assumption)
        have kW1_93 : W1.cell? ⟨w.heap.size + 3, 0, none⟩ = some (.int .i64 (0)) := by rw [← hW]; clear hW; first | (go_simp; done) | ((repeat refine keepcell ((Below.refl _ _).alloc (Nat.le_refl _) _) ?_); go_simp; done) | (simp only [frozen?_alloc_cells]; go_simp; done)
        have zW1_93 : W1.frozen? ⟨w.heap.size + 3, 0, none⟩ = false := by rw [← hW]; clear hW; first | (go_simp; done) | ((repeat refine keepcell ((Below.refl _ _).alloc (Nat.le_refl _) _) ?_); go_simp; done) | (simp only [frozen?_alloc_cells]; go_simp; done)
        have kW1_94 : W1.cell? ⟨w.heap.size + 3, 1, none⟩ = some (.int .i64 (0)) := by rw [← hW]; clear hW; first | (go_simp; done) | ((repeat refine keepcell ((Below.refl _ _).alloc (Nat.le_refl _) _) ?_); go_simp; done) | (simp only [frozen?_alloc_cells]; go_simp; done)
        have zW1_94 : W1.frozen? ⟨w.heap.size + 3, 1, none⟩ = false := by rw [← hW]; clear hW; first | (go_simp; done) | ((repeat refine keepcell ((Below.refl _ _).alloc (Nat.le_refl _) _) ?_); go_simp; done) | (simp only [frozen?_alloc_cells]; go_simp; done)
        have : w.heap.size + 3 < W1.heap.size := World.block_lt_of_cell? W1 ⟨w.heap.size + 3, 0, none⟩ (by assumption)
        have kW1_95 : W1.cell? ⟨wA.heap.size, 0, none⟩ = some (.int .i64 ((qx x y x' y'))) := by rw [← hW]; clear hW; first | (go_simp; done) | ((repeat refine keepcell ((Below.refl _ _).alloc (Nat.le_refl _) _) ?_); go_simp; done) | (simp only [frozen?_alloc_cells]; go_simp; done)
        have kW1_96 : W1.cell? ⟨wA.heap.size, 1, none⟩ = some (.int .i64 ((qy x y x' y'))) := by rw [← hW]; clear hW; first | (go_simp; done) | ((repeat refine keepcell ((Below.refl _ _).alloc (Nat.le_refl _) _) ?_); go_simp; done) | (simp only [frozen?_alloc_cells]; go_simp; done)
        have : wA.heap.size < W1.heap.size := World.block_lt_of_cell? W1 ⟨wA.heap.size, 0, none⟩ (by assumption)
        have kW1_97 : W1.cell? ⟨wA.heap.size + 1, 0, none⟩ = some (.int .i64 ((rx x y x' y'))) := by rw [← hW]; clear hW; first | (go_simp; done) | ((repeat refine keepcell ((Below.refl _ _).alloc (Nat.le_refl _) _) ?_); go_simp; done) | (simp only [frozen?_alloc_cells]; go_simp; done)
        have kW1_98 : W1.cell? ⟨wA.heap.size + 1, 1, none⟩ = some (.int .i64 ((ry x y x' y'))) := by rw [← hW]; clear hW; first | (go_simp; done) | ((repeat refine keepcell ((Below.refl _ _).alloc (Nat.le_refl _) _) ?_); go_simp; done) | (simp only [frozen?_alloc_cells]; go_simp; done)
        have : wA.heap.size + 1 < W1.heap.size := World.block_lt_of_cell? W1 ⟨wA.heap.size + 1, 0, none⟩ (by assumption)
        have hBW1 : Below w.heap.size w W1 := by rw [← hW]; (repeat' (first | assumption | exact Below.refl _ _ | apply Blw.alloc | apply Blw.drew | apply Blw.drewN | (refine Blw.after ?_ (by assumption)) | (refine Blw.set ?_ (by first | (dsimp only; omega) | (simp; done) | (simp; omega)) _)))
        have hsW1 := hBW1.size
        clear hW
        try clear kwB_83; try clear zwB_83; try clear kwB_84; try clear zwB_84; try clear kwB_85; try clear zwB_85; try clear kwB_86; try clear zwB_86; try clear kwB_87; try clear kwB_88; try clear kwB_89; try clear kwB_90; try clear hH; try clear hH1; try clear hbwA; try clear hkwA; try clear hlwA
        go_wp2_with (fail)
        refine (sGaussSmall_c _ _ _).mono ?_
        rintro e wB ⟨rfl, hbwB⟩
        have hkwB : Hld W1 wB := heldM (by (repeat' (first | assumption | exact Below.refl _ _ | apply Blw.alloc | apply Blw.drew | apply Blw.drewN | (refine Blw.after ?_ (by assumption)) | (refine Blw.set ?_ (by first | (dsimp only; omega) | (simp; done) | (simp; omega)) _))))
        have hlwB := hkwB.1
        have hswB := hkwB.2.2.2
        try (have : w.heap.size + 2 < wB.heap.size := by omega)
        try (have : w.heap.size + 3 < wB.heap.size := by omega)
        try (have : wA.heap.size < wB.heap.size := by omega)
        try (have : wA.heap.size + 1 < wB.heap.size := by omega)
        go_wp2_with fail
        have kwB_99 : wB.cell? ⟨w.heap.size + 2, 0, none⟩ = some (.int .i64 (0)) := by go_simp
        have zwB_99 : wB.frozen? ⟨w.heap.size + 2, 0, none⟩ = false := by go_simp
        have kwB_100 : wB.cell? ⟨w.heap.size + 2, 1, none⟩ = some (.int .i64 (0)) := by go_simp
        have zwB_100 : wB.frozen? ⟨w.heap.size + 2, 1, none⟩ = false := by go_simp
        have : w.heap.size + 2 < wB.heap.size := World.block_lt_of_cell? wB ⟨w.heap.size + 2, 0, none⟩ (by assumption)
        have kwB_101 : wB.cell? ⟨w.heap.size + 3, 0, none⟩ = some (.int .i64 (0)) := by go_simp
        have zwB_101 : wB.frozen? ⟨w.heap.size + 3, 0, none⟩ = false := by go_simp
        have kwB_102 : wB.cell? ⟨w.heap.size + 3, 1, none⟩ = some (.int .i64 (0)) := by go_simp
        have zwB_102 : wB.frozen? ⟨w.heap.size + 3, 1, none⟩ = false := by go_simp
        have : w.heap.size + 3 < wB.heap.size := World.block_lt_of_cell? wB ⟨w.heap.size + 3, 0, none⟩ (by assumption)
        have kwB_103 : wB.cell? ⟨wA.heap.size, 0, none⟩ = some (.int .i64 ((qx x y x' y'))) := by go_simp
        have kwB_104 : wB.cell? ⟨wA.heap.size, 1, none⟩ = some (.int .i64 ((qy x y x' y'))) := by go_simp
        have : wA.heap.size < wB.heap.size := World.block_lt_of_cell? wB ⟨wA.heap.size, 0, none⟩ (by assumption)
        have kwB_105 : wB.cell? ⟨wA.heap.size + 1, 0, none⟩ = some (.int .i64 ((rx x y x' y'))) := by go_simp
        have kwB_106 : wB.cell? ⟨wA.heap.size + 1, 1, none⟩ = some (.int .i64 ((ry x y x' y'))) := by go_simp
        have : wA.heap.size + 1 < wB.heap.size := World.block_lt_of_cell? wB ⟨wA.heap.size + 1, 0, none⟩ (by assumption)
        have hBwB : Below w.heap.size w wB := by (repeat' (first | assumption | exact Below.refl _ _ | apply Blw.alloc | apply Blw.drew | apply Blw.drewN | (refine Blw.after ?_ (by assumption)) | (refine Blw.set ?_ (by first | (dsimp only; omega) | (simp; done) | (simp; omega)) _)))
        have hSwB := hBwB.size
        try clear kW1_91; try clear zW1_91; try clear kW1_92; try clear zW1_92; try clear kW1_93; try clear zW1_93; try clear kW1_94; try clear zW1_94; try clear kW1_95; try clear kW1_96; try clear kW1_97; try clear kW1_98; try clear hbwB; try clear hkwB; try clear hlwB
        refine region_slots (fun w' => w'.cell? ⟨wA.heap.size + 1, 0, none⟩ = some (.int .i64 ((rx x y x' y'))) ∧ w'.cell? ⟨wA.heap.size + 1, 1, none⟩ = some (.int .i64 ((ry x y x' y')))) [1] [(35, .is (pr (qx x y x' y') (qy x y x' y'))), (36, .is (pr (rx x y x' y') (ry x y x' y')))] (by kernel_rfl) (by kernel_rfl) (by kernel_rfl) (fun w' hH => by go_simp) (fun _ _ _ _ _ _ h => h) ?_
        simp only [Steps, List.contains_cons, List.contains_nil, Nat.reduceBEq, Nat.reduceAdd, Bool.or_false, Bool.false_or, Bool.or_true, Bool.true_or, Bool.false_eq_true, if_false, if_true]
        refine ⟨?_, ?_, ?_⟩
        · intro u w2 hH hd K hK
          simp only [setU, upd, List.map_cons, List.map_nil, List.contains_cons, List.contains_nil, Nat.reduceBEq, Nat.reduceAdd, Bool.or_false, Bool.false_or, Bool.or_true, Bool.true_or, Bool.false_eq_true, if_false, if_true, ite_true, ite_false, Nat.reduceEqDiff, beq_self_eq_true] at hK ⊢
          go_wp2_with (fail)
          exact hK _ _ (by (repeat' (first | assumption | exact Below.refl _ _ | apply Blw.alloc | apply Blw.drew | apply Blw.drewN | (refine Blw.after ?_ (by assumption)) | (refine Blw.set ?_ (by first | (dsimp only; omega) | (simp; done) | (simp; omega)) _)))) rfl
        · intro u w2 hH hd
          simp only [setU, upd, List.map_cons, List.map_nil, List.contains_cons, List.contains_nil, Nat.reduceBEq, Nat.reduceAdd, Bool.or_false, Bool.false_or, Bool.or_true, Bool.true_or, Bool.false_eq_true, if_false, if_true, ite_true, ite_false, Nat.reduceEqDiff, beq_self_eq_true]
          refine ⟨(pr (rx x y x' y') (ry x y x' y')), fun w hS => ?_, by first | rfl | trivial, by first | rfl | trivial, by first | rfl | trivial⟩
          first | (go_simp; done) | (go_simp; exact IntWalk.i64_in _ (by omega))
        intro u w2 hH hF hne
        have hH1 := hH.1
        have hH2 := hH.2.2.2
        simp only [allFacts, SlotFact.h] at hF
        obtain ⟨f35, f36, -⟩ := hF
        simp only [setU, upd, List.map_cons, List.map_nil, List.contains_cons, List.contains_nil, Nat.reduceBEq, Nat.reduceAdd, Bool.or_false, Bool.false_or, Bool.or_true, Bool.true_or, Bool.false_eq_true, if_false, if_true, ite_true, ite_false, Nat.reduceEqDiff, beq_self_eq_true]
        rw [f35, f36]
        clear f35 f36 hne
        refine wpListS_step fun K hK => ?_
        go_wp2_with (fail)
        refine hK _ _ (by go_simp) ?_
        clear hK
        refine wpListS_step fun K hK => ?_
        go_wp2_with (fail)
        refine hK _ _ (by go_simp) ?_
        clear hK
        refine wpListS_step fun K hK => ?_
        go_wp2_with (fail)
        refine hK _ _ (by go_simp) ?_
        clear hK
        refine wpListS_nil ?_
        go_wp2_with fail
        exact bodyPost_ret (v := res3 (divB x y x' y') (qx x y x' y') (qy x y x' y') (rx x y x' y') (ry x y x' y')) (by simp [results, Try.results28, go_sem, divB, sel_t, sel_f, *]) rfl ⟨rfl, by (repeat' (first | assumption | exact Below.refl _ _ | apply Blw.alloc | apply Blw.drew | apply Blw.drewN | (refine Blw.after ?_ (by assumption)) | (refine Blw.set ?_ (by first | (dsimp only; omega) | (simp; done) | (simp; omega)) _)))⟩
    · go_wp2_with (go_at_call 15; refine (sGaussSmall_c _ _ _).mono ?_; rintro e w1 ⟨rfl, hb⟩; have hk : Hld W0 w1 := heldM (by (repeat' (first | assumption | exact Below.refl _ _ | apply Blw.alloc | apply Blw.drew | apply Blw.drewN | (refine Blw.after ?_ (by assumption)) | (refine Blw.set ?_ (by first | (dsimp only; omega) | (simp; done) | (simp; omega)) _)))); have hk1 := hk.1)
      exact bodyPost_ret (v := (res3 (divB x y x' y') (qx x y x' y') (qy x y x' y') (rx x y x' y') (ry x y x' y'))) (by simp [results, Try.results28, go_sem, divB, sel_t, sel_f, *]) rfl ⟨rfl, by (repeat' (first | assumption | exact Below.refl _ _ | apply Blw.alloc | apply Blw.drew | apply Blw.drewN | (refine Blw.after ?_ (by assumption)) | (refine Blw.set ?_ (by first | (dsimp only; omega) | (simp; done) | (simp; omega)) _)))⟩
  · go_wp2_with (go_at_call 15; refine (sGaussSmall_c _ _ _).mono ?_; rintro e w1 ⟨rfl, hb⟩; have hk : Hld W0 w1 := heldM (by (repeat' (first | assumption | exact Below.refl _ _ | apply Blw.alloc | apply Blw.drew | apply Blw.drewN | (refine Blw.after ?_ (by assumption)) | (refine Blw.set ?_ (by first | (dsimp only; omega) | (simp; done) | (simp; omega)) _)))); have hk1 := hk.1)
    exact bodyPost_ret (v := (res3 (divB x y x' y') (qx x y x' y') (qy x y x' y') (rx x y x' y') (ry x y x' y'))) (by simp [results, Try.results28, go_sem, divB, sel_t, sel_f, *]) rfl ⟨rfl, by (repeat' (first | assumption | exact Below.refl _ _ | apply Blw.alloc | apply Blw.drew | apply Blw.drewN | (refine Blw.after ?_ (by assumption)) | (refine Blw.set ?_ (by first | (dsimp only; omega) | (simp; done) | (simp; omega)) _)))⟩
end Go.Proofs.Ytmcnioahnflgaaa

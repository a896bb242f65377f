/- Chapter 1: GaussGcd of both sides. -/
import Derived.Test.YtlcafjdinjdllaaGi
namespace Go.Proofs.Ytlcafjdinjdllaa
set_option linter.unusedSimpArgs false
set_option linter.unusedVariables false
open Go.RowKit

/-- both are small, and not both are 0 -/
def gcdB (x y x' y' : Int) : Bool := inB 1000000 x y && inB 1000000 x' y' && !(decide (x = 0) && decide (y = 0) && decide (x' = 0) && decide (y' = 0))

/-- what holds at the loop's head of two numbers and their boxes -/
def GcdRel (w : World) (x y x' y' : Int) (pa pb : Nat) (k : Nat) (wr : World) : Prop :=
  ∃ a b c d, in6 a b ∧ in6 c d ∧ gcdF k a b c d = gcdF (nrm x' y').toNat x y x' y' ∧ nrm c d ≤ (k : Int) ∧ Below w.heap.size w wr ∧
    wr.cell? ⟨pa, 0, none⟩ = some (.int .i64 a) ∧ wr.cell? ⟨pa, 1, none⟩ = some (.int .i64 b) ∧ wr.frozen? ⟨pa, 0, none⟩ = false ∧ wr.frozen? ⟨pa, 1, none⟩ = false ∧
    wr.cell? ⟨pb, 0, none⟩ = some (.int .i64 c) ∧ wr.cell? ⟨pb, 1, none⟩ = some (.int .i64 d) ∧ wr.frozen? ⟨pb, 0, none⟩ = false ∧ wr.frozen? ⟨pb, 1, none⟩ = false ∧
    wr.cell? ⟨w.heap.size + 2, 0, none⟩ = some (.int .i64 0) ∧ wr.cell? ⟨w.heap.size + 2, 1, none⟩ = some (.int .i64 0) ∧ wr.frozen? ⟨w.heap.size + 2, 0, none⟩ = false ∧ wr.frozen? ⟨w.heap.size + 2, 1, none⟩ = false
/-- .. and of a third that stays 0 -/
def GcdRel3 (w : World) (x y x' y' : Int) (k : Nat) (wr : World) : Prop :=
  GcdRel w x y x' y' w.heap.size (w.heap.size + 1) k wr ∧ wr.cell? ⟨w.heap.size + 3, 0, none⟩ = some (.int .i64 0) ∧ wr.cell? ⟨w.heap.size + 3, 1, none⟩ = some (.int .i64 0)

set_option maxHeartbeats 8000000 in
theorem sGaussGcd_c (x y x' y' : Int) (w : World) : Calls Try.prog 9 #[pr x y, pr x' y'] w fun e w' => e = .returned (res2 (gcdB x y x' y') (firstX (gcdX x y x' y') (gcdY x y x' y')) (firstY (gcdX x y x' y') (gcdY x y x' y'))) ∧ Below w.heap.size w w' := by
  rcases Bool.eq_false_or_eq_true (inB 1000000 x y) with h1 | h1
  · rcases Bool.eq_false_or_eq_true (inB 1000000 x' y') with h2 | h2
    · by_cases hz : (x = 0 ∧ y = 0) ∧ x' = 0 ∧ y' = 0
      · obtain ⟨⟨rfl, rfl⟩, rfl, rfl⟩ := hz
        go_enter Try.func9, Try.ntmps9
        go_wp2_with fail
        generalize hW : World.alloc _ _ = W0
        have kW0_127 : W0.cell? ⟨w.heap.size, 0, none⟩ = some (.int .i64 (0)) := by rw [← hW]; clear hW; first | (go_simp; done) | ((repeat refine keepcell ((Below.refl _ _).alloc (Nat.le_refl _) _) ?_); go_simp; done) | (simp only [frozen?_alloc_cells]; go_simp; done)
        have zW0_127 : W0.frozen? ⟨w.heap.size, 0, none⟩ = false := by rw [← hW]; clear hW; first | (go_simp; done) | ((repeat refine keepcell ((Below.refl _ _).alloc (Nat.le_refl _) _) ?_); go_simp; done) | (simp only [frozen?_alloc_cells]; go_simp; done)
        have kW0_128 : W0.cell? ⟨w.heap.size, 1, none⟩ = some (.int .i64 (0)) := by rw [← hW]; clear hW; first | (go_simp; done) | ((repeat refine keepcell ((Below.refl _ _).alloc (Nat.le_refl _) _) ?_); go_simp; done) | (simp only [frozen?_alloc_cells]; go_simp; done)
        have zW0_128 : W0.frozen? ⟨w.heap.size, 1, none⟩ = false := by rw [← hW]; clear hW; first | (go_simp; done) | ((repeat refine keepcell ((Below.refl _ _).alloc (Nat.le_refl _) _) ?_); go_simp; done) | (simp only [frozen?_alloc_cells]; go_simp; done)
        have : w.heap.size < W0.heap.size := World.block_lt_of_cell? W0 ⟨w.heap.size, 0, none⟩ (by assumption)
        have kW0_129 : W0.cell? ⟨w.heap.size + 1, 0, none⟩ = some (.int .i64 (0)) := by rw [← hW]; clear hW; first | (go_simp; done) | ((repeat refine keepcell ((Below.refl _ _).alloc (Nat.le_refl _) _) ?_); go_simp; done) | (simp only [frozen?_alloc_cells]; go_simp; done)
        have zW0_129 : W0.frozen? ⟨w.heap.size + 1, 0, none⟩ = false := by rw [← hW]; clear hW; first | (go_simp; done) | ((repeat refine keepcell ((Below.refl _ _).alloc (Nat.le_refl _) _) ?_); go_simp; done) | (simp only [frozen?_alloc_cells]; go_simp; done)
        have kW0_130 : W0.cell? ⟨w.heap.size + 1, 1, none⟩ = some (.int .i64 (0)) := by rw [← hW]; clear hW; first | (go_simp; done) | ((repeat refine keepcell ((Below.refl _ _).alloc (Nat.le_refl _) _) ?_); go_simp; done) | (simp only [frozen?_alloc_cells]; go_simp; done)
        have zW0_130 : W0.frozen? ⟨w.heap.size + 1, 1, none⟩ = false := by rw [← hW]; clear hW; first | (go_simp; done) | ((repeat refine keepcell ((Below.refl _ _).alloc (Nat.le_refl _) _) ?_); go_simp; done) | (simp only [frozen?_alloc_cells]; go_simp; done)
        have : w.heap.size + 1 < W0.heap.size := World.block_lt_of_cell? W0 ⟨w.heap.size + 1, 0, none⟩ (by assumption)
        have kW0_131 : W0.cell? ⟨w.heap.size + 2, 0, none⟩ = some (.int .i64 (0)) := by rw [← hW]; clear hW; first | (go_simp; done) | ((repeat refine keepcell ((Below.refl _ _).alloc (Nat.le_refl _) _) ?_); go_simp; done) | (simp only [frozen?_alloc_cells]; go_simp; done)
        have zW0_131 : W0.frozen? ⟨w.heap.size + 2, 0, none⟩ = false := by rw [← hW]; clear hW; first | (go_simp; done) | ((repeat refine keepcell ((Below.refl _ _).alloc (Nat.le_refl _) _) ?_); go_simp; done) | (simp only [frozen?_alloc_cells]; go_simp; done)
        have kW0_132 : W0.cell? ⟨w.heap.size + 2, 1, none⟩ = some (.int .i64 (0)) := by rw [← hW]; clear hW; first | (go_simp; done) | ((repeat refine keepcell ((Below.refl _ _).alloc (Nat.le_refl _) _) ?_); go_simp; done) | (simp only [frozen?_alloc_cells]; go_simp; done)
        have zW0_132 : W0.frozen? ⟨w.heap.size + 2, 1, none⟩ = false := by rw [← hW]; clear hW; first | (go_simp; done) | ((repeat refine keepcell ((Below.refl _ _).alloc (Nat.le_refl _) _) ?_); go_simp; done) | (simp only [frozen?_alloc_cells]; go_simp; done)
        have : w.heap.size + 2 < W0.heap.size := World.block_lt_of_cell? W0 ⟨w.heap.size + 2, 0, none⟩ (by assumption)
        have kW0_133 : W0.cell? ⟨w.heap.size + 3, 0, none⟩ = some (.int .i64 (0)) := by rw [← hW]; clear hW; first | (go_simp; done) | ((repeat refine keepcell ((Below.refl _ _).alloc (Nat.le_refl _) _) ?_); go_simp; done) | (simp only [frozen?_alloc_cells]; go_simp; done)
        have kW0_134 : W0.cell? ⟨w.heap.size + 3, 1, none⟩ = some (.int .i64 (0)) := by rw [← hW]; clear hW; first | (go_simp; done) | ((repeat refine keepcell ((Below.refl _ _).alloc (Nat.le_refl _) _) ?_); go_simp; done) | (simp only [frozen?_alloc_cells]; go_simp; done)
        have : w.heap.size + 3 < W0.heap.size := World.block_lt_of_cell? W0 ⟨w.heap.size + 3, 0, none⟩ (by assumption)
        have hBW0 : Below w.heap.size w W0 := by rw [← hW]; (repeat' (first | assumption | exact Below.refl _ _ | apply Blw.alloc | apply Blw.drew | apply Blw.drewN | (refine Blw.after ?_ (by assumption)) | (refine Blw.set ?_ (by first | (dsimp only; omega) | (simp; done) | (simp; omega)) _)))
        have hsW0 := hBW0.size
        clear hW
        go_wp2_with (go_at_call 32; refine (sGaussSmall_c _ _ _).mono ?_; rintro e w1 ⟨rfl, hb⟩; have hk : Hld W0 w1 := heldM (by (repeat' (first | assumption | exact Below.refl _ _ | apply Blw.alloc | apply Blw.drew | apply Blw.drewN | (refine Blw.after ?_ (by assumption)) | (refine Blw.set ?_ (by first | (dsimp only; omega) | (simp; done) | (simp; omega)) _)))); have hk1 := hk.1)
        exact bodyPost_ret (v := res2 (gcdB 0 0 0 0) (firstX (gcdX 0 0 0 0) (gcdY 0 0 0 0)) (firstY (gcdX 0 0 0 0) (gcdY 0 0 0 0))) (by simp [results, Try.results9, go_sem, gcdB, sel_t, sel_f, *]) rfl ⟨rfl, by (repeat' (first | assumption | exact Below.refl _ _ | apply Blw.alloc | apply Blw.drew | apply Blw.drewN | (refine Blw.after ?_ (by assumption)) | (refine Blw.set ?_ (by first | (dsimp only; omega) | (simp; done) | (simp; omega)) _)))⟩
      · have HX := Lib.hid (inB_le h1)
        have HY := Lib.hid (inB_le h2)
        have HB := Lib.hid (show gcdB x y x' y' = true by unfold gcdB; rw [h1, h2]; simp; omega)
        have T : ¬ x = 0 ∨ (x = 0 ∧ ¬ y = 0) ∨ (x = 0 ∧ y = 0 ∧ ¬ x' = 0) ∨ (x = 0 ∧ y = 0 ∧ x' = 0 ∧ ¬ y' = 0) := by omega
        clear hz
        rcases T with T | ⟨rfl, T⟩ | ⟨rfl, rfl, T⟩ | ⟨rfl, rfl, rfl, T⟩
        · go_enter Try.func9, Try.ntmps9
          go_wp2_with fail
          generalize hW : World.alloc _ _ = W0
          have kW0_135 : W0.cell? ⟨w.heap.size, 0, none⟩ = some (.int .i64 (x)) := by rw [← hW]; clear hW; first | (go_simp; done) | ((repeat refine keepcell ((Below.refl _ _).alloc (Nat.le_refl _) _) ?_); go_simp; done) | (simp only [frozen?_alloc_cells]; go_simp; done)
          have zW0_135 : W0.frozen? ⟨w.heap.size, 0, none⟩ = false := by rw [← hW]; clear hW; first | (go_simp; done) | ((repeat refine keepcell ((Below.refl _ _).alloc (Nat.le_refl _) _) ?_); go_simp; done) | (simp only [frozen?_alloc_cells]; go_simp; done)
          have kW0_136 : W0.cell? ⟨w.heap.size, 1, none⟩ = some (.int .i64 (y)) := by rw [← hW]; clear hW; first | (go_simp; done) | ((repeat refine keepcell ((Below.refl _ _).alloc (Nat.le_refl _) _) ?_); go_simp; done) | (simp only [frozen?_alloc_cells]; go_simp; done)
          have zW0_136 : W0.frozen? ⟨w.heap.size, 1, none⟩ = false := by rw [← hW]; clear hW; first | (go_simp; done) | ((repeat refine keepcell ((Below.refl _ _).alloc (Nat.le_refl _) _) ?_); go_simp; done) | (simp only [frozen?_alloc_cells]; go_simp; done)
          have : w.heap.size < W0.heap.size := World.block_lt_of_cell? W0 ⟨w.heap.size, 0, none⟩ (by assumption)
          have kW0_137 : W0.cell? ⟨w.heap.size + 1, 0, none⟩ = some (.int .i64 (x')) := by rw [← hW]; clear hW; first | (go_simp; done) | ((repeat refine keepcell ((Below.refl _ _).alloc (Nat.le_refl _) _) ?_); go_simp; done) | (simp only [frozen?_alloc_cells]; go_simp; done)
          have zW0_137 : W0.frozen? ⟨w.heap.size + 1, 0, none⟩ = false := by rw [← hW]; clear hW; first | (go_simp; done) | ((repeat refine keepcell ((Below.refl _ _).alloc (Nat.le_refl _) _) ?_); go_simp; done) | (simp only [frozen?_alloc_cells]; go_simp; done)
          have kW0_138 : W0.cell? ⟨w.heap.size + 1, 1, none⟩ = some (.int .i64 (y')) := by rw [← hW]; clear hW; first | (go_simp; done) | ((repeat refine keepcell ((Below.refl _ _).alloc (Nat.le_refl _) _) ?_); go_simp; done) | (simp only [frozen?_alloc_cells]; go_simp; done)
          have zW0_138 : W0.frozen? ⟨w.heap.size + 1, 1, none⟩ = false := by rw [← hW]; clear hW; first | (go_simp; done) | ((repeat refine keepcell ((Below.refl _ _).alloc (Nat.le_refl _) _) ?_); go_simp; done) | (simp only [frozen?_alloc_cells]; go_simp; done)
          have : w.heap.size + 1 < W0.heap.size := World.block_lt_of_cell? W0 ⟨w.heap.size + 1, 0, none⟩ (by assumption)
          have kW0_139 : W0.cell? ⟨w.heap.size + 2, 0, none⟩ = some (.int .i64 (0)) := by rw [← hW]; clear hW; first | (go_simp; done) | ((repeat refine keepcell ((Below.refl _ _).alloc (Nat.le_refl _) _) ?_); go_simp; done) | (simp only [frozen?_alloc_cells]; go_simp; done)
          have zW0_139 : W0.frozen? ⟨w.heap.size + 2, 0, none⟩ = false := by rw [← hW]; clear hW; first | (go_simp; done) | ((repeat refine keepcell ((Below.refl _ _).alloc (Nat.le_refl _) _) ?_); go_simp; done) | (simp only [frozen?_alloc_cells]; go_simp; done)
          have kW0_140 : W0.cell? ⟨w.heap.size + 2, 1, none⟩ = some (.int .i64 (0)) := by rw [← hW]; clear hW; first | (go_simp; done) | ((repeat refine keepcell ((Below.refl _ _).alloc (Nat.le_refl _) _) ?_); go_simp; done) | (simp only [frozen?_alloc_cells]; go_simp; done)
          have zW0_140 : W0.frozen? ⟨w.heap.size + 2, 1, none⟩ = false := by rw [← hW]; clear hW; first | (go_simp; done) | ((repeat refine keepcell ((Below.refl _ _).alloc (Nat.le_refl _) _) ?_); go_simp; done) | (simp only [frozen?_alloc_cells]; go_simp; done)
          have : w.heap.size + 2 < W0.heap.size := World.block_lt_of_cell? W0 ⟨w.heap.size + 2, 0, none⟩ (by assumption)
          have kW0_141 : W0.cell? ⟨w.heap.size + 3, 0, none⟩ = some (.int .i64 (0)) := by rw [← hW]; clear hW; first | (go_simp; done) | ((repeat refine keepcell ((Below.refl _ _).alloc (Nat.le_refl _) _) ?_); go_simp; done) | (simp only [frozen?_alloc_cells]; go_simp; done)
          have kW0_142 : W0.cell? ⟨w.heap.size + 3, 1, none⟩ = some (.int .i64 (0)) := by rw [← hW]; clear hW; first | (go_simp; done) | ((repeat refine keepcell ((Below.refl _ _).alloc (Nat.le_refl _) _) ?_); go_simp; done) | (simp only [frozen?_alloc_cells]; go_simp; done)
          have : w.heap.size + 3 < W0.heap.size := World.block_lt_of_cell? W0 ⟨w.heap.size + 3, 0, none⟩ (by assumption)
          have hBW0 : Below w.heap.size w W0 := by rw [← hW]; (repeat' (first | assumption | exact Below.refl _ _ | apply Blw.alloc | apply Blw.drew | apply Blw.drewN | (refine Blw.after ?_ (by assumption)) | (refine Blw.set ?_ (by first | (dsimp only; omega) | (simp; done) | (simp; omega)) _)))
          have hsW0 := hBW0.size
          clear hW
          go_wp2_with (go_at_call 32; refine (sGaussSmall_c _ _ _).mono ?_; rintro e w1 ⟨rfl, hb⟩; have hk : Hld W0 w1 := heldM (by (repeat' (first | assumption | exact Below.refl _ _ | apply Blw.alloc | apply Blw.drew | apply Blw.drewN | (refine Blw.after ?_ (by assumption)) | (refine Blw.set ?_ (by first | (dsimp only; omega) | (simp; done) | (simp; omega)) _)))); have hk1 := hk.1)
          go_loopg [] (nrm x' y').toNat (fun k wr => GcdRel3 w x y x' y' k wr)
          case atStart => exact ⟨⟨x, y, x', y', HX.out, HY.out, rfl, nrm_toNat _ _, by (repeat' (first | assumption | exact Below.refl _ _ | apply Blw.alloc | apply Blw.drew | apply Blw.drewN | (refine Blw.after ?_ (by assumption)) | (refine Blw.set ?_ (by first | (dsimp only; omega) | (simp; done) | (simp; omega)) _))), by go_simp, by go_simp, by go_simp, by go_simp, by go_simp, by go_simp, by go_simp, by go_simp, by go_simp, by go_simp, by go_simp, by go_simp⟩, by go_simp, by go_simp⟩
          case round =>
            obtain ⟨⟨a, b, c, d, hab, hcd, hg, hk, hBw, a0, a1, a2, a3, b0, b1, b2, b3, r0, r1, r2, r3⟩, n0, n1⟩ := hrel
            have L3 : w.heap.size + 3 < wr.heap.size := World.block_lt_of_cell? wr _ n0
            have L2 : w.heap.size + 2 < wr.heap.size := by omega
            have L1 : w.heap.size + 1 < wr.heap.size := by omega
            have L0 : w.heap.size < wr.heap.size := by omega
            have Hg := Lib.hid hg
            have Hk := Lib.hid hk
            clear hg hk
            by_cases hz : c = 0 ∧ d = 0
            · obtain ⟨rfl, rfl⟩ := hz
              have He : gcdX x y x' y' = a ∧ gcdY x y x' y' = b := by
                unfold gcdX gcdY; rw [← Hg.out, gcdF_zero]; exact ⟨rfl, rfl⟩
              have HE := Lib.hid He
              clear He
              go_wp2_with (fail)
              refine (l1First_c _ _ _ hab).mono ?_
              rintro e wA ⟨rfl, hbwA⟩
              have hkwA : Hld wr wA := heldM (by (repeat' (first | assumption | exact Below.refl _ _ | apply Blw.alloc | apply Blw.drew | apply Blw.drewN | (refine Blw.after ?_ (by assumption)) | (refine Blw.set ?_ (by first | (dsimp only; omega) | (simp; done) | (simp; omega)) _))))
              have hlwA := hkwA.1
              have hswA := hkwA.2.2.2
              try (have : w.heap.size < wA.heap.size := by omega)
              try (have : w.heap.size + 1 < wA.heap.size := by omega)
              try (have : w.heap.size + 2 < wA.heap.size := by omega)
              try (have : w.heap.size + 3 < wA.heap.size := by omega)
              go_wp2_with fail
              exact bodyPost_ret (v := res2 true (firstX a b) (firstY a b)) (by simp [results, Try.results9, go_sem, sel_t, *]) rfl ⟨by rw [HB.out, HE.out.1, HE.out.2], by (repeat' (first | assumption | exact Below.refl _ _ | apply Blw.alloc | apply Blw.drew | apply Blw.drewN | (refine Blw.after ?_ (by assumption)) | (refine Blw.set ?_ (by first | (dsimp only; omega) | (simp; done) | (simp; omega)) _)))⟩
            · have hn := nrm_pos hz
              obtain ⟨k', hk1, hk2, hk3⟩ := gcdF_step (x := a) (y := b) hz Hk.out
              have HD := Lib.hid (rest_in (x := a) (y := b) hn hcd)
              have H1 := Lib.hid hk1
              have H2 := Lib.hid hk2
              have H3 := Lib.hid (hk3.trans Hg.out)
              have T : ¬ c = 0 ∨ (c = 0 ∧ ¬ d = 0) := by omega
              clear hz hk1 hk2 hk3
              rcases T with T | ⟨rfl, T⟩
              all_goals
                go_wp2_with (fail)
                refine (l1Divide_c _ _ _ _ _ hab hcd hn).mono ?_
                rintro e wA ⟨rfl, hbwA⟩
                have hkwA : Hld wr wA := heldM (by (repeat' (first | assumption | exact Below.refl _ _ | apply Blw.alloc | apply Blw.drew | apply Blw.drewN | (refine Blw.after ?_ (by assumption)) | (refine Blw.set ?_ (by first | (dsimp only; omega) | (simp; done) | (simp; omega)) _))))
                have hlwA := hkwA.1
                have hswA := hkwA.2.2.2
                try (have : w.heap.size < wA.heap.size := by omega)
                try (have : w.heap.size + 1 < wA.heap.size := by omega)
                try (have : w.heap.size + 2 < wA.heap.size := by omega)
                try (have : w.heap.size + 3 < wA.heap.size := by omega)
                go_wp2_with fail
                go_roundg k'
                case measure => exact H1.out
                case rel => exact ⟨⟨_, _, _, _, hcd, HD.out, H3.out, H2.out, by (repeat' (first | assumption | exact Below.refl _ _ | apply Blw.alloc | apply Blw.drew | apply Blw.drewN | (refine Blw.after ?_ (by assumption)) | (refine Blw.set ?_ (by first | (dsimp only; omega) | (simp; done) | (simp; omega)) _))), by go_simp, by go_simp, by go_simp, by go_simp, by go_simp, by go_simp, by go_simp, by go_simp, by go_simp, by go_simp, by go_simp, by go_simp⟩, by go_simp, by go_simp⟩
        · go_enter Try.func9, Try.ntmps9
          go_wp2_with fail
          generalize hW : World.alloc _ _ = W0
          have kW0_143 : W0.cell? ⟨w.heap.size, 0, none⟩ = some (.int .i64 (0)) := by rw [← hW]; clear hW; first | (go_simp; done) | ((repeat refine keepcell ((Below.refl _ _).alloc (Nat.le_refl _) _) ?_); go_simp; done) | (simp only [frozen?_alloc_cells]; go_simp; done)
          have zW0_143 : W0.frozen? ⟨w.heap.size, 0, none⟩ = false := by rw [← hW]; clear hW; first | (go_simp; done) | ((repeat refine keepcell ((Below.refl _ _).alloc (Nat.le_refl _) _) ?_); go_simp; done) | (simp only [frozen?_alloc_cells]; go_simp; done)
          have kW0_144 : W0.cell? ⟨w.heap.size, 1, none⟩ = some (.int .i64 (y)) := by rw [← hW]; clear hW; first | (go_simp; done) | ((repeat refine keepcell ((Below.refl _ _).alloc (Nat.le_refl _) _) ?_); go_simp; done) | (simp only [frozen?_alloc_cells]; go_simp; done)
          have zW0_144 : W0.frozen? ⟨w.heap.size, 1, none⟩ = false := by rw [← hW]; clear hW; first | (go_simp; done) | ((repeat refine keepcell ((Below.refl _ _).alloc (Nat.le_refl _) _) ?_); go_simp; done) | (simp only [frozen?_alloc_cells]; go_simp; done)
          have : w.heap.size < W0.heap.size := World.block_lt_of_cell? W0 ⟨w.heap.size, 0, none⟩ (by assumption)
          have kW0_145 : W0.cell? ⟨w.heap.size + 1, 0, none⟩ = some (.int .i64 (x')) := by rw [← hW]; clear hW; first | (go_simp; done) | ((repeat refine keepcell ((Below.refl _ _).alloc (Nat.le_refl _) _) ?_); go_simp; done) | (simp only [frozen?_alloc_cells]; go_simp; done)
          have zW0_145 : W0.frozen? ⟨w.heap.size + 1, 0, none⟩ = false := by rw [← hW]; clear hW; first | (go_simp; done) | ((repeat refine keepcell ((Below.refl _ _).alloc (Nat.le_refl _) _) ?_); go_simp; done) | (simp only [frozen?_alloc_cells]; go_simp; done)
          have kW0_146 : W0.cell? ⟨w.heap.size + 1, 1, none⟩ = some (.int .i64 (y')) := by rw [← hW]; clear hW; first | (go_simp; done) | ((repeat refine keepcell ((Below.refl _ _).alloc (Nat.le_refl _) _) ?_); go_simp; done) | (simp only [frozen?_alloc_cells]; go_simp; done)
          have zW0_146 : W0.frozen? ⟨w.heap.size + 1, 1, none⟩ = false := by rw [← hW]; clear hW; first | (go_simp; done) | ((repeat refine keepcell ((Below.refl _ _).alloc (Nat.le_refl _) _) ?_); go_simp; done) | (simp only [frozen?_alloc_cells]; go_simp; done)
          have : w.heap.size + 1 < W0.heap.size := World.block_lt_of_cell? W0 ⟨w.heap.size + 1, 0, none⟩ (by assumption)
          have kW0_147 : W0.cell? ⟨w.heap.size + 2, 0, none⟩ = some (.int .i64 (0)) := by rw [← hW]; clear hW; first | (go_simp; done) | ((repeat refine keepcell ((Below.refl _ _).alloc (Nat.le_refl _) _) ?_); go_simp; done) | (simp only [frozen?_alloc_cells]; go_simp; done)
          have zW0_147 : W0.frozen? ⟨w.heap.size + 2, 0, none⟩ = false := by rw [← hW]; clear hW; first | (go_simp; done) | ((repeat refine keepcell ((Below.refl _ _).alloc (Nat.le_refl _) _) ?_); go_simp; done) | (simp only [frozen?_alloc_cells]; go_simp; done)
          have kW0_148 : W0.cell? ⟨w.heap.size + 2, 1, none⟩ = some (.int .i64 (0)) := by rw [← hW]; clear hW; first | (go_simp; done) | ((repeat refine keepcell ((Below.refl _ _).alloc (Nat.le_refl _) _) ?_); go_simp; done) | (simp only [frozen?_alloc_cells]; go_simp; done)
          have zW0_148 : W0.frozen? ⟨w.heap.size + 2, 1, none⟩ = false := by rw [← hW]; clear hW; first | (go_simp; done) | ((repeat refine keepcell ((Below.refl _ _).alloc (Nat.le_refl _) _) ?_); go_simp; done) | (simp only [frozen?_alloc_cells]; go_simp; done)
          have : w.heap.size + 2 < W0.heap.size := World.block_lt_of_cell? W0 ⟨w.heap.size + 2, 0, none⟩ (by assumption)
          have kW0_149 : W0.cell? ⟨w.heap.size + 3, 0, none⟩ = some (.int .i64 (0)) := by rw [← hW]; clear hW; first | (go_simp; done) | ((repeat refine keepcell ((Below.refl _ _).alloc (Nat.le_refl _) _) ?_); go_simp; done) | (simp only [frozen?_alloc_cells]; go_simp; done)
          have kW0_150 : W0.cell? ⟨w.heap.size + 3, 1, none⟩ = some (.int .i64 (0)) := by rw [← hW]; clear hW; first | (go_simp; done) | ((repeat refine keepcell ((Below.refl _ _).alloc (Nat.le_refl _) _) ?_); go_simp; done) | (simp only [frozen?_alloc_cells]; go_simp; done)
          have : w.heap.size + 3 < W0.heap.size := World.block_lt_of_cell? W0 ⟨w.heap.size + 3, 0, none⟩ (by assumption)
          have hBW0 : Below w.heap.size w W0 := by rw [← hW]; (repeat' (first | assumption | exact Below.refl _ _ | apply Blw.alloc | apply Blw.drew | apply Blw.drewN | (refine Blw.after ?_ (by assumption)) | (refine Blw.set ?_ (by first | (dsimp only; omega) | (simp; done) | (simp; omega)) _)))
          have hsW0 := hBW0.size
          clear hW
          go_wp2_with (go_at_call 32; refine (sGaussSmall_c _ _ _).mono ?_; rintro e w1 ⟨rfl, hb⟩; have hk : Hld W0 w1 := heldM (by (repeat' (first | assumption | exact Below.refl _ _ | apply Blw.alloc | apply Blw.drew | apply Blw.drewN | (refine Blw.after ?_ (by assumption)) | (refine Blw.set ?_ (by first | (dsimp only; omega) | (simp; done) | (simp; omega)) _)))); have hk1 := hk.1)
          go_loopg [] (nrm x' y').toNat (fun k wr => GcdRel3 w 0 y x' y' k wr)
          case atStart => exact ⟨⟨0, y, x', y', HX.out, HY.out, rfl, nrm_toNat _ _, by (repeat' (first | assumption | exact Below.refl _ _ | apply Blw.alloc | apply Blw.drew | apply Blw.drewN | (refine Blw.after ?_ (by assumption)) | (refine Blw.set ?_ (by first | (dsimp only; omega) | (simp; done) | (simp; omega)) _))), by go_simp, by go_simp, by go_simp, by go_simp, by go_simp, by go_simp, by go_simp, by go_simp, by go_simp, by go_simp, by go_simp, by go_simp⟩, by go_simp, by go_simp⟩
          case round =>
            obtain ⟨⟨a, b, c, d, hab, hcd, hg, hk, hBw, a0, a1, a2, a3, b0, b1, b2, b3, r0, r1, r2, r3⟩, n0, n1⟩ := hrel
            have L3 : w.heap.size + 3 < wr.heap.size := World.block_lt_of_cell? wr _ n0
            have L2 : w.heap.size + 2 < wr.heap.size := by omega
            have L1 : w.heap.size + 1 < wr.heap.size := by omega
            have L0 : w.heap.size < wr.heap.size := by omega
            have Hg := Lib.hid hg
            have Hk := Lib.hid hk
            clear hg hk
            by_cases hz : c = 0 ∧ d = 0
            · obtain ⟨rfl, rfl⟩ := hz
              have He : gcdX 0 y x' y' = a ∧ gcdY 0 y x' y' = b := by
                unfold gcdX gcdY; rw [← Hg.out, gcdF_zero]; exact ⟨rfl, rfl⟩
              have HE := Lib.hid He
              clear He
              go_wp2_with (fail)
              refine (l1First_c _ _ _ hab).mono ?_
              rintro e wA ⟨rfl, hbwA⟩
              have hkwA : Hld wr wA := heldM (by (repeat' (first | assumption | exact Below.refl _ _ | apply Blw.alloc | apply Blw.drew | apply Blw.drewN | (refine Blw.after ?_ (by assumption)) | (refine Blw.set ?_ (by first | (dsimp only; omega) | (simp; done) | (simp; omega)) _))))
              have hlwA := hkwA.1
              have hswA := hkwA.2.2.2
              try (have : w.heap.size < wA.heap.size := by omega)
              try (have : w.heap.size + 1 < wA.heap.size := by omega)
              try (have : w.heap.size + 2 < wA.heap.size := by omega)
              try (have : w.heap.size + 3 < wA.heap.size := by omega)
              go_wp2_with fail
              exact bodyPost_ret (v := res2 true (firstX a b) (firstY a b)) (by simp [results, Try.results9, go_sem, sel_t, *]) rfl ⟨by rw [HB.out, HE.out.1, HE.out.2], by (repeat' (first | assumption | exact Below.refl _ _ | apply Blw.alloc | apply Blw.drew | apply Blw.drewN | (refine Blw.after ?_ (by assumption)) | (refine Blw.set ?_ (by first | (dsimp only; omega) | (simp; done) | (simp; omega)) _)))⟩
            · have hn := nrm_pos hz
              obtain ⟨k', hk1, hk2, hk3⟩ := gcdF_step (x := a) (y := b) hz Hk.out
              have HD := Lib.hid (rest_in (x := a) (y := b) hn hcd)
              have H1 := Lib.hid hk1
              have H2 := Lib.hid hk2
              have H3 := Lib.hid (hk3.trans Hg.out)
              have T : ¬ c = 0 ∨ (c = 0 ∧ ¬ d = 0) := by omega
              clear hz hk1 hk2 hk3
              rcases T with T | ⟨rfl, T⟩
              all_goals
                go_wp2_with (fail)
                refine (l1Divide_c _ _ _ _ _ hab hcd hn).mono ?_
                rintro e wA ⟨rfl, hbwA⟩
                have hkwA : Hld wr wA := heldM (by (repeat' (first | assumption | exact Below.refl _ _ | apply Blw.alloc | apply Blw.drew | apply Blw.drewN | (refine Blw.after ?_ (by assumption)) | (refine Blw.set ?_ (by first | (dsimp only; omega) | (simp; done) | (simp; omega)) _))))
                have hlwA := hkwA.1
                have hswA := hkwA.2.2.2
                try (have : w.heap.size < wA.heap.size := by omega)
                try (have : w.heap.size + 1 < wA.heap.size := by omega)
                try (have : w.heap.size + 2 < wA.heap.size := by omega)
                try (have : w.heap.size + 3 < wA.heap.size := by omega)
                go_wp2_with fail
                go_roundg k'
                case measure => exact H1.out
                case rel => exact ⟨⟨_, _, _, _, hcd, HD.out, H3.out, H2.out, by (repeat' (first | assumption | exact Below.refl _ _ | apply Blw.alloc | apply Blw.drew | apply Blw.drewN | (refine Blw.after ?_ (by assumption)) | (refine Blw.set ?_ (by first | (dsimp only; omega) | (simp; done) | (simp; omega)) _))), by go_simp, by go_simp, by go_simp, by go_simp, by go_simp, by go_simp, by go_simp, by go_simp, by go_simp, by go_simp, by go_simp, by go_simp⟩, by go_simp, by go_simp⟩
        · go_enter Try.func9, Try.ntmps9
          go_wp2_with fail
          generalize hW : World.alloc _ _ = W0
          have kW0_151 : W0.cell? ⟨w.heap.size, 0, none⟩ = some (.int .i64 (0)) := by rw [← hW]; clear hW; first | (go_simp; done) | ((repeat refine keepcell ((Below.refl _ _).alloc (Nat.le_refl _) _) ?_); go_simp; done) | (simp only [frozen?_alloc_cells]; go_simp; done)
          have zW0_151 : W0.frozen? ⟨w.heap.size, 0, none⟩ = false := by rw [← hW]; clear hW; first | (go_simp; done) | ((repeat refine keepcell ((Below.refl _ _).alloc (Nat.le_refl _) _) ?_); go_simp; done) | (simp only [frozen?_alloc_cells]; go_simp; done)
          have kW0_152 : W0.cell? ⟨w.heap.size, 1, none⟩ = some (.int .i64 (0)) := by rw [← hW]; clear hW; first | (go_simp; done) | ((repeat refine keepcell ((Below.refl _ _).alloc (Nat.le_refl _) _) ?_); go_simp; done) | (simp only [frozen?_alloc_cells]; go_simp; done)
          have zW0_152 : W0.frozen? ⟨w.heap.size, 1, none⟩ = false := by rw [← hW]; clear hW; first | (go_simp; done) | ((repeat refine keepcell ((Below.refl _ _).alloc (Nat.le_refl _) _) ?_); go_simp; done) | (simp only [frozen?_alloc_cells]; go_simp; done)
          have : w.heap.size < W0.heap.size := World.block_lt_of_cell? W0 ⟨w.heap.size, 0, none⟩ (by assumption)
          have kW0_153 : W0.cell? ⟨w.heap.size + 1, 0, none⟩ = some (.int .i64 (x')) := by rw [← hW]; clear hW; first | (go_simp; done) | ((repeat refine keepcell ((Below.refl _ _).alloc (Nat.le_refl _) _) ?_); go_simp; done) | (simp only [frozen?_alloc_cells]; go_simp; done)
          have zW0_153 : W0.frozen? ⟨w.heap.size + 1, 0, none⟩ = false := by rw [← hW]; clear hW; first | (go_simp; done) | ((repeat refine keepcell ((Below.refl _ _).alloc (Nat.le_refl _) _) ?_); go_simp; done) | (simp only [frozen?_alloc_cells]; go_simp; done)
          have kW0_154 : W0.cell? ⟨w.heap.size + 1, 1, none⟩ = some (.int .i64 (y')) := by rw [← hW]; clear hW; first | (go_simp; done) | ((repeat refine keepcell ((Below.refl _ _).alloc (Nat.le_refl _) _) ?_); go_simp; done) | (simp only [frozen?_alloc_cells]; go_simp; done)
          have zW0_154 : W0.frozen? ⟨w.heap.size + 1, 1, none⟩ = false := by rw [← hW]; clear hW; first | (go_simp; done) | ((repeat refine keepcell ((Below.refl _ _).alloc (Nat.le_refl _) _) ?_); go_simp; done) | (simp only [frozen?_alloc_cells]; go_simp; done)
          have : w.heap.size + 1 < W0.heap.size := World.block_lt_of_cell? W0 ⟨w.heap.size + 1, 0, none⟩ (by assumption)
          have kW0_155 : W0.cell? ⟨w.heap.size + 2, 0, none⟩ = some (.int .i64 (0)) := by rw [← hW]; clear hW; first | (go_simp; done) | ((repeat refine keepcell ((Below.refl _ _).alloc (Nat.le_refl _) _) ?_); go_simp; done) | (simp only [frozen?_alloc_cells]; go_simp; done)
          have zW0_155 : W0.frozen? ⟨w.heap.size + 2, 0, none⟩ = false := by rw [← hW]; clear hW; first | (go_simp; done) | ((repeat refine keepcell ((Below.refl _ _).alloc (Nat.le_refl _) _) ?_); go_simp; done) | (simp only [frozen?_alloc_cells]; go_simp; done)
          have kW0_156 : W0.cell? ⟨w.heap.size + 2, 1, none⟩ = some (.int .i64 (0)) := by rw [← hW]; clear hW; first | (go_simp; done) | ((repeat refine keepcell ((Below.refl _ _).alloc (Nat.le_refl _) _) ?_); go_simp; done) | (simp only [frozen?_alloc_cells]; go_simp; done)
          have zW0_156 : W0.frozen? ⟨w.heap.size + 2, 1, none⟩ = false := by rw [← hW]; clear hW; first | (go_simp; done) | ((repeat refine keepcell ((Below.refl _ _).alloc (Nat.le_refl _) _) ?_); go_simp; done) | (simp only [frozen?_alloc_cells]; go_simp; done)
          have : w.heap.size + 2 < W0.heap.size := World.block_lt_of_cell? W0 ⟨w.heap.size + 2, 0, none⟩ (by assumption)
          have kW0_157 : W0.cell? ⟨w.heap.size + 3, 0, none⟩ = some (.int .i64 (0)) := by rw [← hW]; clear hW; first | (go_simp; done) | ((repeat refine keepcell ((Below.refl _ _).alloc (Nat.le_refl _) _) ?_); go_simp; done) | (simp only [frozen?_alloc_cells]; go_simp; done)
          have kW0_158 : W0.cell? ⟨w.heap.size + 3, 1, none⟩ = some (.int .i64 (0)) := by rw [← hW]; clear hW; first | (go_simp; done) | ((repeat refine keepcell ((Below.refl _ _).alloc (Nat.le_refl _) _) ?_); go_simp; done) | (simp only [frozen?_alloc_cells]; go_simp; done)
          have : w.heap.size + 3 < W0.heap.size := World.block_lt_of_cell? W0 ⟨w.heap.size + 3, 0, none⟩ (by assumption)
          have hBW0 : Below w.heap.size w W0 := by rw [← hW]; (repeat' (first | assumption | exact Below.refl _ _ | apply Blw.alloc | apply Blw.drew | apply Blw.drewN | (refine Blw.after ?_ (by assumption)) | (refine Blw.set ?_ (by first | (dsimp only; omega) | (simp; done) | (simp; omega)) _)))
          have hsW0 := hBW0.size
          clear hW
          go_wp2_with (go_at_call 32; refine (sGaussSmall_c _ _ _).mono ?_; rintro e w1 ⟨rfl, hb⟩; have hk : Hld W0 w1 := heldM (by (repeat' (first | assumption | exact Below.refl _ _ | apply Blw.alloc | apply Blw.drew | apply Blw.drewN | (refine Blw.after ?_ (by assumption)) | (refine Blw.set ?_ (by first | (dsimp only; omega) | (simp; done) | (simp; omega)) _)))); have hk1 := hk.1)
          go_loopg [] (nrm x' y').toNat (fun k wr => GcdRel3 w 0 0 x' y' k wr)
          case atStart => exact ⟨⟨0, 0, x', y', HX.out, HY.out, rfl, nrm_toNat _ _, by (repeat' (first | assumption | exact Below.refl _ _ | apply Blw.alloc | apply Blw.drew | apply Blw.drewN | (refine Blw.after ?_ (by assumption)) | (refine Blw.set ?_ (by first | (dsimp only; omega) | (simp; done) | (simp; omega)) _))), by go_simp, by go_simp, by go_simp, by go_simp, by go_simp, by go_simp, by go_simp, by go_simp, by go_simp, by go_simp, by go_simp, by go_simp⟩, by go_simp, by go_simp⟩
          case round =>
            obtain ⟨⟨a, b, c, d, hab, hcd, hg, hk, hBw, a0, a1, a2, a3, b0, b1, b2, b3, r0, r1, r2, r3⟩, n0, n1⟩ := hrel
            have L3 : w.heap.size + 3 < wr.heap.size := World.block_lt_of_cell? wr _ n0
            have L2 : w.heap.size + 2 < wr.heap.size := by omega
            have L1 : w.heap.size + 1 < wr.heap.size := by omega
            have L0 : w.heap.size < wr.heap.size := by omega
            have Hg := Lib.hid hg
            have Hk := Lib.hid hk
            clear hg hk
            by_cases hz : c = 0 ∧ d = 0
            · obtain ⟨rfl, rfl⟩ := hz
              have He : gcdX 0 0 x' y' = a ∧ gcdY 0 0 x' y' = b := by
                unfold gcdX gcdY; rw [← Hg.out, gcdF_zero]; exact ⟨rfl, rfl⟩
              have HE := Lib.hid He
              clear He
              go_wp2_with (fail)
              refine (l1First_c _ _ _ hab).mono ?_
              rintro e wA ⟨rfl, hbwA⟩
              have hkwA : Hld wr wA := heldM (by (repeat' (first | assumption | exact Below.refl _ _ | apply Blw.alloc | apply Blw.drew | apply Blw.drewN | (refine Blw.after ?_ (by assumption)) | (refine Blw.set ?_ (by first | (dsimp only; omega) | (simp; done) | (simp; omega)) _))))
              have hlwA := hkwA.1
              have hswA := hkwA.2.2.2
              try (have : w.heap.size < wA.heap.size := by omega)
              try (have : w.heap.size + 1 < wA.heap.size := by omega)
              try (have : w.heap.size + 2 < wA.heap.size := by omega)
              try (have : w.heap.size + 3 < wA.heap.size := by omega)
              go_wp2_with fail
              exact bodyPost_ret (v := res2 true (firstX a b) (firstY a b)) (by simp [results, Try.results9, go_sem, sel_t, *]) rfl ⟨by rw [HB.out, HE.out.1, HE.out.2], by (repeat' (first | assumption | exact Below.refl _ _ | apply Blw.alloc | apply Blw.drew | apply Blw.drewN | (refine Blw.after ?_ (by assumption)) | (refine Blw.set ?_ (by first | (dsimp only; omega) | (simp; done) | (simp; omega)) _)))⟩
            · have hn := nrm_pos hz
              obtain ⟨k', hk1, hk2, hk3⟩ := gcdF_step (x := a) (y := b) hz Hk.out
              have HD := Lib.hid (rest_in (x := a) (y := b) hn hcd)
              have H1 := Lib.hid hk1
              have H2 := Lib.hid hk2
              have H3 := Lib.hid (hk3.trans Hg.out)
              have T : ¬ c = 0 ∨ (c = 0 ∧ ¬ d = 0) := by omega
              clear hz hk1 hk2 hk3
              rcases T with T | ⟨rfl, T⟩
              all_goals
                go_wp2_with (fail)
                refine (l1Divide_c _ _ _ _ _ hab hcd hn).mono ?_
                rintro e wA ⟨rfl, hbwA⟩
                have hkwA : Hld wr wA := heldM (by (repeat' (first | assumption | exact Below.refl _ _ | apply Blw.alloc | apply Blw.drew | apply Blw.drewN | (refine Blw.after ?_ (by assumption)) | (refine Blw.set ?_ (by first | (dsimp only; omega) | (simp; done) | (simp; omega)) _))))
                have hlwA := hkwA.1
                have hswA := hkwA.2.2.2
                try (have : w.heap.size < wA.heap.size := by omega)
                try (have : w.heap.size + 1 < wA.heap.size := by omega)
                try (have : w.heap.size + 2 < wA.heap.size := by omega)
                try (have : w.heap.size + 3 < wA.heap.size := by omega)
                go_wp2_with fail
                go_roundg k'
                case measure => exact H1.out
                case rel => exact ⟨⟨_, _, _, _, hcd, HD.out, H3.out, H2.out, by (repeat' (first | assumption | exact Below.refl _ _ | apply Blw.alloc | apply Blw.drew | apply Blw.drewN | (refine Blw.after ?_ (by assumption)) | (refine Blw.set ?_ (by first | (dsimp only; omega) | (simp; done) | (simp; omega)) _))), by go_simp, by go_simp, by go_simp, by go_simp, by go_simp, by go_simp, by go_simp, by go_simp, by go_simp, by go_simp, by go_simp, by go_simp⟩, by go_simp, by go_simp⟩
        · go_enter Try.func9, Try.ntmps9
          go_wp2_with fail
          generalize hW : World.alloc _ _ = W0
          have kW0_159 : W0.cell? ⟨w.heap.size, 0, none⟩ = some (.int .i64 (0)) := by rw [← hW]; clear hW; first | (go_simp; done) | ((repeat refine keepcell ((Below.refl _ _).alloc (Nat.le_refl _) _) ?_); go_simp; done) | (simp only [frozen?_alloc_cells]; go_simp; done)
          have zW0_159 : W0.frozen? ⟨w.heap.size, 0, none⟩ = false := by rw [← hW]; clear hW; first | (go_simp; done) | ((repeat refine keepcell ((Below.refl _ _).alloc (Nat.le_refl _) _) ?_); go_simp; done) | (simp only [frozen?_alloc_cells]; go_simp; done)
          have kW0_160 : W0.cell? ⟨w.heap.size, 1, none⟩ = some (.int .i64 (0)) := by rw [← hW]; clear hW; first | (go_simp; done) | ((repeat refine keepcell ((Below.refl _ _).alloc (Nat.le_refl _) _) ?_); go_simp; done) | (simp only [frozen?_alloc_cells]; go_simp; done)
          have zW0_160 : W0.frozen? ⟨w.heap.size, 1, none⟩ = false := by rw [← hW]; clear hW; first | (go_simp; done) | ((repeat refine keepcell ((Below.refl _ _).alloc (Nat.le_refl _) _) ?_); go_simp; done) | (simp only [frozen?_alloc_cells]; go_simp; done)
          have : w.heap.size < W0.heap.size := World.block_lt_of_cell? W0 ⟨w.heap.size, 0, none⟩ (by assumption)
          have kW0_161 : W0.cell? ⟨w.heap.size + 1, 0, none⟩ = some (.int .i64 (0)) := by rw [← hW]; clear hW; first | (go_simp; done) | ((repeat refine keepcell ((Below.refl _ _).alloc (Nat.le_refl _) _) ?_); go_simp; done) | (simp only [frozen?_alloc_cells]; go_simp; done)
          have zW0_161 : W0.frozen? ⟨w.heap.size + 1, 0, none⟩ = false := by rw [← hW]; clear hW; first | (go_simp; done) | ((repeat refine keepcell ((Below.refl _ _).alloc (Nat.le_refl _) _) ?_); go_simp; done) | (simp only [frozen?_alloc_cells]; go_simp; done)
          have kW0_162 : W0.cell? ⟨w.heap.size + 1, 1, none⟩ = some (.int .i64 (y')) := by rw [← hW]; clear hW; first | (go_simp; done) | ((repeat refine keepcell ((Below.refl _ _).alloc (Nat.le_refl _) _) ?_); go_simp; done) | (simp only [frozen?_alloc_cells]; go_simp; done)
          have zW0_162 : W0.frozen? ⟨w.heap.size + 1, 1, none⟩ = false := by rw [← hW]; clear hW; first | (go_simp; done) | ((repeat refine keepcell ((Below.refl _ _).alloc (Nat.le_refl _) _) ?_); go_simp; done) | (simp only [frozen?_alloc_cells]; go_simp; done)
          have : w.heap.size + 1 < W0.heap.size := World.block_lt_of_cell? W0 ⟨w.heap.size + 1, 0, none⟩ (by assumption)
          have kW0_163 : W0.cell? ⟨w.heap.size + 2, 0, none⟩ = some (.int .i64 (0)) := by rw [← hW]; clear hW; first | (go_simp; done) | ((repeat refine keepcell ((Below.refl _ _).alloc (Nat.le_refl _) _) ?_); go_simp; done) | (simp only [frozen?_alloc_cells]; go_simp; done)
          have zW0_163 : W0.frozen? ⟨w.heap.size + 2, 0, none⟩ = false := by rw [← hW]; clear hW; first | (go_simp; done) | ((repeat refine keepcell ((Below.refl _ _).alloc (Nat.le_refl _) _) ?_); go_simp; done) | (simp only [frozen?_alloc_cells]; go_simp; done)
          have kW0_164 : W0.cell? ⟨w.heap.size + 2, 1, none⟩ = some (.int .i64 (0)) := by rw [← hW]; clear hW; first | (go_simp; done) | ((repeat refine keepcell ((Below.refl _ _).alloc (Nat.le_refl _) _) ?_); go_simp; done) | (simp only [frozen?_alloc_cells]; go_simp; done)
          have zW0_164 : W0.frozen? ⟨w.heap.size + 2, 1, none⟩ = false := by rw [← hW]; clear hW; first | (go_simp; done) | ((repeat refine keepcell ((Below.refl _ _).alloc (Nat.le_refl _) _) ?_); go_simp; done) | (simp only [frozen?_alloc_cells]; go_simp; done)
          have : w.heap.size + 2 < W0.heap.size := World.block_lt_of_cell? W0 ⟨w.heap.size + 2, 0, none⟩ (by assumption)
          have kW0_165 : W0.cell? ⟨w.heap.size + 3, 0, none⟩ = some (.int .i64 (0)) := by rw [← hW]; clear hW; first | (go_simp; done) | ((repeat refine keepcell ((Below.refl _ _).alloc (Nat.le_refl _) _) ?_); go_simp; done) | (simp only [frozen?_alloc_cells]; go_simp; done)
          have kW0_166 : W0.cell? ⟨w.heap.size + 3, 1, none⟩ = some (.int .i64 (0)) := by rw [← hW]; clear hW; first | (go_simp; done) | ((repeat refine keepcell ((Below.refl _ _).alloc (Nat.le_refl _) _) ?_); go_simp; done) | (simp only [frozen?_alloc_cells]; go_simp; done)
          have : w.heap.size + 3 < W0.heap.size := World.block_lt_of_cell? W0 ⟨w.heap.size + 3, 0, none⟩ (by assumption)
          have hBW0 : Below w.heap.size w W0 := by rw [← hW]; (repeat' (first | assumption | exact Below.refl _ _ | apply Blw.alloc | apply Blw.drew | apply Blw.drewN | (refine Blw.after ?_ (by assumption)) | (refine Blw.set ?_ (by first | (dsimp only; omega) | (simp; done) | (simp; omega)) _)))
          have hsW0 := hBW0.size
          clear hW
          go_wp2_with (go_at_call 32; refine (sGaussSmall_c _ _ _).mono ?_; rintro e w1 ⟨rfl, hb⟩; have hk : Hld W0 w1 := heldM (by (repeat' (first | assumption | exact Below.refl _ _ | apply Blw.alloc | apply Blw.drew | apply Blw.drewN | (refine Blw.after ?_ (by assumption)) | (refine Blw.set ?_ (by first | (dsimp only; omega) | (simp; done) | (simp; omega)) _)))); have hk1 := hk.1)
          go_loopg [] (nrm 0 y').toNat (fun k wr => GcdRel3 w 0 0 0 y' k wr)
          case atStart => exact ⟨⟨0, 0, 0, y', HX.out, HY.out, rfl, nrm_toNat _ _, by (repeat' (first | assumption | exact Below.refl _ _ | apply Blw.alloc | apply Blw.drew | apply Blw.drewN | (refine Blw.after ?_ (by assumption)) | (refine Blw.set ?_ (by first | (dsimp only; omega) | (simp; done) | (simp; omega)) _))), by go_simp, by go_simp, by go_simp, by go_simp, by go_simp, by go_simp, by go_simp, by go_simp, by go_simp, by go_simp, by go_simp, by go_simp⟩, by go_simp, by go_simp⟩
          case round =>
            obtain ⟨⟨a, b, c, d, hab, hcd, hg, hk, hBw, a0, a1, a2, a3, b0, b1, b2, b3, r0, r1, r2, r3⟩, n0, n1⟩ := hrel
            have L3 : w.heap.size + 3 < wr.heap.size := World.block_lt_of_cell? wr _ n0
            have L2 : w.heap.size + 2 < wr.heap.size := by omega
            have L1 : w.heap.size + 1 < wr.heap.size := by omega
            have L0 : w.heap.size < wr.heap.size := by omega
            have Hg := Lib.hid hg
            have Hk := Lib.hid hk
            clear hg hk
            by_cases hz : c = 0 ∧ d = 0
            · obtain ⟨rfl, rfl⟩ := hz
              have He : gcdX 0 0 0 y' = a ∧ gcdY 0 0 0 y' = b := by
                unfold gcdX gcdY; rw [← Hg.out, gcdF_zero]; exact ⟨rfl, rfl⟩
              have HE := Lib.hid He
              clear He
              go_wp2_with (fail)
              refine (l1First_c _ _ _ hab).mono ?_
              rintro e wA ⟨rfl, hbwA⟩
              have hkwA : Hld wr wA := heldM (by (repeat' (first | assumption | exact Below.refl _ _ | apply Blw.alloc | apply Blw.drew | apply Blw.drewN | (refine Blw.after ?_ (by assumption)) | (refine Blw.set ?_ (by first | (dsimp only; omega) | (simp; done) | (simp; omega)) _))))
              have hlwA := hkwA.1
              have hswA := hkwA.2.2.2
              try (have : w.heap.size < wA.heap.size := by omega)
              try (have : w.heap.size + 1 < wA.heap.size := by omega)
              try (have : w.heap.size + 2 < wA.heap.size := by omega)
              try (have : w.heap.size + 3 < wA.heap.size := by omega)
              go_wp2_with fail
              exact bodyPost_ret (v := res2 true (firstX a b) (firstY a b)) (by simp [results, Try.results9, go_sem, sel_t, *]) rfl ⟨by rw [HB.out, HE.out.1, HE.out.2], by (repeat' (first | assumption | exact Below.refl _ _ | apply Blw.alloc | apply Blw.drew | apply Blw.drewN | (refine Blw.after ?_ (by assumption)) | (refine Blw.set ?_ (by first | (dsimp only; omega) | (simp; done) | (simp; omega)) _)))⟩
            · have hn := nrm_pos hz
              obtain ⟨k', hk1, hk2, hk3⟩ := gcdF_step (x := a) (y := b) hz Hk.out
              have HD := Lib.hid (rest_in (x := a) (y := b) hn hcd)
              have H1 := Lib.hid hk1
              have H2 := Lib.hid hk2
              have H3 := Lib.hid (hk3.trans Hg.out)
              have T : ¬ c = 0 ∨ (c = 0 ∧ ¬ d = 0) := by omega
              clear hz hk1 hk2 hk3
              rcases T with T | ⟨rfl, T⟩
              all_goals
                go_wp2_with (fail)
                refine (l1Divide_c _ _ _ _ _ hab hcd hn).mono ?_
                rintro e wA ⟨rfl, hbwA⟩
                have hkwA : Hld wr wA := heldM (by (repeat' (first | assumption | exact Below.refl _ _ | apply Blw.alloc | apply Blw.drew | apply Blw.drewN | (refine Blw.after ?_ (by assumption)) | (refine Blw.set ?_ (by first | (dsimp only; omega) | (simp; done) | (simp; omega)) _))))
                have hlwA := hkwA.1
                have hswA := hkwA.2.2.2
                try (have : w.heap.size < wA.heap.size := by omega)
                try (have : w.heap.size + 1 < wA.heap.size := by omega)
                try (have : w.heap.size + 2 < wA.heap.size := by omega)
                try (have : w.heap.size + 3 < wA.heap.size := by omega)
                go_wp2_with fail
                go_roundg k'
                case measure => exact H1.out
                case rel => exact ⟨⟨_, _, _, _, hcd, HD.out, H3.out, H2.out, by (repeat' (first | assumption | exact Below.refl _ _ | apply Blw.alloc | apply Blw.drew | apply Blw.drewN | (refine Blw.after ?_ (by assumption)) | (refine Blw.set ?_ (by first | (dsimp only; omega) | (simp; done) | (simp; omega)) _))), by go_simp, by go_simp, by go_simp, by go_simp, by go_simp, by go_simp, by go_simp, by go_simp, by go_simp, by go_simp, by go_simp, by go_simp⟩, by go_simp, by go_simp⟩
    · go_enter Try.func9, Try.ntmps9
      go_wp2_with fail
      generalize hW : World.alloc _ _ = W0
      have kW0_167 : W0.cell? ⟨w.heap.size, 0, none⟩ = some (.int .i64 (x)) := by rw [← hW]; clear hW; first | (go_simp; done) | ((repeat refine keepcell ((Below.refl _ _).alloc (Nat.le_refl _) _) ?_); go_simp; done) | (simp only [frozen?_alloc_cells]; go_simp; done)
      have zW0_167 : W0.frozen? ⟨w.heap.size, 0, none⟩ = false := by rw [← hW]; clear hW; first | (go_simp; done) | ((repeat refine keepcell ((Below.refl _ _).alloc (Nat.le_refl _) _) ?_); go_simp; done) | (simp only [frozen?_alloc_cells]; go_simp; done)
      have kW0_168 : W0.cell? ⟨w.heap.size, 1, none⟩ = some (.int .i64 (y)) := by rw [← hW]; clear hW; first | (go_simp; done) | ((repeat refine keepcell ((Below.refl _ _).alloc (Nat.le_refl _) _) ?_); go_simp; done) | (simp only [frozen?_alloc_cells]; go_simp; done)
      have zW0_168 : W0.frozen? ⟨w.heap.size, 1, none⟩ = false := by rw [← hW]; clear hW; first | (go_simp; done) | ((repeat refine keepcell ((Below.refl _ _).alloc (Nat.le_refl _) _) ?_); go_simp; done) | (simp only [frozen?_alloc_cells]; go_simp; done)
      have : w.heap.size < W0.heap.size := World.block_lt_of_cell? W0 ⟨w.heap.size, 0, none⟩ (by assumption)
      have kW0_169 : W0.cell? ⟨w.heap.size + 1, 0, none⟩ = some (.int .i64 (x')) := by rw [← hW]; clear hW; first | (go_simp; done) | ((repeat refine keepcell ((Below.refl _ _).alloc (Nat.le_refl _) _) ?_); go_simp; done) | (simp only [frozen?_alloc_cells]; go_simp; done)
      have zW0_169 : W0.frozen? ⟨w.heap.size + 1, 0, none⟩ = false := by rw [← hW]; clear hW; first | (go_simp; done) | ((repeat refine keepcell ((Below.refl _ _).alloc (Nat.le_refl _) _) ?_); go_simp; done) | (simp only [frozen?_alloc_cells]; go_simp; done)
      have kW0_170 : W0.cell? ⟨w.heap.size + 1, 1, none⟩ = some (.int .i64 (y')) := by rw [← hW]; clear hW; first | (go_simp; done) | ((repeat refine keepcell ((Below.refl _ _).alloc (Nat.le_refl _) _) ?_); go_simp; done) | (simp only [frozen?_alloc_cells]; go_simp; done)
      have zW0_170 : W0.frozen? ⟨w.heap.size + 1, 1, none⟩ = false := by rw [← hW]; clear hW; first | (go_simp; done) | ((repeat refine keepcell ((Below.refl _ _).alloc (Nat.le_refl _) _) ?_); go_simp; done) | (simp only [frozen?_alloc_cells]; go_simp; done)
      have : w.heap.size + 1 < W0.heap.size := World.block_lt_of_cell? W0 ⟨w.heap.size + 1, 0, none⟩ (by assumption)
      have kW0_171 : W0.cell? ⟨w.heap.size + 2, 0, none⟩ = some (.int .i64 (0)) := by rw [← hW]; clear hW; first | (go_simp; done) | ((repeat refine keepcell ((Below.refl _ _).alloc (Nat.le_refl _) _) ?_); go_simp; done) | (simp only [frozen?_alloc_cells]; go_simp; done)
      have zW0_171 : W0.frozen? ⟨w.heap.size + 2, 0, none⟩ = false := by rw [← hW]; clear hW; first | (go_simp; done) | ((repeat refine keepcell ((Below.refl _ _).alloc (Nat.le_refl _) _) ?_); go_simp; done) | (simp only [frozen?_alloc_cells]; go_simp; done)
      have kW0_172 : W0.cell? ⟨w.heap.size + 2, 1, none⟩ = some (.int .i64 (0)) := by rw [← hW]; clear hW; first | (go_simp; done) | ((repeat refine keepcell ((Below.refl _ _).alloc (Nat.le_refl _) _) ?_); go_simp; done) | (simp only [frozen?_alloc_cells]; go_simp; done)
      have zW0_172 : W0.frozen? ⟨w.heap.size + 2, 1, none⟩ = false := by rw [← hW]; clear hW; first | (go_simp; done) | ((repeat refine keepcell ((Below.refl _ _).alloc (Nat.le_refl _) _) ?_); go_simp; done) | (simp only [frozen?_alloc_cells]; go_simp; done)
      have : w.heap.size + 2 < W0.heap.size := World.block_lt_of_cell? W0 ⟨w.heap.size + 2, 0, none⟩ (by assumption)
      have kW0_173 : W0.cell? ⟨w.heap.size + 3, 0, none⟩ = some (.int .i64 (0)) := by rw [← hW]; clear hW; first | (go_simp; done) | ((repeat refine keepcell ((Below.refl _ _).alloc (Nat.le_refl _) _) ?_); go_simp; done) | (simp only [frozen?_alloc_cells]; go_simp; done)
      have kW0_174 : W0.cell? ⟨w.heap.size + 3, 1, none⟩ = some (.int .i64 (0)) := by rw [← hW]; clear hW; first | (go_simp; done) | ((repeat refine keepcell ((Below.refl _ _).alloc (Nat.le_refl _) _) ?_); go_simp; done) | (simp only [frozen?_alloc_cells]; go_simp; done)
      have : w.heap.size + 3 < W0.heap.size := World.block_lt_of_cell? W0 ⟨w.heap.size + 3, 0, none⟩ (by assumption)
      have hBW0 : Below w.heap.size w W0 := by rw [← hW]; (repeat' (first | assumption | exact Below.refl _ _ | apply Blw.alloc | apply Blw.drew | apply Blw.drewN | (refine Blw.after ?_ (by assumption)) | (refine Blw.set ?_ (by first | (dsimp only; omega) | (simp; done) | (simp; omega)) _)))
      have hsW0 := hBW0.size
      clear hW
      go_wp2_with (go_at_call 32; refine (sGaussSmall_c _ _ _).mono ?_; rintro e w1 ⟨rfl, hb⟩; have hk : Hld W0 w1 := heldM (by (repeat' (first | assumption | exact Below.refl _ _ | apply Blw.alloc | apply Blw.drew | apply Blw.drewN | (refine Blw.after ?_ (by assumption)) | (refine Blw.set ?_ (by first | (dsimp only; omega) | (simp; done) | (simp; omega)) _)))); have hk1 := hk.1)
      exact bodyPost_ret (v := (res2 (gcdB x y x' y') (firstX (gcdX x y x' y') (gcdY x y x' y')) (firstY (gcdX x y x' y') (gcdY x y x' y')))) (by simp [results, Try.results9, go_sem, gcdB, sel_t, sel_f, *]) rfl ⟨rfl, by (repeat' (first | assumption | exact Below.refl _ _ | apply Blw.alloc | apply Blw.drew | apply Blw.drewN | (refine Blw.after ?_ (by assumption)) | (refine Blw.set ?_ (by first | (dsimp only; omega) | (simp; done) | (simp; omega)) _)))⟩
  · go_enter Try.func9, Try.ntmps9
    go_wp2_with fail
    generalize hW : World.alloc _ _ = W0
    have kW0_175 : W0.cell? ⟨w.heap.size, 0, none⟩ = some (.int .i64 (x)) := by rw [← hW]; clear hW; first | (go_simp; done) | ((repeat refine keepcell ((Below.refl _ _).alloc (Nat.le_refl _) _) ?_); go_simp; done) | (simp only [frozen?_alloc_cells]; go_simp; done)
    have zW0_175 : W0.frozen? ⟨w.heap.size, 0, none⟩ = false := by rw [← hW]; clear hW; first | (go_simp; done) | ((repeat refine keepcell ((Below.refl _ _).alloc (Nat.le_refl _) _) ?_); go_simp; done) | (simp only [frozen?_alloc_cells]; go_simp; done)
    have kW0_176 : W0.cell? ⟨w.heap.size, 1, none⟩ = some (.int .i64 (y)) := by rw [← hW]; clear hW; first | (go_simp; done) | ((repeat refine keepcell ((Below.refl _ _).alloc (Nat.le_refl _) _) ?_); go_simp; done) | (simp only [frozen?_alloc_cells]; go_simp; done)
    have zW0_176 : W0.frozen? ⟨w.heap.size, 1, none⟩ = false := by rw [← hW]; clear hW; first | (go_simp; done) | ((repeat refine keepcell ((Below.refl _ _).alloc (Nat.le_refl _) _) ?_); go_simp; done) | (simp only [frozen?_alloc_cells]; go_simp; done)
    have : w.heap.size < W0.heap.size := World.block_lt_of_cell? W0 ⟨w.heap.size, 0, none⟩ (by assumption)
    have kW0_177 : W0.cell? ⟨w.heap.size + 1, 0, none⟩ = some (.int .i64 (x')) := by rw [← hW]; clear hW; first | (go_simp; done) | ((repeat refine keepcell ((Below.refl _ _).alloc (Nat.le_refl _) _) ?_); go_simp; done) | (simp only [frozen?_alloc_cells]; go_simp; done)
    have zW0_177 : W0.frozen? ⟨w.heap.size + 1, 0, none⟩ = false := by rw [← hW]; clear hW; first | (go_simp; done) | ((repeat refine keepcell ((Below.refl _ _).alloc (Nat.le_refl _) _) ?_); go_simp; done) | (simp only [frozen?_alloc_cells]; go_simp; done)
    have kW0_178 : W0.cell? ⟨w.heap.size + 1, 1, none⟩ = some (.int .i64 (y')) := by rw [← hW]; clear hW; first | (go_simp; done) | ((repeat refine keepcell ((Below.refl _ _).alloc (Nat.le_refl _) _) ?_); go_simp; done) | (simp only [frozen?_alloc_cells]; go_simp; done)
    have zW0_178 : W0.frozen? ⟨w.heap.size + 1, 1, none⟩ = false := by rw [← hW]; clear hW; first | (go_simp; done) | ((repeat refine keepcell ((Below.refl _ _).alloc (Nat.le_refl _) _) ?_); go_simp; done) | (simp only [frozen?_alloc_cells]; go_simp; done)
    have : w.heap.size + 1 < W0.heap.size := World.block_lt_of_cell? W0 ⟨w.heap.size + 1, 0, none⟩ (by assumption)
    have kW0_179 : W0.cell? ⟨w.heap.size + 2, 0, none⟩ = some (.int .i64 (0)) := by rw [← hW]; clear hW; first | (go_simp; done) | ((repeat refine keepcell ((Below.refl _ _).alloc (Nat.le_refl _) _) ?_); go_simp; done) | (simp only [frozen?_alloc_cells]; go_simp; done)
    have zW0_179 : W0.frozen? ⟨w.heap.size + 2, 0, none⟩ = false := by rw [← hW]; clear hW; first | (go_simp; done) | ((repeat refine keepcell ((Below.refl _ _).alloc (Nat.le_refl _) _) ?_); go_simp; done) | (simp only [frozen?_alloc_cells]; go_simp; done)
    have kW0_180 : W0.cell? ⟨w.heap.size + 2, 1, none⟩ = some (.int .i64 (0)) := by rw [← hW]; clear hW; first | (go_simp; done) | ((repeat refine keepcell ((Below.refl _ _).alloc (Nat.le_refl _) _) ?_); go_simp; done) | (simp only [frozen?_alloc_cells]; go_simp; done)
    have zW0_180 : W0.frozen? ⟨w.heap.size + 2, 1, none⟩ = false := by rw [← hW]; clear hW; first | (go_simp; done) | ((repeat refine keepcell ((Below.refl _ _).alloc (Nat.le_refl _) _) ?_); go_simp; done) | (simp only [frozen?_alloc_cells]; go_simp; done)
    have : w.heap.size + 2 < W0.heap.size := World.block_lt_of_cell? W0 ⟨w.heap.size + 2, 0, none⟩ (by assumption)
    have kW0_181 : W0.cell? ⟨w.heap.size + 3, 0, none⟩ = some (.int .i64 (0)) := by rw [← hW]; clear hW; first | (go_simp; done) | ((repeat refine keepcell ((Below.refl _ _).alloc (Nat.le_refl _) _) ?_); go_simp; done) | (simp only [frozen?_alloc_cells]; go_simp; done)
    have kW0_182 : W0.cell? ⟨w.heap.size + 3, 1, none⟩ = some (.int .i64 (0)) := by rw [← hW]; clear hW; first | (go_simp; done) | ((repeat refine keepcell ((Below.refl _ _).alloc (Nat.le_refl _) _) ?_); go_simp; done) | (simp only [frozen?_alloc_cells]; go_simp; done)
    have : w.heap.size + 3 < W0.heap.size := World.block_lt_of_cell? W0 ⟨w.heap.size + 3, 0, none⟩ (by assumption)
    have hBW0 : Below w.heap.size w W0 := by rw [← hW]; (repeat' (first | assumption | exact Below.refl _ _ | apply Blw.alloc | apply Blw.drew | apply Blw.drewN | (refine Blw.after ?_ (by assumption)) | (refine Blw.set ?_ (by first | (dsimp only; omega) | (simp; done) | (simp; omega)) _)))
    have hsW0 := hBW0.size
    clear hW
    go_wp2_with (go_at_call 32; refine (sGaussSmall_c _ _ _).mono ?_; rintro e w1 ⟨rfl, hb⟩; have hk : Hld W0 w1 := heldM (by (repeat' (first | assumption | exact Below.refl _ _ | apply Blw.alloc | apply Blw.drew | apply Blw.drewN | (refine Blw.after ?_ (by assumption)) | (refine Blw.set ?_ (by first | (dsimp only; omega) | (simp; done) | (simp; omega)) _)))); have hk1 := hk.1)
    exact bodyPost_ret (v := (res2 (gcdB x y x' y') (firstX (gcdX x y x' y') (gcdY x y x' y')) (firstY (gcdX x y x' y') (gcdY x y x' y')))) (by simp [results, Try.results9, go_sem, gcdB, sel_t, sel_f, *]) rfl ⟨rfl, by (repeat' (first | assumption | exact Below.refl _ _ | apply Blw.alloc | apply Blw.drew | apply Blw.drewN | (refine Blw.after ?_ (by assumption)) | (refine Blw.set ?_ (by first | (dsimp only; omega) | (simp; done) | (simp; omega)) _)))⟩
end Go.Proofs.Ytlcafjdinjdllaa

/- Chapter 6: TileHas, the program's. No law is stated here. -/
import Derived.Test.YtaleeoghifcadaaDoorTi
namespace Go.Proofs.YtaleeoghifcadaaDoor
set_option linter.unusedSimpArgs false
set_option linter.unusedVariables false
open Go.RowKit

theorem spV_shape (a x y : Int) : ∃ q1 q2 r1 r2 b, spV a x y = .tuple #[pr q1 q2, pr r1 r2, .bool b] ∧ hasT a x y = (b && (decide (q1 = 0) && decide (q2 = 0))) := by
  refine ⟨_, _, _, _, _, rfl, ?_⟩
  unfold hasT
  rcases Bool.eq_false_or_eq_true (okT a x y) with h | h
  · rw [h, Bool.true_and, Bool.true_and, Bool.eq_iff_iff, sel_t, sel_t]
    simp only [Bool.and_eq_true, decide_eq_true_eq]
    exact ⟨fun h => by rw [h]; exact ⟨rfl, rfl⟩, fun h => Prod.ext h.1 h.2⟩
  · rw [h]; rfl
set_option maxRecDepth 100000 in
set_option maxHeartbeats 2000000 in
theorem iTileHas_c (a x y : Int) (w : World) : Calls Tryd.prog 15 #[.int .i64 a, pr x y] w fun e w' => e = .returned (.bool (hasT a x y)) ∧ Below w.heap.size w w' := by
  obtain ⟨q1, q2, r1, r2, b, h1, h2⟩ := spV_shape a x y
  have HS := Lib.hid (fun w => iTileSplit_c a x y w)
  rw [h1] at HS
  have HV := Lib.hid h2
  clear h1 h2
  by_cases hX : q1 = 0
  all_goals by_cases hY : q2 = 0
  all_goals cases b
  all_goals
    (try subst hX)
    (try subst hY)
    go_enter Tryd.func15, Tryd.ntmps15
    go_wp2_with fail
    generalize hW : World.alloc _ _ = W0
    have kW0_1 : W0.cell? ⟨w.heap.size, 0, none⟩ = some (.int .i64 (x)) := by rw [← hW]; clear hW; first | (go_simp; done) | ((repeat refine keepcell ((Below.refl _ _).alloc (Nat.le_refl _) _) ?_); go_simp; done) | (simp only [frozen?_alloc_cells]; go_simp; done)
    have kW0_2 : W0.cell? ⟨w.heap.size, 1, none⟩ = some (.int .i64 (y)) := by rw [← hW]; clear hW; first | (go_simp; done) | ((repeat refine keepcell ((Below.refl _ _).alloc (Nat.le_refl _) _) ?_); go_simp; done) | (simp only [frozen?_alloc_cells]; go_simp; done)
    have : w.heap.size < W0.heap.size := World.block_lt_of_cell? W0 ⟨w.heap.size, 0, none⟩ (by assumption)
    have hBW0 : Below w.heap.size w W0 := by rw [← hW]; (first | ((repeat' with_reducible first | assumption | exact Below.refl _ _ | apply Blw.alloc | apply Blw.drew | apply Blw.drewN | (refine Blw.after ?_ (by assumption)) | (refine Blw.set ?_ (by first | (dsimp only; omega) | (simp; omega)) _)); done) | (repeat' (first | assumption | exact Below.refl _ _ | apply Blw.alloc | apply Blw.drew | apply Blw.drewN | (refine Blw.after ?_ (by assumption)) | (refine Blw.set ?_ (by first | (dsimp only; omega) | (simp; done) | (simp; omega)) _))))
    have hsW0 := hBW0.size
    clear hW
    go_wp2_with (fail)
    refine (HS.out _).mono ?_
    rintro e wA ⟨rfl, hbwA⟩
    have hkwA : Hld W0 wA := heldM (by (first | ((repeat' with_reducible first | assumption | exact Below.refl _ _ | apply Blw.alloc | apply Blw.drew | apply Blw.drewN | (refine Blw.after ?_ (by assumption)) | (refine Blw.set ?_ (by first | (dsimp only; omega) | (simp; omega)) _)); done) | (repeat' (first | assumption | exact Below.refl _ _ | apply Blw.alloc | apply Blw.drew | apply Blw.drewN | (refine Blw.after ?_ (by assumption)) | (refine Blw.set ?_ (by first | (dsimp only; omega) | (simp; done) | (simp; omega)) _)))))
    have hlwA := hkwA.1
    have hswA := hkwA.2.2.2
    try (have : w.heap.size < wA.heap.size := by omega)
    go_wp2_with fail
    go_ret
    exact ⟨by rw [HV.out]; simp [*], by (first | ((repeat' with_reducible first | assumption | exact Below.refl _ _ | apply Blw.alloc | apply Blw.drew | apply Blw.drewN | (refine Blw.after ?_ (by assumption)) | (refine Blw.set ?_ (by first | (dsimp only; omega) | (simp; omega)) _)); done) | (repeat' (first | assumption | exact Below.refl _ _ | apply Blw.alloc | apply Blw.drew | apply Blw.drewN | (refine Blw.after ?_ (by assumption)) | (refine Blw.set ?_ (by first | (dsimp only; omega) | (simp; done) | (simp; omega)) _))))⟩
end Go.Proofs.YtaleeoghifcadaaDoor

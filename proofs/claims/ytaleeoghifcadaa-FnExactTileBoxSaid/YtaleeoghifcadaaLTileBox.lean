/- FnExactTileBox: for every level, the program's TileBox is the model's; no condition. -/
import Derived.Test.YtaleeoghifcadaaBo
import Derived.Test.YtaleeoghifcadaaBase
namespace Go.Proofs.Ytaleeoghifcadaa
set_option linter.unusedSimpArgs false
set_option linter.unusedVariables false
open Go.ChangeShapes Go.WideShapes Go.ChangeAt Go.RowKit Go.Joins

theorem boxV_shape (a : Int) : ∃ q1 q2 r1 r2 b, boxV a = .tuple #[pr q1 q2, pr r1 r2, .bool b] := ⟨_, _, _, _, _, rfl⟩
set_option maxRecDepth 100000 in
set_option maxHeartbeats 2000000 in
theorem lawTileBox_c (a : Int) (w : World) : Calls Try.prog 3 #[.int .i64 a] w fun e w' => e = .returned (.bool true) ∧ Below w.heap.size w w' := by
  obtain ⟨q1, q2, r1, r2, b, h1⟩ := boxV_shape a
  have HS := Lib.hid (fun w => sTileBox_c a w)
  have HI := Lib.hid (fun w => iTileBox_c a w)
  rw [h1] at HS HI
  clear h1
  go_enter Try.func3, Try.ntmps3
  go_wp2_with fail
  refine (HS.out _).mono ?_
  rintro e wA ⟨rfl, hbwA⟩
  go_wp2_with fail
  generalize hW : World.alloc _ _ = W1
  have kW1_27 : W1.cell? ⟨wA.heap.size, 0, none⟩ = some (.int .i64 (q1)) := by rw [← hW]; clear hW; first | (go_simp; done) | ((repeat refine keepcell ((Below.refl _ _).alloc (Nat.le_refl _) _) ?_); go_simp; done) | (simp only [frozen?_alloc_cells]; go_simp; done)
  have kW1_28 : W1.cell? ⟨wA.heap.size, 1, none⟩ = some (.int .i64 (q2)) := by rw [← hW]; clear hW; first | (go_simp; done) | ((repeat refine keepcell ((Below.refl _ _).alloc (Nat.le_refl _) _) ?_); go_simp; done) | (simp only [frozen?_alloc_cells]; go_simp; done)
  have : wA.heap.size < W1.heap.size := World.block_lt_of_cell? W1 ⟨wA.heap.size, 0, none⟩ (by assumption)
  have kW1_29 : W1.cell? ⟨wA.heap.size + 1, 0, none⟩ = some (.int .i64 (r1)) := by rw [← hW]; clear hW; first | (go_simp; done) | ((repeat refine keepcell ((Below.refl _ _).alloc (Nat.le_refl _) _) ?_); go_simp; done) | (simp only [frozen?_alloc_cells]; go_simp; done)
  have kW1_30 : W1.cell? ⟨wA.heap.size + 1, 1, none⟩ = some (.int .i64 (r2)) := by rw [← hW]; clear hW; first | (go_simp; done) | ((repeat refine keepcell ((Below.refl _ _).alloc (Nat.le_refl _) _) ?_); go_simp; done) | (simp only [frozen?_alloc_cells]; go_simp; done)
  have : wA.heap.size + 1 < W1.heap.size := World.block_lt_of_cell? W1 ⟨wA.heap.size + 1, 0, none⟩ (by assumption)
  have hBW1 : Below w.heap.size w W1 := by rw [← hW]; (first | ((repeat' with_reducible first | assumption | exact Below.refl _ _ | apply Blw.alloc | apply Blw.drew | apply Blw.drewN | (refine Blw.after ?_ (by assumption)) | (refine Blw.set ?_ (by first | (dsimp only; omega) | (simp; omega)) _)); done) | (repeat' (first | assumption | exact Below.refl _ _ | apply Blw.alloc | apply Blw.drew | apply Blw.drewN | (refine Blw.after ?_ (by assumption)) | (refine Blw.set ?_ (by first | (dsimp only; omega) | (simp; done) | (simp; omega)) _))))
  have hsW1 := hBW1.size
  clear hW
  try clear hH; try clear hH1
  go_wp2_with (fail)
  refine (HI.out _).mono ?_
  rintro e wB ⟨rfl, hbwB⟩
  have hkwB : Hld W1 wB := heldM (by (first | ((repeat' with_reducible first | assumption | exact Below.refl _ _ | apply Blw.alloc | apply Blw.drew | apply Blw.drewN | (refine Blw.after ?_ (by assumption)) | (refine Blw.set ?_ (by first | (dsimp only; omega) | (simp; omega)) _)); done) | (repeat' (first | assumption | exact Below.refl _ _ | apply Blw.alloc | apply Blw.drew | apply Blw.drewN | (refine Blw.after ?_ (by assumption)) | (refine Blw.set ?_ (by first | (dsimp only; omega) | (simp; done) | (simp; omega)) _)))))
  have hlwB := hkwB.1
  have hswB := hkwB.2.2.2
  try (have : wA.heap.size < wB.heap.size := by omega)
  try (have : wA.heap.size + 1 < wB.heap.size := by omega)
  go_wp2_with fail
  generalize hW : World.alloc _ _ = W2
  have kW2_31 : W2.cell? ⟨wA.heap.size, 0, none⟩ = some (.int .i64 (q1)) := by rw [← hW]; clear hW; first | (go_simp; done) | ((repeat refine keepcell ((Below.refl _ _).alloc (Nat.le_refl _) _) ?_); go_simp; done) | (simp only [frozen?_alloc_cells]; go_simp; done)
  have kW2_32 : W2.cell? ⟨wA.heap.size, 1, none⟩ = some (.int .i64 (q2)) := by rw [← hW]; clear hW; first | (go_simp; done) | ((repeat refine keepcell ((Below.refl _ _).alloc (Nat.le_refl _) _) ?_); go_simp; done) | (simp only [frozen?_alloc_cells]; go_simp; done)
  have : wA.heap.size < W2.heap.size := World.block_lt_of_cell? W2 ⟨wA.heap.size, 0, none⟩ (by assumption)
  have kW2_33 : W2.cell? ⟨wA.heap.size + 1, 0, none⟩ = some (.int .i64 (r1)) := by rw [← hW]; clear hW; first | (go_simp; done) | ((repeat refine keepcell ((Below.refl _ _).alloc (Nat.le_refl _) _) ?_); go_simp; done) | (simp only [frozen?_alloc_cells]; go_simp; done)
  have kW2_34 : W2.cell? ⟨wA.heap.size + 1, 1, none⟩ = some (.int .i64 (r2)) := by rw [← hW]; clear hW; first | (go_simp; done) | ((repeat refine keepcell ((Below.refl _ _).alloc (Nat.le_refl _) _) ?_); go_simp; done) | (simp only [frozen?_alloc_cells]; go_simp; done)
  have : wA.heap.size + 1 < W2.heap.size := World.block_lt_of_cell? W2 ⟨wA.heap.size + 1, 0, none⟩ (by assumption)
  have kW2_35 : W2.cell? ⟨wB.heap.size, 0, none⟩ = some (.int .i64 (q1)) := by rw [← hW]; clear hW; first | (go_simp; done) | ((repeat refine keepcell ((Below.refl _ _).alloc (Nat.le_refl _) _) ?_); go_simp; done) | (simp only [frozen?_alloc_cells]; go_simp; done)
  have kW2_36 : W2.cell? ⟨wB.heap.size, 1, none⟩ = some (.int .i64 (q2)) := by rw [← hW]; clear hW; first | (go_simp; done) | ((repeat refine keepcell ((Below.refl _ _).alloc (Nat.le_refl _) _) ?_); go_simp; done) | (simp only [frozen?_alloc_cells]; go_simp; done)
  have : wB.heap.size < W2.heap.size := World.block_lt_of_cell? W2 ⟨wB.heap.size, 0, none⟩ (by assumption)
  have kW2_37 : W2.cell? ⟨wB.heap.size + 1, 0, none⟩ = some (.int .i64 (r1)) := by rw [← hW]; clear hW; first | (go_simp; done) | ((repeat refine keepcell ((Below.refl _ _).alloc (Nat.le_refl _) _) ?_); go_simp; done) | (simp only [frozen?_alloc_cells]; go_simp; done)
  have kW2_38 : W2.cell? ⟨wB.heap.size + 1, 1, none⟩ = some (.int .i64 (r2)) := by rw [← hW]; clear hW; first | (go_simp; done) | ((repeat refine keepcell ((Below.refl _ _).alloc (Nat.le_refl _) _) ?_); go_simp; done) | (simp only [frozen?_alloc_cells]; go_simp; done)
  have : wB.heap.size + 1 < W2.heap.size := World.block_lt_of_cell? W2 ⟨wB.heap.size + 1, 0, none⟩ (by assumption)
  have hBW2 : Below w.heap.size w W2 := by rw [← hW]; (first | ((repeat' with_reducible first | assumption | exact Below.refl _ _ | apply Blw.alloc | apply Blw.drew | apply Blw.drewN | (refine Blw.after ?_ (by assumption)) | (refine Blw.set ?_ (by first | (dsimp only; omega) | (simp; omega)) _)); done) | (repeat' (first | assumption | exact Below.refl _ _ | apply Blw.alloc | apply Blw.drew | apply Blw.drewN | (refine Blw.after ?_ (by assumption)) | (refine Blw.set ?_ (by first | (dsimp only; omega) | (simp; done) | (simp; omega)) _))))
  have hsW2 := hBW2.size
  clear hW
  try clear kW1_27; try clear kW1_28; try clear kW1_29; try clear kW1_30; try clear hbwB; try clear hkwB; try clear hlwB
  go_wp2_with (go_at_call 6; refine (eqGauss_c _ _ _ _ _).mono ?_; rintro e w1 ⟨rfl, hb⟩; have hk : Hld W2 w1 := heldM (by (first | ((repeat' with_reducible first | assumption | exact Below.refl _ _ | apply Blw.alloc | apply Blw.drew | apply Blw.drewN | (refine Blw.after ?_ (by assumption)) | (refine Blw.set ?_ (by first | (dsimp only; omega) | (simp; omega)) _)); done) | (repeat' (first | assumption | exact Below.refl _ _ | apply Blw.alloc | apply Blw.drew | apply Blw.drewN | (refine Blw.after ?_ (by assumption)) | (refine Blw.set ?_ (by first | (dsimp only; omega) | (simp; done) | (simp; omega)) _))))); have hk1 := hk.1)
  go_ret
  exact ⟨rfl, by (first | ((repeat' with_reducible first | assumption | exact Below.refl _ _ | apply Blw.alloc | apply Blw.drew | apply Blw.drewN | (refine Blw.after ?_ (by assumption)) | (refine Blw.set ?_ (by first | (dsimp only; omega) | (simp; omega)) _)); done) | (repeat' (first | assumption | exact Below.refl _ _ | apply Blw.alloc | apply Blw.drew | apply Blw.drewN | (refine Blw.after ?_ (by assumption)) | (refine Blw.set ?_ (by first | (dsimp only; omega) | (simp; done) | (simp; omega)) _))))⟩

namespace lawFnExactTileBox
set_option maxRecDepth 100000 in
theorem lifted (os : Os) (started : os.Started) (H : Type) (enc : TypeId × Value → H) :
    ReturnsInHanded {} Try.checked os 3 .any (Rows.fnExactTileBoxSpec.pre6 enc Try.prog Try.f3 Rows.fnExactTileBoxRow.domain false) (Rows.fnExactTileBoxSpec.post enc Try.prog Try.f3 false true false false) := by
  refine returnsInHanded_of_change (C := Try.checked) own started (by kernel_rfl) Try.func3
    (ChangeSpec.witness6 (enc := enc) (C := Try.checked) false ⟨#[], #[.int .i64 0], []⟩ 8 (by kernel_rfl) (by kernel_rfl) (by kernel_rfl) (by kernel_rfl)) ?_
  intro W base args ds gs before hval0 hW _ _
  have hval : ∀ (j : Nat) t v, Try.f3.params[j]? = some t → args[j]? = some v → Value.okWide Try.prog W .any base t v := hval0
  have hW' := hW
  obtain ⟨p, q, hA0, hV, rfl, _, _⟩ := hW
  have hA : DataW.TrodAll enc Try.prog W 0 (fun _ => true) true Try.f3.params.toList args.toList ds p := hA0
  rw [Try.params3] at hA hval
  obtain ⟨v0, vs0, d0, ds0, p0, q0, hargs, rfl, rfl, h0, r0⟩ := trodAll_cons hA
  obtain ⟨rfl, rfl, rfl⟩ := trodAll_nil r0
  obtain rfl : args = #[v0] := by cases args; simp_all
  obtain ⟨rfl, rfl⟩ := trodVars_none hV
  obtain ⟨a0, rfl, rfl, rfl, wa0⟩ := open_int Try.underlying3 (hval 0 3 v0 rfl rfl) h0
  clear hA0 hval0
  simp only [List.append_nil] at hW'
  refine (lawTileBox_c a0 W).mono fun e W' ⟨he, hg⟩ => ?_
  subst he
  refine ⟨_, rfl, _, _, _, [], [], [], hW', ?_, ?_, ?_, hg.frame _, fun h => by cases h⟩
  · exact trodAll_cons_mk (shut_bool Try.underlying4 _) trodAll_mk0
  · exact (trodAll_cons_mk (shut_int Try.underlying3 wa0) trodAll_mk0)
  · rfl

theorem proved : Rows.FnExactTileBoxSaid :=
  OpenClaim.holds_of_wide 3 Try.f3 rfl rfl rfl rfl rfl rfl rfl ⟨rfl, rfl, rfl, rfl, rfl⟩ rfl rfl rfl rfl rfl (by kernel_rfl) Try.func3 (by kernel_rfl)
    (of_decide_eq_true (by kernel_rfl)) (by unfold Func.isWrapper; first | (rw [if_pos (by decide +kernel)]; kernel_rfl) | (rw [if_neg (by decide +kernel)]; exact ⟨rfl, rfl⟩))
    (fun os started H enc _ => lifted os started H enc)
end lawFnExactTileBox
end Go.Proofs.Ytaleeoghifcadaa

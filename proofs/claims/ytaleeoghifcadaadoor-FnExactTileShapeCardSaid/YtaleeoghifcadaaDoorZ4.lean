/- Merged texts: Ti To Tv Rd Two. No law is stated here. -/
import Derived.OpenShut
import Derived.ChangeSame
import Derived.JoinedOf
import Derived.JoinedAt
import Derived.RowKit3
import Derived.Lib.SmallJoins
import Derived.LaidMore
import Derived.Stop.LaidErr
import Derived.ChangeVars
import Derived.ChangeStays
import Derived.WideKeyArgs
import Derived.WalkSmall
import Derived.Carry
import Derived.Test.YtaleeoghifcadaaDoorZ3
namespace Go.Proofs.YtaleeoghifcadaaDoor
set_option linter.unusedSimpArgs false
set_option linter.unusedVariables false
open Go.RowKit

theorem toL_drop (s : ByteArray) (k : Nat) : s.extract k s.size = bs ((toL s).drop k) := by
  apply toL_ext
  rw [toL_bs]
  show (s.extract k s.size).data.toList = _
  rw [ByteArray.data_extract, Array.toList_extract]
  show ((toL s).drop k).take (s.size - k) = _
  exact List.take_of_length_le (by rw [List.length_drop, toL_len]; exact Nat.le_refl _)
theorem pair_of {s : ByteArray} {z : ZZ} (hb : ∀ c ∈ toL s, bitC c = true) (hl : s.size ≤ 50) (hv : valF (toL s) = z) (w : World) : Calls Tryd.prog 55 #[.string s] w fun e w' => e = .returned (pr z.1 z.2) ∧ Below w.heap.size w w' := by
  have e1 : valX (toL s) = z.1 := by rw [← hv]; rfl
  have e2 : valY (toL s) = z.2 := by rw [← hv]; rfl
  rw [← e1, ← e2]
  exact digitsPair_c s w hb hl
set_option maxRecDepth 100000 in
set_option maxHeartbeats 4000000 in
theorem iTileSplit_c (a x y : Int) (w : World) : Calls Tryd.prog 19 #[.int .i64 a, pr x y] w fun e w' => e = .returned (spV a x y) ∧ Below w.heap.size w w' := by
  rcases Bool.eq_false_or_eq_true (inB 1000000 x y) with h2 | h2
  · have HD := Lib.hid (fun w => iDigitsOf_c x y w)
    rw [ofV_tx h2] at HD
    rcases Bool.eq_false_or_eq_true (inR 0 12 a) with h1 | h1
    · have hk : okT a x y = true := by unfold okT; rw [h1, h2]; rfl
      have HV := Lib.hid (spV_yes hk)
      have hq := qn_small hk
      have H1 := inR_le h1
      obtain ⟨n, rfl⟩ : ∃ n : Nat, a = (n : Int) := ⟨a.toNat, by omega⟩
      rw [Int.toNat_natCast] at HV hq
      obtain ⟨v1, v2⟩ := split_val x y n
      have hlen := txL_len h2
      have hbit := txL_bits x y
      have hsz : (txB x y).size = (txL x y).length := bs_sz _
      have htl : toL (txB x y) = txL x y := toL_bs _
      rw [← hsz] at v1 v2 hlen
      have HP := Lib.hid (fun w => pair_of (s := (txB x y).extract 0 ((txB x y).size - n)) (z := qn n (x, y)) (by rw [toL_take, toL_bs, htl]; exact fun c hc => hbit c (List.mem_of_mem_take hc)) (by rw [toL_take, bs_sz, List.length_take, htl, ← hsz]; omega) (by rw [toL_take, toL_bs, htl]; exact v1) w)
      have HR := Lib.hid (fun w => pair_of (s := (txB x y).extract ((txB x y).size - n) (txB x y).size) (z := rn n (x, y)) (by rw [toL_drop, toL_bs, htl]; exact fun c hc => hbit c (List.mem_of_mem_drop hc)) (by rw [toL_drop, bs_sz, List.length_drop, htl, ← hsz]; omega) (by rw [toL_drop, toL_bs, htl]; exact v2) w)
      have HI := Lib.hid (fun w => show Calls Tryd.prog 56 #[pr (qn n (x, y)).1 (qn n (x, y)).2] w fun e w' => e = .returned (.tuple #[pr (qn n (x, y)).1 (qn n (x, y)).2, .bool true]) ∧ Below w.heap.size w w' by
        have h := ifSmall_c (qn n (x, y)).1 (qn n (x, y)).2 w
        rw [hq] at h
        exact h)
      clear v1 v2 hbit hsz htl h2 hk h1 hq
      generalize txB x y = s at *
      have em : max (0 : Int) ((s.size : Int) - (n : Int)) = ((s.size - n : Nat) : Int) := by omega
      have hk2 : s.size - n ≤ s.size := by omega
      generalize hK : s.size - n = k at *
      go_enter Tryd.func19, Tryd.ntmps19
      go_wp2_with fail
      generalize hW : World.alloc _ _ = W0
      have kW0_1 : W0.cell? ⟨w.heap.size, 0, none⟩ = some (.int .i64 (x)) := by rw [← hW]; clear hW; first | (go_simp; done) | ((repeat refine keepcell ((Below.refl _ _).alloc (Nat.le_refl _) _) ?_); go_simp; done) | (simp only [frozen?_alloc_cells]; go_simp; done)
      have kW0_2 : W0.cell? ⟨w.heap.size, 1, none⟩ = some (.int .i64 (y)) := by rw [← hW]; clear hW; first | (go_simp; done) | ((repeat refine keepcell ((Below.refl _ _).alloc (Nat.le_refl _) _) ?_); go_simp; done) | (simp only [frozen?_alloc_cells]; go_simp; done)
      have : w.heap.size < W0.heap.size := World.block_lt_of_cell? W0 ⟨w.heap.size, 0, none⟩ (by assumption)
      have kW0_3 : W0.cell? ⟨w.heap.size + 1, 0, none⟩ = some (.int .i64 (0)) := by rw [← hW]; clear hW; first | (go_simp; done) | ((repeat refine keepcell ((Below.refl _ _).alloc (Nat.le_refl _) _) ?_); go_simp; done) | (simp only [frozen?_alloc_cells]; go_simp; done)
      have zW0_3 : W0.frozen? ⟨w.heap.size + 1, 0, none⟩ = false := by rw [← hW]; clear hW; first | (go_simp; done) | ((repeat refine keepcell ((Below.refl _ _).alloc (Nat.le_refl _) _) ?_); go_simp; done) | (simp only [frozen?_alloc_cells]; go_simp; done)
      have kW0_4 : W0.cell? ⟨w.heap.size + 1, 1, none⟩ = some (.int .i64 (0)) := by rw [← hW]; clear hW; first | (go_simp; done) | ((repeat refine keepcell ((Below.refl _ _).alloc (Nat.le_refl _) _) ?_); go_simp; done) | (simp only [frozen?_alloc_cells]; go_simp; done)
      have zW0_4 : W0.frozen? ⟨w.heap.size + 1, 1, none⟩ = false := by rw [← hW]; clear hW; first | (go_simp; done) | ((repeat refine keepcell ((Below.refl _ _).alloc (Nat.le_refl _) _) ?_); go_simp; done) | (simp only [frozen?_alloc_cells]; go_simp; done)
      have : w.heap.size + 1 < W0.heap.size := World.block_lt_of_cell? W0 ⟨w.heap.size + 1, 0, none⟩ (by assumption)
      have kW0_5 : W0.cell? ⟨w.heap.size + 2, 0, none⟩ = some (.int .i64 (0)) := by rw [← hW]; clear hW; first | (go_simp; done) | ((repeat refine keepcell ((Below.refl _ _).alloc (Nat.le_refl _) _) ?_); go_simp; done) | (simp only [frozen?_alloc_cells]; go_simp; done)
      have zW0_5 : W0.frozen? ⟨w.heap.size + 2, 0, none⟩ = false := by rw [← hW]; clear hW; first | (go_simp; done) | ((repeat refine keepcell ((Below.refl _ _).alloc (Nat.le_refl _) _) ?_); go_simp; done) | (simp only [frozen?_alloc_cells]; go_simp; done)
      have kW0_6 : W0.cell? ⟨w.heap.size + 2, 1, none⟩ = some (.int .i64 (0)) := by rw [← hW]; clear hW; first | (go_simp; done) | ((repeat refine keepcell ((Below.refl _ _).alloc (Nat.le_refl _) _) ?_); go_simp; done) | (simp only [frozen?_alloc_cells]; go_simp; done)
      have zW0_6 : W0.frozen? ⟨w.heap.size + 2, 1, none⟩ = false := by rw [← hW]; clear hW; first | (go_simp; done) | ((repeat refine keepcell ((Below.refl _ _).alloc (Nat.le_refl _) _) ?_); go_simp; done) | (simp only [frozen?_alloc_cells]; go_simp; done)
      have : w.heap.size + 2 < W0.heap.size := World.block_lt_of_cell? W0 ⟨w.heap.size + 2, 0, none⟩ (by assumption)
      have hBW0 : Below w.heap.size w W0 := by rw [← hW]; (first | ((repeat' with_reducible first | assumption | exact Below.refl _ _ | apply Blw.alloc | apply Blw.drew | apply Blw.drewN | (refine Blw.after ?_ (by assumption)) | (refine Blw.set ?_ (by first | (dsimp only; omega) | (simp; omega)) _)); done) | (repeat' (first | assumption | exact Below.refl _ _ | apply Blw.alloc | apply Blw.drew | apply Blw.drewN | (refine Blw.after ?_ (by assumption)) | (refine Blw.set ?_ (by first | (dsimp only; omega) | (simp; done) | (simp; omega)) _))))
      have hsW0 := hBW0.size
      clear hW
      go_wp2_with (fail)
      refine (HD.out _).mono ?_
      rintro e wA ⟨rfl, hbwA⟩
      have hkwA : Hld W0 wA := heldM (by (first | ((repeat' with_reducible first | assumption | exact Below.refl _ _ | apply Blw.alloc | apply Blw.drew | apply Blw.drewN | (refine Blw.after ?_ (by assumption)) | (refine Blw.set ?_ (by first | (dsimp only; omega) | (simp; omega)) _)); done) | (repeat' (first | assumption | exact Below.refl _ _ | apply Blw.alloc | apply Blw.drew | apply Blw.drewN | (refine Blw.after ?_ (by assumption)) | (refine Blw.set ?_ (by first | (dsimp only; omega) | (simp; done) | (simp; omega)) _)))))
      have hlwA := hkwA.1
      have hswA := hkwA.2.2.2
      try (have : w.heap.size < wA.heap.size := by omega)
      try (have : w.heap.size + 1 < wA.heap.size := by omega)
      try (have : w.heap.size + 2 < wA.heap.size := by omega)
      go_wp2_with (fail)
      refine (HP.out _).mono ?_
      rintro e wB ⟨rfl, hbwB⟩
      have hkwB : Hld W0 wB := heldM (by (first | ((repeat' with_reducible first | assumption | exact Below.refl _ _ | apply Blw.alloc | apply Blw.drew | apply Blw.drewN | (refine Blw.after ?_ (by assumption)) | (refine Blw.set ?_ (by first | (dsimp only; omega) | (simp; omega)) _)); done) | (repeat' (first | assumption | exact Below.refl _ _ | apply Blw.alloc | apply Blw.drew | apply Blw.drewN | (refine Blw.after ?_ (by assumption)) | (refine Blw.set ?_ (by first | (dsimp only; omega) | (simp; done) | (simp; omega)) _)))))
      have hlwB := hkwB.1
      have hswB := hkwB.2.2.2
      try (have : w.heap.size < wB.heap.size := by omega)
      try (have : w.heap.size + 1 < wB.heap.size := by omega)
      try (have : w.heap.size + 2 < wB.heap.size := by omega)
      go_wp2_with (fail)
      refine (HI.out _).mono ?_
      rintro e wC ⟨rfl, hbwC⟩
      have hkwC : Hld W0 wC := heldM (by (first | ((repeat' with_reducible first | assumption | exact Below.refl _ _ | apply Blw.alloc | apply Blw.drew | apply Blw.drewN | (refine Blw.after ?_ (by assumption)) | (refine Blw.set ?_ (by first | (dsimp only; omega) | (simp; omega)) _)); done) | (repeat' (first | assumption | exact Below.refl _ _ | apply Blw.alloc | apply Blw.drew | apply Blw.drewN | (refine Blw.after ?_ (by assumption)) | (refine Blw.set ?_ (by first | (dsimp only; omega) | (simp; done) | (simp; omega)) _)))))
      have hlwC := hkwC.1
      have hswC := hkwC.2.2.2
      try (have : w.heap.size < wC.heap.size := by omega)
      try (have : w.heap.size + 1 < wC.heap.size := by omega)
      try (have : w.heap.size + 2 < wC.heap.size := by omega)
      go_wp2_with fail
      generalize hW : World.alloc _ _ = W1
      have kW1_7 : W1.cell? ⟨w.heap.size + 1, 0, none⟩ = some (.int .i64 (0)) := by rw [← hW]; clear hW; first | (go_simp; done) | ((repeat refine keepcell ((Below.refl _ _).alloc (Nat.le_refl _) _) ?_); go_simp; done) | (simp only [frozen?_alloc_cells]; go_simp; done)
      have zW1_7 : W1.frozen? ⟨w.heap.size + 1, 0, none⟩ = false := by rw [← hW]; clear hW; first | (go_simp; done) | ((repeat refine keepcell ((Below.refl _ _).alloc (Nat.le_refl _) _) ?_); go_simp; done) | (simp only [frozen?_alloc_cells]; go_simp; done)
      have kW1_8 : W1.cell? ⟨w.heap.size + 1, 1, none⟩ = some (.int .i64 (0)) := by rw [← hW]; clear hW; first | (go_simp; done) | ((repeat refine keepcell ((Below.refl _ _).alloc (Nat.le_refl _) _) ?_); go_simp; done) | (simp only [frozen?_alloc_cells]; go_simp; done)
      have zW1_8 : W1.frozen? ⟨w.heap.size + 1, 1, none⟩ = false := by rw [← hW]; clear hW; first | (go_simp; done) | ((repeat refine keepcell ((Below.refl _ _).alloc (Nat.le_refl _) _) ?_); go_simp; done) | (simp only [frozen?_alloc_cells]; go_simp; done)
      have : w.heap.size + 1 < W1.heap.size := World.block_lt_of_cell? W1 ⟨w.heap.size + 1, 0, none⟩ (by assumption)
      have kW1_9 : W1.cell? ⟨w.heap.size + 2, 0, none⟩ = some (.int .i64 (0)) := by rw [← hW]; clear hW; first | (go_simp; done) | ((repeat refine keepcell ((Below.refl _ _).alloc (Nat.le_refl _) _) ?_); go_simp; done) | (simp only [frozen?_alloc_cells]; go_simp; done)
      have zW1_9 : W1.frozen? ⟨w.heap.size + 2, 0, none⟩ = false := by rw [← hW]; clear hW; first | (go_simp; done) | ((repeat refine keepcell ((Below.refl _ _).alloc (Nat.le_refl _) _) ?_); go_simp; done) | (simp only [frozen?_alloc_cells]; go_simp; done)
      have kW1_10 : W1.cell? ⟨w.heap.size + 2, 1, none⟩ = some (.int .i64 (0)) := by rw [← hW]; clear hW; first | (go_simp; done) | ((repeat refine keepcell ((Below.refl _ _).alloc (Nat.le_refl _) _) ?_); go_simp; done) | (simp only [frozen?_alloc_cells]; go_simp; done)
      have zW1_10 : W1.frozen? ⟨w.heap.size + 2, 1, none⟩ = false := by rw [← hW]; clear hW; first | (go_simp; done) | ((repeat refine keepcell ((Below.refl _ _).alloc (Nat.le_refl _) _) ?_); go_simp; done) | (simp only [frozen?_alloc_cells]; go_simp; done)
      have : w.heap.size + 2 < W1.heap.size := World.block_lt_of_cell? W1 ⟨w.heap.size + 2, 0, none⟩ (by assumption)
      have kW1_11 : W1.cell? ⟨wC.heap.size, 0, none⟩ = some (.int .i64 ((qn n (x, y)).1)) := by rw [← hW]; clear hW; first | (go_simp; done) | ((repeat refine keepcell ((Below.refl _ _).alloc (Nat.le_refl _) _) ?_); go_simp; done) | (simp only [frozen?_alloc_cells]; go_simp; done)
      have kW1_12 : W1.cell? ⟨wC.heap.size, 1, none⟩ = some (.int .i64 ((qn n (x, y)).2)) := by rw [← hW]; clear hW; first | (go_simp; done) | ((repeat refine keepcell ((Below.refl _ _).alloc (Nat.le_refl _) _) ?_); go_simp; done) | (simp only [frozen?_alloc_cells]; go_simp; done)
      have : wC.heap.size < W1.heap.size := World.block_lt_of_cell? W1 ⟨wC.heap.size, 0, none⟩ (by assumption)
      have hBW1 : Below w.heap.size w W1 := by rw [← hW]; (first | ((repeat' with_reducible first | assumption | exact Below.refl _ _ | apply Blw.alloc | apply Blw.drew | apply Blw.drewN | (refine Blw.after ?_ (by assumption)) | (refine Blw.set ?_ (by first | (dsimp only; omega) | (simp; omega)) _)); done) | (repeat' (first | assumption | exact Below.refl _ _ | apply Blw.alloc | apply Blw.drew | apply Blw.drewN | (refine Blw.after ?_ (by assumption)) | (refine Blw.set ?_ (by first | (dsimp only; omega) | (simp; done) | (simp; omega)) _))))
      have hsW1 := hBW1.size
      clear hW
      try clear kW0_1; try clear kW0_2; try clear kW0_3; try clear zW0_3; try clear kW0_4; try clear zW0_4; try clear kW0_5; try clear zW0_5; try clear kW0_6; try clear zW0_6; try clear hbwA; try clear hkwA; try clear hlwA; try clear hbwB; try clear hkwB; try clear hlwB; try clear hbwC; try clear hkwC; try clear hlwC
      refine region_slots (fun w' => w'.cell? ⟨wC.heap.size, 0, none⟩ = some (.int .i64 ((qn n (x, y)).1)) ∧ w'.cell? ⟨wC.heap.size, 1, none⟩ = some (.int .i64 ((qn n (x, y)).2))) [] [(45, .is (pr (qn n (x, y)).1 (qn n (x, y)).2)), (46, .is (.string s)), (47, .is (.int .i64 (k : Int))), (48, .is (.string (s.extract k s.size))), (49, .is (pr (rn n (x, y)).1 (rn n (x, y)).2)), (50, .is (pr (rn n (x, y)).1 (rn n (x, y)).2))] (by kernel_rfl) (by kernel_rfl) (by kernel_rfl) (fun w' hH => by go_simp) (fun _ _ _ _ _ _ h => h) ?_
      simp only [Steps, List.contains_cons, List.contains_nil, Nat.reduceBEq, Nat.reduceAdd, Bool.or_false, Bool.false_or, Bool.or_true, Bool.true_or, Bool.false_eq_true, if_false, if_true]
      refine ⟨?_, ?_, ?_, ?_, ?_, ?_, ?_⟩
      · intro u w2 hH hd K hK
        simp only [setU, upd, List.map_cons, List.map_nil, List.contains_cons, List.contains_nil, Nat.reduceBEq, Nat.reduceAdd, Bool.or_false, Bool.false_or, Bool.or_true, Bool.true_or, Bool.false_eq_true, if_false, if_true, ite_true, ite_false, Nat.reduceEqDiff, beq_self_eq_true] at hK ⊢
        go_wp2_with (fail)
        exact hK _ _ (by (first | ((repeat' with_reducible first | assumption | exact Below.refl _ _ | apply Blw.alloc | apply Blw.drew | apply Blw.drewN | (refine Blw.after ?_ (by assumption)) | (refine Blw.set ?_ (by first | (dsimp only; omega) | (simp; omega)) _)); done) | (repeat' (first | assumption | exact Below.refl _ _ | apply Blw.alloc | apply Blw.drew | apply Blw.drewN | (refine Blw.after ?_ (by assumption)) | (refine Blw.set ?_ (by first | (dsimp only; omega) | (simp; done) | (simp; omega)) _))))) rfl
      · intro u w2 hH hd K hK
        simp only [setU, upd, List.map_cons, List.map_nil, List.contains_cons, List.contains_nil, Nat.reduceBEq, Nat.reduceAdd, Bool.or_false, Bool.false_or, Bool.or_true, Bool.true_or, Bool.false_eq_true, if_false, if_true, ite_true, ite_false, Nat.reduceEqDiff, beq_self_eq_true] at hK ⊢
        go_wp2_with (fail)
        exact hK _ _ (by (first | ((repeat' with_reducible first | assumption | exact Below.refl _ _ | apply Blw.alloc | apply Blw.drew | apply Blw.drewN | (refine Blw.after ?_ (by assumption)) | (refine Blw.set ?_ (by first | (dsimp only; omega) | (simp; omega)) _)); done) | (repeat' (first | assumption | exact Below.refl _ _ | apply Blw.alloc | apply Blw.drew | apply Blw.drewN | (refine Blw.after ?_ (by assumption)) | (refine Blw.set ?_ (by first | (dsimp only; omega) | (simp; done) | (simp; omega)) _))))) rfl
      · intro u w2 hH hd K hK
        simp only [setU, upd, List.map_cons, List.map_nil, List.contains_cons, List.contains_nil, Nat.reduceBEq, Nat.reduceAdd, Bool.or_false, Bool.false_or, Bool.or_true, Bool.true_or, Bool.false_eq_true, if_false, if_true, ite_true, ite_false, Nat.reduceEqDiff, beq_self_eq_true] at hK ⊢
        go_wp2_with (fail)
        exact hK _ _ (by (first | ((repeat' with_reducible first | assumption | exact Below.refl _ _ | apply Blw.alloc | apply Blw.drew | apply Blw.drewN | (refine Blw.after ?_ (by assumption)) | (refine Blw.set ?_ (by first | (dsimp only; omega) | (simp; omega)) _)); done) | (repeat' (first | assumption | exact Below.refl _ _ | apply Blw.alloc | apply Blw.drew | apply Blw.drewN | (refine Blw.after ?_ (by assumption)) | (refine Blw.set ?_ (by first | (dsimp only; omega) | (simp; done) | (simp; omega)) _))))) rfl
      · intro u w2 hH hd K hK
        have f46 : u 46 = (.string s) := hd 46 (by kernel_rfl)
        have f47 : u 47 = (.int .i64 (k : Int)) := hd 47 (by kernel_rfl)
        simp only [setU, upd, List.map_cons, List.map_nil, List.contains_cons, List.contains_nil, Nat.reduceBEq, Nat.reduceAdd, Bool.or_false, Bool.false_or, Bool.or_true, Bool.true_or, Bool.false_eq_true, if_false, if_true, ite_true, ite_false, Nat.reduceEqDiff, beq_self_eq_true] at hK ⊢
        rw [f46, f47] at hK ⊢
        clear f46 f47
        go_wp2_with (fail)
        exact hK _ _ (by (first | ((repeat' with_reducible first | assumption | exact Below.refl _ _ | apply Blw.alloc | apply Blw.drew | apply Blw.drewN | (refine Blw.after ?_ (by assumption)) | (refine Blw.set ?_ (by first | (dsimp only; omega) | (simp; omega)) _)); done) | (repeat' (first | assumption | exact Below.refl _ _ | apply Blw.alloc | apply Blw.drew | apply Blw.drewN | (refine Blw.after ?_ (by assumption)) | (refine Blw.set ?_ (by first | (dsimp only; omega) | (simp; done) | (simp; omega)) _))))) rfl
      · intro u w2 hH hd K hK
        have f48 : u 48 = (.string (s.extract k s.size)) := hd 48 (by kernel_rfl)
        simp only [setU, upd, List.map_cons, List.map_nil, List.contains_cons, List.contains_nil, Nat.reduceBEq, Nat.reduceAdd, Bool.or_false, Bool.false_or, Bool.or_true, Bool.true_or, Bool.false_eq_true, if_false, if_true, ite_true, ite_false, Nat.reduceEqDiff, beq_self_eq_true] at hK ⊢
        rw [f48] at hK ⊢
        clear f48
        go_wp2_with ((go_at_call 55; refine (HR.out _).mono ?_; rintro e w1 ⟨rfl, hb⟩; obtain ⟨hc, hf⟩ := bcell hb; have hz := bsize hb; have hs := hb.size; try simp at hs))
        exact hK _ _ (by (first | ((repeat' with_reducible first | assumption | exact Below.refl _ _ | apply Blw.alloc | apply Blw.drew | apply Blw.drewN | (refine Blw.after ?_ (by assumption)) | (refine Blw.set ?_ (by first | (dsimp only; omega) | (simp; omega)) _)); done) | (repeat' (first | assumption | exact Below.refl _ _ | apply Blw.alloc | apply Blw.drew | apply Blw.drewN | (refine Blw.after ?_ (by assumption)) | (refine Blw.set ?_ (by first | (dsimp only; omega) | (simp; done) | (simp; omega)) _))))) rfl
      · intro u w2 hH hd K hK
        have f49 : u 49 = (pr (rn n (x, y)).1 (rn n (x, y)).2) := hd 49 (by kernel_rfl)
        simp only [setU, upd, List.map_cons, List.map_nil, List.contains_cons, List.contains_nil, Nat.reduceBEq, Nat.reduceAdd, Bool.or_false, Bool.false_or, Bool.or_true, Bool.true_or, Bool.false_eq_true, if_false, if_true, ite_true, ite_false, Nat.reduceEqDiff, beq_self_eq_true] at hK ⊢
        rw [f49] at hK ⊢
        clear f49
        go_wp2_with ((go_at_call 57; refine (gauss_c _ _ _).mono ?_; rintro e w1 ⟨rfl, hb⟩; obtain ⟨hc, hf⟩ := bcell hb; have hz := bsize hb; have hs := hb.size; try simp at hs))
        exact hK _ _ (by (first | ((repeat' with_reducible first | assumption | exact Below.refl _ _ | apply Blw.alloc | apply Blw.drew | apply Blw.drewN | (refine Blw.after ?_ (by assumption)) | (refine Blw.set ?_ (by first | (dsimp only; omega) | (simp; omega)) _)); done) | (repeat' (first | assumption | exact Below.refl _ _ | apply Blw.alloc | apply Blw.drew | apply Blw.drewN | (refine Blw.after ?_ (by assumption)) | (refine Blw.set ?_ (by first | (dsimp only; omega) | (simp; done) | (simp; omega)) _))))) rfl
      intro u w2 hH hF hne
      have hH1 := hH.1
      have hH2 := hH.2.2.2
      simp only [allFacts, SlotFact.h] at hF
      obtain ⟨f45, f46, f47, f48, f49, f50, -⟩ := hF
      simp only [setU, upd, List.map_cons, List.map_nil, List.contains_cons, List.contains_nil, Nat.reduceBEq, Nat.reduceAdd, Bool.or_false, Bool.false_or, Bool.or_true, Bool.true_or, Bool.false_eq_true, if_false, if_true, ite_true, ite_false, Nat.reduceEqDiff, beq_self_eq_true]
      rw [f45, f46, f47, f48, f49, f50]
      clear f45 f46 f47 f48 f49 f50 hne
      refine wpListS_step fun K hK => ?_
      go_wp2_with (fail)
      refine hK _ _ (by go_simp) ?_
      clear hK
      refine wpListS_step fun K hK => ?_
      go_wp2_with (fail)
      refine hK _ _ (by go_simp) ?_
      clear hK
      refine wpListS_step fun K hK => ?_
      go_wp2_with (fail)
      refine hK _ _ (by go_simp) ?_
      clear hK
      refine wpListS_nil ?_
      go_wp2_with fail
      exact bodyPost_ret (v := .tuple #[pr (qn n (x, y)).1 (qn n (x, y)).2, pr (rn n (x, y)).1 (rn n (x, y)).2, .bool true]) (by simp [results, Tryd.results19, go_sem, *]) rfl ⟨by rw [HV.out], by (first | ((repeat' with_reducible first | assumption | exact Below.refl _ _ | apply Blw.alloc | apply Blw.drew | apply Blw.drewN | (refine Blw.after ?_ (by assumption)) | (refine Blw.set ?_ (by first | (dsimp only; omega) | (simp; omega)) _)); done) | (repeat' (first | assumption | exact Below.refl _ _ | apply Blw.alloc | apply Blw.drew | apply Blw.drewN | (refine Blw.after ?_ (by assumption)) | (refine Blw.set ?_ (by first | (dsimp only; omega) | (simp; done) | (simp; omega)) _))))⟩
    · have HV := Lib.hid (spV_no (a := a) (x := x) (y := y) (by unfold okT; rw [h1, h2]; rfl))
      have H1 : a < 0 ∨ (0 ≤ a ∧ 12 < a) := by
        simp only [inR, Bool.and_eq_false_iff, decide_eq_false_iff_not] at h1; omega
      clear h1 h2
      generalize txB x y = s at *
      rcases H1 with H1 | ⟨H1, H2⟩
      all_goals
        go_enter Tryd.func19, Tryd.ntmps19
        go_wp2_with fail
        generalize hW : World.alloc _ _ = W0
        have kW0_13 : W0.cell? ⟨w.heap.size, 0, none⟩ = some (.int .i64 (x)) := by rw [← hW]; clear hW; first | (go_simp; done) | ((repeat refine keepcell ((Below.refl _ _).alloc (Nat.le_refl _) _) ?_); go_simp; done) | (simp only [frozen?_alloc_cells]; go_simp; done)
        have kW0_14 : W0.cell? ⟨w.heap.size, 1, none⟩ = some (.int .i64 (y)) := by rw [← hW]; clear hW; first | (go_simp; done) | ((repeat refine keepcell ((Below.refl _ _).alloc (Nat.le_refl _) _) ?_); go_simp; done) | (simp only [frozen?_alloc_cells]; go_simp; done)
        have : w.heap.size < W0.heap.size := World.block_lt_of_cell? W0 ⟨w.heap.size, 0, none⟩ (by assumption)
        have kW0_15 : W0.cell? ⟨w.heap.size + 1, 0, none⟩ = some (.int .i64 (0)) := by rw [← hW]; clear hW; first | (go_simp; done) | ((repeat refine keepcell ((Below.refl _ _).alloc (Nat.le_refl _) _) ?_); go_simp; done) | (simp only [frozen?_alloc_cells]; go_simp; done)
        have zW0_15 : W0.frozen? ⟨w.heap.size + 1, 0, none⟩ = false := by rw [← hW]; clear hW; first | (go_simp; done) | ((repeat refine keepcell ((Below.refl _ _).alloc (Nat.le_refl _) _) ?_); go_simp; done) | (simp only [frozen?_alloc_cells]; go_simp; done)
        have kW0_16 : W0.cell? ⟨w.heap.size + 1, 1, none⟩ = some (.int .i64 (0)) := by rw [← hW]; clear hW; first | (go_simp; done) | ((repeat refine keepcell ((Below.refl _ _).alloc (Nat.le_refl _) _) ?_); go_simp; done) | (simp only [frozen?_alloc_cells]; go_simp; done)
        have zW0_16 : W0.frozen? ⟨w.heap.size + 1, 1, none⟩ = false := by rw [← hW]; clear hW; first | (go_simp; done) | ((repeat refine keepcell ((Below.refl _ _).alloc (Nat.le_refl _) _) ?_); go_simp; done) | (simp only [frozen?_alloc_cells]; go_simp; done)
        have : w.heap.size + 1 < W0.heap.size := World.block_lt_of_cell? W0 ⟨w.heap.size + 1, 0, none⟩ (by assumption)
        have kW0_17 : W0.cell? ⟨w.heap.size + 2, 0, none⟩ = some (.int .i64 (0)) := by rw [← hW]; clear hW; first | (go_simp; done) | ((repeat refine keepcell ((Below.refl _ _).alloc (Nat.le_refl _) _) ?_); go_simp; done) | (simp only [frozen?_alloc_cells]; go_simp; done)
        have zW0_17 : W0.frozen? ⟨w.heap.size + 2, 0, none⟩ = false := by rw [← hW]; clear hW; first | (go_simp; done) | ((repeat refine keepcell ((Below.refl _ _).alloc (Nat.le_refl _) _) ?_); go_simp; done) | (simp only [frozen?_alloc_cells]; go_simp; done)
        have kW0_18 : W0.cell? ⟨w.heap.size + 2, 1, none⟩ = some (.int .i64 (0)) := by rw [← hW]; clear hW; first | (go_simp; done) | ((repeat refine keepcell ((Below.refl _ _).alloc (Nat.le_refl _) _) ?_); go_simp; done) | (simp only [frozen?_alloc_cells]; go_simp; done)
        have zW0_18 : W0.frozen? ⟨w.heap.size + 2, 1, none⟩ = false := by rw [← hW]; clear hW; first | (go_simp; done) | ((repeat refine keepcell ((Below.refl _ _).alloc (Nat.le_refl _) _) ?_); go_simp; done) | (simp only [frozen?_alloc_cells]; go_simp; done)
        have : w.heap.size + 2 < W0.heap.size := World.block_lt_of_cell? W0 ⟨w.heap.size + 2, 0, none⟩ (by assumption)
        have hBW0 : Below w.heap.size w W0 := by rw [← hW]; (first | ((repeat' with_reducible first | assumption | exact Below.refl _ _ | apply Blw.alloc | apply Blw.drew | apply Blw.drewN | (refine Blw.after ?_ (by assumption)) | (refine Blw.set ?_ (by first | (dsimp only; omega) | (simp; omega)) _)); done) | (repeat' (first | assumption | exact Below.refl _ _ | apply Blw.alloc | apply Blw.drew | apply Blw.drewN | (refine Blw.after ?_ (by assumption)) | (refine Blw.set ?_ (by first | (dsimp only; omega) | (simp; done) | (simp; omega)) _))))
        have hsW0 := hBW0.size
        clear hW
        go_wp2_with (fail)
        refine (HD.out _).mono ?_
        rintro e wA ⟨rfl, hbwA⟩
        have hkwA : Hld W0 wA := heldM (by (first | ((repeat' with_reducible first | assumption | exact Below.refl _ _ | apply Blw.alloc | apply Blw.drew | apply Blw.drewN | (refine Blw.after ?_ (by assumption)) | (refine Blw.set ?_ (by first | (dsimp only; omega) | (simp; omega)) _)); done) | (repeat' (first | assumption | exact Below.refl _ _ | apply Blw.alloc | apply Blw.drew | apply Blw.drewN | (refine Blw.after ?_ (by assumption)) | (refine Blw.set ?_ (by first | (dsimp only; omega) | (simp; done) | (simp; omega)) _)))))
        have hlwA := hkwA.1
        have hswA := hkwA.2.2.2
        try (have : w.heap.size < wA.heap.size := by omega)
        try (have : w.heap.size + 1 < wA.heap.size := by omega)
        try (have : w.heap.size + 2 < wA.heap.size := by omega)
        go_wp2_with fail
        exact bodyPost_ret (v := .tuple #[pr 0 0, pr 0 0, .bool false]) (by simp [results, Tryd.results19, go_sem, *]) rfl ⟨by rw [HV.out], by (first | ((repeat' with_reducible first | assumption | exact Below.refl _ _ | apply Blw.alloc | apply Blw.drew | apply Blw.drewN | (refine Blw.after ?_ (by assumption)) | (refine Blw.set ?_ (by first | (dsimp only; omega) | (simp; omega)) _)); done) | (repeat' (first | assumption | exact Below.refl _ _ | apply Blw.alloc | apply Blw.drew | apply Blw.drewN | (refine Blw.after ?_ (by assumption)) | (refine Blw.set ?_ (by first | (dsimp only; omega) | (simp; done) | (simp; omega)) _))))⟩
  · have HV := Lib.hid (spV_no (a := a) (x := x) (y := y) (by unfold okT; rw [h2, Bool.and_false]))
    have HD := Lib.hid (fun w => iDigitsOf_c x y w)
    have e : ofV x y = .tuple #[.string ⟨#[]⟩, .bool false] := by unfold ofV; rw [h2]; rfl
    rw [e] at HD
    go_enter Tryd.func19, Tryd.ntmps19
    go_wp2_with fail
    generalize hW : World.alloc _ _ = W0
    have kW0_19 : W0.cell? ⟨w.heap.size, 0, none⟩ = some (.int .i64 (x)) := by rw [← hW]; clear hW; first | (go_simp; done) | ((repeat refine keepcell ((Below.refl _ _).alloc (Nat.le_refl _) _) ?_); go_simp; done) | (simp only [frozen?_alloc_cells]; go_simp; done)
    have kW0_20 : W0.cell? ⟨w.heap.size, 1, none⟩ = some (.int .i64 (y)) := by rw [← hW]; clear hW; first | (go_simp; done) | ((repeat refine keepcell ((Below.refl _ _).alloc (Nat.le_refl _) _) ?_); go_simp; done) | (simp only [frozen?_alloc_cells]; go_simp; done)
    have : w.heap.size < W0.heap.size := World.block_lt_of_cell? W0 ⟨w.heap.size, 0, none⟩ (by assumption)
    have kW0_21 : W0.cell? ⟨w.heap.size + 1, 0, none⟩ = some (.int .i64 (0)) := by rw [← hW]; clear hW; first | (go_simp; done) | ((repeat refine keepcell ((Below.refl _ _).alloc (Nat.le_refl _) _) ?_); go_simp; done) | (simp only [frozen?_alloc_cells]; go_simp; done)
    have zW0_21 : W0.frozen? ⟨w.heap.size + 1, 0, none⟩ = false := by rw [← hW]; clear hW; first | (go_simp; done) | ((repeat refine keepcell ((Below.refl _ _).alloc (Nat.le_refl _) _) ?_); go_simp; done) | (simp only [frozen?_alloc_cells]; go_simp; done)
    have kW0_22 : W0.cell? ⟨w.heap.size + 1, 1, none⟩ = some (.int .i64 (0)) := by rw [← hW]; clear hW; first | (go_simp; done) | ((repeat refine keepcell ((Below.refl _ _).alloc (Nat.le_refl _) _) ?_); go_simp; done) | (simp only [frozen?_alloc_cells]; go_simp; done)
    have zW0_22 : W0.frozen? ⟨w.heap.size + 1, 1, none⟩ = false := by rw [← hW]; clear hW; first | (go_simp; done) | ((repeat refine keepcell ((Below.refl _ _).alloc (Nat.le_refl _) _) ?_); go_simp; done) | (simp only [frozen?_alloc_cells]; go_simp; done)
    have : w.heap.size + 1 < W0.heap.size := World.block_lt_of_cell? W0 ⟨w.heap.size + 1, 0, none⟩ (by assumption)
    have kW0_23 : W0.cell? ⟨w.heap.size + 2, 0, none⟩ = some (.int .i64 (0)) := by rw [← hW]; clear hW; first | (go_simp; done) | ((repeat refine keepcell ((Below.refl _ _).alloc (Nat.le_refl _) _) ?_); go_simp; done) | (simp only [frozen?_alloc_cells]; go_simp; done)
    have zW0_23 : W0.frozen? ⟨w.heap.size + 2, 0, none⟩ = false := by rw [← hW]; clear hW; first | (go_simp; done) | ((repeat refine keepcell ((Below.refl _ _).alloc (Nat.le_refl _) _) ?_); go_simp; done) | (simp only [frozen?_alloc_cells]; go_simp; done)
    have kW0_24 : W0.cell? ⟨w.heap.size + 2, 1, none⟩ = some (.int .i64 (0)) := by rw [← hW]; clear hW; first | (go_simp; done) | ((repeat refine keepcell ((Below.refl _ _).alloc (Nat.le_refl _) _) ?_); go_simp; done) | (simp only [frozen?_alloc_cells]; go_simp; done)
    have zW0_24 : W0.frozen? ⟨w.heap.size + 2, 1, none⟩ = false := by rw [← hW]; clear hW; first | (go_simp; done) | ((repeat refine keepcell ((Below.refl _ _).alloc (Nat.le_refl _) _) ?_); go_simp; done) | (simp only [frozen?_alloc_cells]; go_simp; done)
    have : w.heap.size + 2 < W0.heap.size := World.block_lt_of_cell? W0 ⟨w.heap.size + 2, 0, none⟩ (by assumption)
    have hBW0 : Below w.heap.size w W0 := by rw [← hW]; (first | ((repeat' with_reducible first | assumption | exact Below.refl _ _ | apply Blw.alloc | apply Blw.drew | apply Blw.drewN | (refine Blw.after ?_ (by assumption)) | (refine Blw.set ?_ (by first | (dsimp only; omega) | (simp; omega)) _)); done) | (repeat' (first | assumption | exact Below.refl _ _ | apply Blw.alloc | apply Blw.drew | apply Blw.drewN | (refine Blw.after ?_ (by assumption)) | (refine Blw.set ?_ (by first | (dsimp only; omega) | (simp; done) | (simp; omega)) _))))
    have hsW0 := hBW0.size
    clear hW
    go_wp2_with (fail)
    refine (HD.out _).mono ?_
    rintro e wA ⟨rfl, hbwA⟩
    have hkwA : Hld W0 wA := heldM (by (first | ((repeat' with_reducible first | assumption | exact Below.refl _ _ | apply Blw.alloc | apply Blw.drew | apply Blw.drewN | (refine Blw.after ?_ (by assumption)) | (refine Blw.set ?_ (by first | (dsimp only; omega) | (simp; omega)) _)); done) | (repeat' (first | assumption | exact Below.refl _ _ | apply Blw.alloc | apply Blw.drew | apply Blw.drewN | (refine Blw.after ?_ (by assumption)) | (refine Blw.set ?_ (by first | (dsimp only; omega) | (simp; done) | (simp; omega)) _)))))
    have hlwA := hkwA.1
    have hswA := hkwA.2.2.2
    try (have : w.heap.size < wA.heap.size := by omega)
    try (have : w.heap.size + 1 < wA.heap.size := by omega)
    try (have : w.heap.size + 2 < wA.heap.size := by omega)
    go_wp2_with fail
    exact bodyPost_ret (v := .tuple #[pr 0 0, pr 0 0, .bool false]) (by simp [results, Tryd.results19, go_sem, *]) rfl ⟨by rw [HV.out], by (first | ((repeat' with_reducible first | assumption | exact Below.refl _ _ | apply Blw.alloc | apply Blw.drew | apply Blw.drewN | (refine Blw.after ?_ (by assumption)) | (refine Blw.set ?_ (by first | (dsimp only; omega) | (simp; omega)) _)); done) | (repeat' (first | assumption | exact Below.refl _ _ | apply Blw.alloc | apply Blw.drew | apply Blw.drewN | (refine Blw.after ?_ (by assumption)) | (refine Blw.set ?_ (by first | (dsimp only; omega) | (simp; done) | (simp; omega)) _))))⟩
end Go.Proofs.YtaleeoghifcadaaDoor

namespace Go.Proofs.YtaleeoghifcadaaDoor
set_option linter.unusedSimpArgs false
set_option linter.unusedVariables false
open Go.RowKit Ieee
open Go.ChangeMaps Go.MapKept

theorem Below.map {w w' : World} {b : Nat} {es : Array MapEntry} {c : Nat} {o' : Obj} (h : Below w.heap.size w w') (hb : w.heap.size ≤ b) (hx : w'.heap[b]? = some (.map es c)) : Below w.heap.size w (setBlock w' b o') :=
  h.trans ⟨rfl, rfl, rfl, by simp [setBlock], fun k hk => heap_setBlock_other hx _ (by omega)⟩
/-- the entries of the first numbers of a tile -/
def tlE (n k : Nat) : List (En ZZ) := (List.range k).map fun i => (i, tp n i, Value.int .i64 (i : Int))
theorem tlE_succ (n k : Nat) : tlE n (k + 1) = tlE n k ++ [(k, tp n k, Value.int .i64 (k : Int))] := by
  unfold tlE; rw [List.range_succ, List.map_append]; rfl
theorem tlE_mem {n k : Nat} {x : En ZZ} : x ∈ tlE n k ↔ ∃ i, i < k ∧ x = (i, tp n i, Value.int .i64 (i : Int)) := by
  unfold tlE
  rw [List.mem_map]
  constructor
  · rintro ⟨i, hi, rfl⟩; exact ⟨i, List.mem_range.1 hi, rfl⟩
  · rintro ⟨i, hi, rfl⟩; exact ⟨i, List.mem_range.2 hi, rfl⟩
theorem tlE_ok {n k : Nat} (hn : n ≤ 8) (hk : k ≤ 2 ^ n) : ∀ x ∈ tlE n k, okP x.2.1 := by
  intro x hx
  obtain ⟨i, hi, rfl⟩ := tlE_mem.1 hx
  have := tp_in hn (i := i) (by omega)
  exact ⟨Nat.le_trans this.1 (by omega), Nat.le_trans this.2 (by omega)⟩
theorem tlE_new {n k : Nat} (hk : k < 2 ^ n) : hasE (tlE n k) (tp n k) = false := by
  cases h : hasE (tlE n k) (tp n k) with
  | false => rfl
  | true =>
    obtain ⟨x, hx, e⟩ := (hasE_iff _ _).1 h
    obtain ⟨i, hi, rfl⟩ := tlE_mem.1 hx
    have := tp_inj (n := n) (i := k) (j := i) hk (by omega) e
    omega
theorem tlE_len (n k : Nat) : (tlE n k).length = k := by simp [tlE]
theorem tlE_born (n k : Nat) : ((tlE n k).map (·.1)) = List.range k := by simp [tlE, Function.comp_def]
theorem tlE_nodup (n k : Nat) : ((tlE n k).map (·.1)).Nodup := by rw [tlE_born]; exact List.nodup_range
theorem tlE_keys {n : Nat} : ((tlE n (2 ^ n)).map (fun y => y.2.1)).Nodup := by
  have e : (tlE n (2 ^ n)).map (fun y => y.2.1) = (List.range (2 ^ n)).map (tp n) := by simp [tlE, Function.comp_def]
  rw [e]
  refine List.Pairwise.map (tp n) (R := fun a b => a < b ∧ b < 2 ^ n) ?_ ?_
  · intro a b h e2
    have := tp_inj (n := n) (by omega) h.2 e2
    omega
  · have h1 := List.pairwise_lt_range (n := 2 ^ n)
    exact h1.imp_of_mem (fun _ hb h => ⟨h, List.mem_range.1 hb⟩)
theorem tlE_has {n : Nat} (z : ZZ) : hasE (tlE n (2 ^ n)) z = decide (qn n z = (0, 0)) := by
  rw [Bool.eq_iff_iff, decide_eq_true_eq, hasE_iff]
  constructor
  · rintro ⟨x, hx, rfl⟩
    obtain ⟨i, hi, rfl⟩ := tlE_mem.1 hx
    exact qn_tp n i
  · intro h
    exact ⟨_, tlE_mem.2 ⟨ix n z, ix_lt n z, rfl⟩, (tp_ix n z h).symm⟩
def TofRel (n : Nat) (w : World) (m : Nat) (i : Value) (wr : World) : Prop :=
  ∃ k : Nat, k + m = 2 ^ n ∧ i = .int .i64 k ∧ Below w.heap.size w wr ∧ wr.heap[w.heap.size]? = some (.map (mkA encP (tlE n k)) k)
/-- the map at b is a tile -/
def TileAt (n : Nat) (w : World) (b : Nat) : Prop := w.heap[b]? = some (.map (mkA encP (tlE n (2 ^ n))) (2 ^ n))
def TofPost (a : Int) (w : World) (e : Ending) (w' : World) : Prop :=
  (inR 0 8 a = false ∧ e = .returned (.tuple #[.map none, .bool false]) ∧ Below w.heap.size w w') ∨
  (inR 0 8 a = true ∧ e = .returned (.tuple #[.map (some w.heap.size), .bool true]) ∧ TileAt a.toNat w' w.heap.size ∧ Below w.heap.size w w')
theorem pow8 {n : Nat} (h : n ≤ 8) : 2 ^ n ≤ 256 := by
  have h1 : 2 ^ n ≤ 2 ^ 8 := Nat.pow_le_pow_right (by omega) h
  have h2 : (2 : Nat) ^ 8 = 256 := by decide
  omega
set_option maxRecDepth 100000 in
set_option maxHeartbeats 4000000 in
theorem tileOf_c (a : Int) (w : World) (hT : Two w) (h6 : 5 < w.heap.size) : Calls Tryd.prog 58 #[.int .i64 a] w (TofPost a w) := by
  have hmm := @run_makeMap Tryd.prog
  have HT := Lib.hid hT
  clear hT
  rcases Bool.eq_false_or_eq_true (inR 0 8 a) with h1 | h1
  · have H1 := inR_le h1
    obtain ⟨n, rfl⟩ : ∃ n : Nat, a = (n : Int) := ⟨a.toNat, by omega⟩
    have hn : n ≤ 8 := by omega
    have HH := Lib.hid h1
    have p8 := pow8 hn
    have pw : wrap64 (2 ^ n) = ((2 ^ n : Nat) : Int) := by
      have e : (2 : Int) ^ n = ((2 ^ n : Nat) : Int) := by push_cast; rfl
      rw [e]
      generalize 2 ^ n = P at *
      unfold wrap64
      omega
    obtain ⟨P, hP⟩ : ∃ P : Nat, 2 ^ n = P := ⟨_, rfl⟩
    rw [hP] at pw p8
    have HQ := Lib.hid hP
    clear h1 hP
    go_enter Tryd.func58, Tryd.ntmps58
    go_wp2_with fail
    rw [pw]
    clear pw
    generalize hW : World.alloc _ _ = W0
    have m0 : W0.heap[w.heap.size]? = some (.map (mkA encP (tlE n 0)) 0) := by rw [← hW]; exact (MapKept.heap_alloc _ _).1
    have hB0 : Below w.heap.size w W0 := by rw [← hW]; (first | ((repeat' with_reducible first | assumption | exact Below.refl _ _ | apply Blw.alloc | apply Blw.drew | apply Blw.drewN | (refine Blw.after ?_ (by assumption)) | (refine Blw.set ?_ (by first | (dsimp only; omega) | (simp; omega)) _)); done) | (repeat' (first | assumption | exact Below.refl _ _ | apply Blw.alloc | apply Blw.drew | apply Blw.drewN | (refine Blw.after ?_ (by assumption)) | (refine Blw.set ?_ (by first | (dsimp only; omega) | (simp; done) | (simp; omega)) _))))
    clear hW
    go_loopg [16] P (fun m i wr => TofRel n w m i wr)
    case atStart => exact ⟨0, by rw [HQ.out]; omega, rfl, hB0, m0⟩
    case round =>
      clear m0 hB0
      obtain ⟨k, hk, rfl, hBw, hmap⟩ := hrel
      have L0 : w.heap.size < wr.heap.size := (Array.getElem?_eq_some_iff.1 hmap).1
      rw [HQ.out] at hk
      have HK := Lib.hid hk
      by_cases hlt : k < P
      · have T1 := Lib.hid (HT.out.keep h6 hBw)
        have HL := Lib.hid (show k < 2 ^ n by rw [HQ.out]; exact hlt)
        have HL2 := Lib.hid hlt
        have hk1 : k ≤ 255 := by omega
        have hki : (k : Int) < ((2 ^ n : Nat) : Int) := by rw [HQ.out]; omega
        clear hk hlt
        go_wp2_with fail
        refine (num_c k wr (by omega) T1.out (by omega)).mono ?_
        rintro e wA ⟨l, rfl, hg, hbA⟩
        have hv : valF l = tp n k := by
          have h := val_tp l hg.1 n (by rw [hg.2.1]; exact hki)
          rw [hg.2.1, Int.toNat_natCast] at h; exact h
        have ht := tp_in hn HL.out
        have hok : okP (tp n k) := ⟨Nat.le_trans ht.1 (by omega), Nat.le_trans ht.2 (by omega)⟩
        have HP := Lib.hid (fun w => pair_of (s := bs l) (z := tp n k) (by rw [toL_bs]; exact hg.1) (by rw [bs_sz]; exact hg.2.2) (by rw [toL_bs]; exact hv) w)
        have HA := Lib.hid (fun w => pointAt_c (tp n k) w hok)
        have hBA := Blw.after hBw hbA
        have hmA := (hbA.block _ L0).trans hmap
        have LA := hbA.size
        clear hv ht hg hbA hBw hmap
        go_wp2_with fail
        refine (HP.out _).mono ?_
        rintro e wB ⟨rfl, hbB⟩
        have hBB := Blw.after hBA hbB
        have hmB := (hbB.block _ (by omega)).trans hmA
        have LB := hbB.size
        clear hBA hmA hbB
        go_wp2_with fail
        refine (HA.out _).mono ?_
        rintro e wC ⟨rfl, hbC⟩
        have hBC := Blw.after hBB hbC
        have hmC := (hbC.block _ (by omega)).trans hmB
        have hu := newE Tryd.underlying72 keyP wC hmC hok (tlE_ok hn (by have := HL.out; omega)) (tlE_new HL.out) (.int .i64 (k : Int))
        rw [← tlE_succ] at hu
        have HM := Lib.hid (heap_setBlock_same hmC (.map (mkA encP (tlE n (k + 1))) (k + 1)))
        have HB := Lib.hid (Below.map (o' := .map (mkA encP (tlE n (k + 1))) (k + 1)) hBC (Nat.le_refl _) hmC)
        generalize setBlock wC w.heap.size (.map (mkA encP (tlE n (k + 1))) (k + 1)) = W2 at *
        generalize encP (tp n k) = z at *
        clear hBB hmB hbC hBC hmC hok
        go_wp2
        go_roundg (gk - 1)
        case measure => have := HK.out; have := HL2.out; omega
        case rel => exact ⟨k + 1, by rw [HQ.out]; have := HK.out; have := HL2.out; omega, by go_num, HB.out, HM.out⟩
      · obtain rfl : k = P := by omega
        have HX := Lib.hid (And.intro hBw (show TileAt n wr w.heap.size by unfold TileAt; rw [HQ.out]; exact hmap))
        clear hBw hmap hk
        go_wp2
        go_ret2
        exact Or.inr ⟨HH.out, rfl, by rw [Int.toNat_natCast]; exact HX.out.2, HX.out.1⟩
  · have H1 : a < 0 ∨ (0 ≤ a ∧ 8 < a) := by
      simp only [inR, Bool.and_eq_false_iff, decide_eq_false_iff_not] at h1; omega
    have HH := Lib.hid h1
    clear h1
    rcases H1 with H1 | ⟨H1, H2⟩
    all_goals
      go_enter Tryd.func58, Tryd.ntmps58
      go_wp2
      go_ret2
      exact Or.inl ⟨HH.out, rfl, by (first | ((repeat' with_reducible first | assumption | exact Below.refl _ _ | apply Blw.alloc | apply Blw.drew | apply Blw.drewN | (refine Blw.after ?_ (by assumption)) | (refine Blw.set ?_ (by first | (dsimp only; omega) | (simp; omega)) _)); done) | (repeat' (first | assumption | exact Below.refl _ _ | apply Blw.alloc | apply Blw.drew | apply Blw.drewN | (refine Blw.after ?_ (by assumption)) | (refine Blw.set ?_ (by first | (dsimp only; omega) | (simp; done) | (simp; omega)) _))))⟩
end Go.Proofs.YtaleeoghifcadaaDoor

namespace Go.Proofs.YtaleeoghifcadaaDoor
set_option linter.unusedSimpArgs false
set_option linter.unusedVariables false
open Go.RowKit Ieee
open Go.ChangeMaps Go.MapKept

theorem lenE {α : Type} {P : Program} {M k el ty : TypeId} {enc : α → Value} (hM : P.underlying M = some (.map k el)) (w : World) {b c : Nat} {E : List (En α)} (hb : w.heap[b]? = some (.map (mkA enc E) c)) :
    (Builtin.len_ #[M] ty #[.map (some b)]).run P w = .ok (.int .i64 (E.length : Int)) w := by
  simp [Builtin.len_, run_underlying hM, Go.MapKept.run_getObj_map hb, goInt, Result.andThen, mkA]
set_option maxRecDepth 100000 in
theorem sTilePoints_c (a : Int) (w : World) : Calls Tryd.prog 23 #[.int .i64 a] w (PtsPost a w) := by
  rcases Bool.eq_false_or_eq_true (inR 0 8 a) with h1 | h1
  · have H1 := inR_le h1
    have HT := Lib.hid (show ptsT a = allT a.toNat by unfold ptsT; rw [if_pos h1])
    have HH := Lib.hid h1
    obtain ⟨n, rfl⟩ : ∃ n : Nat, a = (n : Int) := ⟨a.toNat, by omega⟩
    rw [Int.toNat_natCast] at HT
    go_enter Tryd.func23, Tryd.ntmps23
    go_wp2_with (first | (go_at_call 48; refine (l6In_c _ _ _ _).mono ?_; rintro e w1 ⟨rfl, rfl⟩) | (go_at_call 60; fail))
    refine (l6tAll_c n w (by omega)).mono ?_
    rintro e w1 ⟨v, rfl, ho, hb⟩
    have HO := Lib.hid ho
    clear ho
    go_wp2_with fail
    go_ret2
    exact ⟨v, by rw [HH.out]; rfl, by rw [HT.out]; exact HO.out, hb⟩
  · have HT := Lib.hid (show ptsT a = [] by unfold ptsT; rw [if_neg (by rw [h1]; decide)])
    have HH := Lib.hid h1
    go_enter Tryd.func23, Tryd.ntmps23
    go_wp2_with (first | (go_at_call 48; refine (l6In_c _ _ _ _).mono ?_; rintro e w1 ⟨rfl, rfl⟩))
    go_ret2
    exact ⟨_, by rw [HH.out]; rfl, by rw [HT.out]; exact ⟨_, _, rfl, Or.inl rfl, Or.inl rfl⟩, by (first | ((repeat' with_reducible first | assumption | exact Below.refl _ _ | apply Blw.alloc | apply Blw.drew | apply Blw.drewN | (refine Blw.after ?_ (by assumption)) | (refine Blw.set ?_ (by first | (dsimp only; omega) | (simp; omega)) _)); done) | (repeat' (first | assumption | exact Below.refl _ _ | apply Blw.alloc | apply Blw.drew | apply Blw.drewN | (refine Blw.after ?_ (by assumption)) | (refine Blw.set ?_ (by first | (dsimp only; omega) | (simp; done) | (simp; omega)) _))))⟩
/-- the numbers that have come lie at their indexes -/
def Put (g : Nat) (D : List (En ZZ)) (w : World) : Prop := ∀ x ∈ D, w.cell? ⟨g, x.1 * 2, none⟩ = some (.int .i64 x.2.1.1) ∧ w.cell? ⟨g, x.1 * 2 + 1, none⟩ = some (.int .i64 x.2.1.2)
def There (g n : Nat) (w : World) : Prop := ∀ j, j < n → (∃ u, w.cell? ⟨g, j, none⟩ = some u)
def TpRel (n : Nat) (w : World) (g r : Nat) (m : Nat) (wr : World) : Prop :=
  ∃ D R, R.length = m ∧ IterAt encP wr w.heap.size r (tlE n (2 ^ n)) (2 ^ n) D R ∧ Put g D wr ∧ There g (2 ^ n * 2) wr ∧ (∀ j, wr.frozen? ⟨g, j, none⟩ = false) ∧ Below w.heap.size w wr
theorem Put.keep {g : Nat} {D : List (En ZZ)} {w w' : World} (h : Put g D w) (hc : ∀ j u, w.cell? ⟨g, j, none⟩ = some u → w'.cell? ⟨g, j, none⟩ = some u) : Put g D w' := fun x hx => ⟨hc _ _ (h x hx).1, hc _ _ (h x hx).2⟩
theorem There.keep {g n : Nat} {w w' : World} (h : There g n w) (hc : ∀ j u, w.cell? ⟨g, j, none⟩ = some u → w'.cell? ⟨g, j, none⟩ = some u) : There g n w' := fun j hj => by
  obtain ⟨u, hu⟩ := h j hj; exact ⟨u, hc j u hu⟩
theorem IterAt.lt {α : Type} {enc : α → Value} {w : World} {b r c : Nat} {E D R : List (En α)} (h : IterAt enc w b r E c D R) : b < w.heap.size ∧ r < w.heap.size ∧ r ≠ b := by
  obtain ⟨since, seen, c0, hb, hr, _⟩ := h
  exact ⟨(Array.getElem?_eq_some_iff.1 hb).1, (Array.getElem?_eq_some_iff.1 hr).1, fun e => by rw [e, hb] at hr; cases hr⟩
theorem IterAt.below {α : Type} {enc : α → Value} {w w' : World} {b r c : Nat} {E D R : List (En α)} (h : IterAt enc w b r E c D R) (hb : Below w.heap.size w w') : IterAt enc w' b r E c D R :=
  h.kept (row := none) ⟨hb.os, hb.tape, hb.output, hb.size, fun i hi _ => hb.block i hi⟩ (by simp) (by simp)
theorem IterAt.set {α : Type} {enc : α → Value} {w : World} {b r c : Nat} {E D R : List (En α)} (h : IterAt enc w b r E c D R) {a : Addr} (h1 : b ≠ a.block) (h2 : r ≠ a.block) (v : Value) : IterAt enc (w.setCell a v) b r E c D R := by
  obtain ⟨since, seen, c0, hb, hr, rest⟩ := h
  exact ⟨since, seen, c0, (Below.heap_setCell _ _ _ _ h1).trans hb, (Below.heap_setCell _ _ _ _ h2).trans hr, rest⟩
set_option maxRecDepth 100000 in
set_option maxHeartbeats 4000000 in
theorem iTilePoints_c (a : Int) (w : World) (hT : Two w) (h6 : 5 < w.heap.size) : Calls Tryd.prog 22 #[.int .i64 a] w (PtsPost a w) := by
  obtain ⟨i0, hi, hz0, hz1, hz2⟩ := info_parts infoG
  go_enter Tryd.func22, Tryd.ntmps22
  go_wp2_with fail
  refine (tileOf_c a w hT h6).mono ?_
  rintro e w1 (⟨h1, rfl, hb⟩ | ⟨h1, rfl, hm, hb⟩)
  · have HT := Lib.hid (show ptsT a = [] by unfold ptsT; rw [if_neg (by rw [h1]; decide)])
    have HH := Lib.hid h1
    clear h1
    go_wp2_with fail
    go_ret2
    exact ⟨_, by rw [HH.out]; rfl, by rw [HT.out]; exact ⟨_, _, rfl, Or.inl rfl, Or.inl rfl⟩, hb⟩
  · have H1 := inR_le h1
    have HH := Lib.hid h1
    have HT := Lib.hid (show ptsT a = (List.range (2 ^ a.toNat)).map (tp a.toNat) by unfold ptsT; rw [if_pos h1]; exact allT_tp (by omega))
    have hn : a.toNat ≤ 8 := by omega
    generalize a.toNat = n at *
    have p8 := pow8 hn
    have p1 : 1 ≤ 2 ^ n := Nat.one_le_two_pow
    have hln := fun t => lenE (ty := t) Tryd.underlying72 w1 hm
    rw [tlE_len] at hln
    have HM := Lib.hid hm
    have HB := Lib.hid hb
    have L1 : w.heap.size < w1.heap.size := (Array.getElem?_eq_some_iff.1 hm).1
    clear h1 hm hb hT
    obtain ⟨N, hN⟩ : ∃ N : Nat, 2 ^ n = N := ⟨_, rfl⟩
    rw [hN] at p8 p1 hln
    have HN := Lib.hid hN
    clear hN
    go_wp2_with (at_make; refine wpList_make_full _ rfl _ _ 34 rfl w1.heap.size 24 i0 (.agg #[.int .i64 0, .int .i64 0]) 2 Tryd.underlying34 hi hz0 hz1 .i64 .i64 _ _ N rfl rfl rfl rfl (by rw [hz2]; omega) (by unfold maxLen; omega) (Nat.le_refl _) ?_)
    intro w2 hown hgrow
    have LZ : w1.heap.size < w2.heap.size := (hown.lt w1.heap.size rfl).2
    have HM2 := Lib.hid (show TileAt n w2 w.heap.size from (hgrow.block _ L1 (by simp)).trans HM.out)
    have HT2 := Lib.hid (show There w1.heap.size (2 ^ n * 2) w2 from fun j hj => by
      rw [HN.out] at hj
      have := hown.cellAt j hj
      rw [this]
      exact ⟨_, List.getElem?_eq_getElem (by rw [hown.1]; exact hj)⟩)
    have HF2 := Lib.hid (fun j => hown.frozenAt j)
    have HB2 := Lib.hid (show Below w.heap.size w w2 from Below.grown HB.out hgrow HB.out.size (fun k hk => by cases hk))
    clear hown hgrow
    go_wp2_with (first | (at_range; refine wpList_rangeE (M := 72) (enc := encP) _ rfl _ rfl Tryd.underlying72 w.heap.size (2 ^ n) (tlE n (2 ^ n)) rfl HM2.out (fun x hx => by obtain ⟨i, hi, rfl⟩ := tlE_mem.1 hx; exact hi) (tlE_nodup _ _) ?_; intro w3 hit hg3 hs3) | fail)
    go_frame
    have HB3 := Lib.hid (show Below w.heap.size w w3 from Below.grown HB2.out hg3 HB2.out.size (fun k hk => by cases hk))
    have LI : w2.heap.size < w3.heap.size := by omega
    have kc : ∀ j u, w2.cell? ⟨w1.heap.size, j, none⟩ = some u → w3.cell? ⟨w1.heap.size, j, none⟩ = some u := fun j u h => hg3.cell h (by simp)
    have S0 := Lib.hid (show TpRel n w w1.heap.size w2.heap.size N w3 from ⟨[], _, by rw [tlE_len, HN.out], hit, fun x hx => by simp at hx, HT2.out.keep kc, fun j => (World.frozen?_of_block (a := ⟨w1.heap.size, j, none⟩) (hg3.block _ LZ (by simp))).trans (HF2.out j), HB3.out⟩)
    clear hit hg3 hs3 kc hln
    go_loopg [] N (fun m wr => TpRel n w w1.heap.size w2.heap.size m wr)
    case atStart => exact S0.out
    case round =>
      clear S0
      obtain ⟨D, R, hR, hit, hput, hth, hfz, hBw⟩ := hrel
      obtain ⟨Lb, Lr, hrb⟩ := hit.lt
      have Lg : w1.heap.size < wr.heap.size := by
        obtain ⟨u, hu⟩ := hth 0 (by rw [HN.out]; omega)
        exact World.block_lt_of_cell? wr _ hu
      have HI := Lib.hid hit
      have HX := Lib.hid (And.intro hput (And.intro hth (And.intro hfz hBw)))
      have HR := Lib.hid hR
      clear hit hput hth hfz hBw hR
      go_wp2_with (first | (at_next; refine wpList_nextE (enc := encP) _ rfl _ rfl w.heap.size w2.heap.size (2 ^ n) (tlE n (2 ^ n)) D R rfl HI.out ?_ ?_) | fail)
      · intro hR0 hp
        obtain ⟨hput, hth, hfz, hBw⟩ := HX.out
        have HO := Lib.hid (show OwnG w.heap.size (.slice (some ⟨w1.heap.size, 0, none⟩) N N) (ptsT a) wr from by
          rw [HT.out]
          refine ⟨_, N, by rw [List.length_map, List.length_range, HN.out], Or.inr ⟨w1.heap.size, rfl, fun k x y hk => ?_⟩, Or.inr ⟨w1.heap.size, rfl, by omega, Lg, hfz⟩⟩
          obtain ⟨hk1, hk2⟩ := List.getElem?_eq_some_iff.1 hk
          rw [List.length_map, List.length_range] at hk1
          rw [List.getElem_map, List.getElem_range] at hk2
          have hm := hput (k, tp n k, .int .i64 (k : Int)) (hp.mem_iff.2 (tlE_mem.2 ⟨k, hk1, rfl⟩))
          dsimp only at hm
          rw [hk2] at hm
          exact hm)
        clear hput hth hfz hR0 hp
        go_wp2
        go_ret2
        exact ⟨_, by rw [HH.out]; rfl, HO.out, hBw⟩
      · intro i X Y v w4 R' hx hit4 hlt hperm hg4 hs4 hen
        obtain ⟨i', hi, he⟩ := tlE_mem.1 (HI.out.mem hx)
        simp only [Prod.mk.injEq] at he
        obtain ⟨rfl, hz, rfl⟩ := he
        have HZ := Lib.hid hz
        obtain ⟨hput, hth, hfz, hBw⟩ := HX.out
        have kc : ∀ j u, wr.cell? ⟨w1.heap.size, j, none⟩ = some u → w4.cell? ⟨w1.heap.size, j, none⟩ = some u := fun j u h => hg4.cell h (by simp; omega)
        have hB4 : Below w.heap.size w w4 := Below.grown hBw hg4 hBw.size (fun k hk => by cases hk; omega)
        have hput4 := hput.keep kc
        have hth4 := hth.keep kc
        have hfz4 : ∀ j, w4.frozen? ⟨w1.heap.size, j, none⟩ = false := fun j => (World.frozen?_of_block (a := ⟨w1.heap.size, j, none⟩) (hg4.block _ Lg (by simp; omega))).trans (hfz j)
        have ht := tp_in hn hi
        rw [← hz] at ht
        have HA := Lib.hid (fun w => gaussAt_c (X, Y) w ⟨Nat.le_trans ht.1 (by omega), Nat.le_trans ht.2 (by omega)⟩)
        clear hz
        have L4 : w4.heap.size = wr.heap.size := hs4
        have hiN : i < N := by rw [HN.out] at hi; exact hi
        have HH4 := Lib.hid (And.intro hit4 (And.intro hput4 (And.intro hth4 (And.intro hfz4 hB4))))
        have HLT := Lib.hid hlt
        clear hput hth hfz hBw kc hB4 hput4 hth4 hfz4 ht hit4 hlt hperm hg4 hx hi
        go_wp2_with fail
        refine (HA.out _).mono ?_
        rintro e w5 ⟨rfl, hb5⟩
        obtain ⟨hit4, hput4, hth4, hfz4, hB4⟩ := HH4.out
        have L5 := hb5.size
        have kc : ∀ j u, w4.cell? ⟨w1.heap.size, j, none⟩ = some u → w5.cell? ⟨w1.heap.size, j, none⟩ = some u := fun j u h => keepcell hb5 h
        have hput5 := hput4.keep kc
        have hth5 := hth4.keep kc
        have hfz5 : ∀ j, w5.frozen? ⟨w1.heap.size, j, none⟩ = false := fun j => (hb5.frozen (p := ⟨w1.heap.size, j, none⟩) (show w1.heap.size < w4.heap.size by omega)).trans (hfz4 j)
        have hit5 := hit4.below hb5
        have hB5 := Blw.after hB4 hb5
        obtain ⟨u0, c0⟩ := hth5 (i * 2) (by rw [HN.out]; omega)
        obtain ⟨u1, c1⟩ := hth5 (i * 2 + 1) (by rw [HN.out]; omega)
        have f0 := hfz5 (i * 2)
        have f1 := hfz5 (i * 2 + 1)
        have HH5 := Lib.hid (And.intro hit5 (And.intro hput5 (And.intro hth5 (And.intro hfz5 hB5))))
        have Lg5 : w1.heap.size < w5.heap.size := by omega
        clear hit4 hput4 hth4 hfz4 hB4 kc hput5 hth5 hfz5 hit5 hB5 hb5 HH4 hen
        go_wp2
        go_roundg R'.length
        case measure => have := HLT.out; have := HR.out; omega
        case rel =>
          obtain ⟨hit5, hput5, hth5, hfz5, hB5⟩ := HH5.out
          refine ⟨_, R', rfl, (hit5.set (by dsimp only; omega) (by dsimp only; omega) _).set (by dsimp only; omega) (by dsimp only; omega) _, ?_, ?_, ?_, by (first | ((repeat' with_reducible first | assumption | exact Below.refl _ _ | apply Blw.alloc | apply Blw.drew | apply Blw.drewN | (refine Blw.after ?_ (by assumption)) | (refine Blw.set ?_ (by first | (dsimp only; omega) | (simp; omega)) _)); done) | (repeat' (first | assumption | exact Below.refl _ _ | apply Blw.alloc | apply Blw.drew | apply Blw.drewN | (refine Blw.after ?_ (by assumption)) | (refine Blw.set ?_ (by first | (dsimp only; omega) | (simp; done) | (simp; omega)) _))))⟩
          · intro x hx
            rcases List.mem_append.1 hx with hx | hx
            · obtain ⟨i2, hi2, rfl⟩ := tlE_mem.1 (hit5.perm.mem_iff.1 (List.mem_append_left _ (List.mem_append_left _ hx)))
              have hp := hput5 _ hx
              dsimp only at hp ⊢
              by_cases e : i2 = i
              · subst e
                rw [← HZ.out]
                exact ⟨(cell_set_off (by omega)).trans (cell_set_self c0), cell_set_self ((cell_set_off (by omega)).trans c1)⟩
              · exact ⟨(cell_set_off (by omega)).trans ((cell_set_off (by omega)).trans hp.1), (cell_set_off (by omega)).trans ((cell_set_off (by omega)).trans hp.2)⟩
            · obtain rfl := List.mem_singleton.1 hx
              exact ⟨(cell_set_off (by omega)).trans (cell_set_self c0), cell_set_self ((cell_set_off (by omega)).trans c1)⟩
          · intro j hj
            obtain ⟨u, hu⟩ := hth5 j hj
            by_cases e0 : j = i * 2
            · subst e0; exact ⟨_, (cell_set_off (by omega)).trans (cell_set_self c0)⟩
            · by_cases e1 : j = i * 2 + 1
              · subst e1; exact ⟨_, cell_set_self ((cell_set_off (by omega)).trans c1)⟩
              · exact ⟨u, (cell_set_off (by omega)).trans ((cell_set_off (by omega)).trans hu)⟩
          · intro j
            rw [World.frozen?_setCell, World.frozen?_setCell]; exact hfz5 j
end Go.Proofs.YtaleeoghifcadaaDoor

namespace Go.Proofs.YtaleeoghifcadaaDoor
set_option linter.unusedSimpArgs false
set_option linter.unusedVariables false
open Go.ChangeShapes Go.WideShapes Go.ChangeAt Go.RowKit Go.Joins

section
variable {H : Type} {enc : TypeId × Value → H} {P : Program} {w : World} {base : Nat} {spare : Nat → Bool} {held : Bool} {fuel : Nat} {t : TypeId} {cs : List Value}
theorem rd_int {k : IntKind} {n : Int} {p : List MemPlace} (ht : P.underlying t = some (.int k)) (h : DataW.trod enc P w base spare held fuel t cs = some (.lit (.int k n), p)) : cs = [.int k n] := by
  obtain ⟨m, e1, e2, _⟩ := DataW.trod_int ht h
  simp only [Prod.mk.injEq, DataW.lit.injEq, Lit.int.injEq, true_and] at e2
  rw [e1, e2.1]
theorem rd_str {l : List UInt8} {p : List MemPlace} (ht : P.underlying t = some .string) (h : DataW.trod enc P w base spare held fuel t cs = some (.lit (.string l), p)) : cs = [.string (bs l)] := by
  obtain ⟨s, e1, e2, _⟩ := DataW.trod_string ht h
  simp only [Prod.mk.injEq, DataW.lit.injEq, Lit.string.injEq] at e2
  rw [e1, e2.1]
  rw [show s.data.toList = toL s from rfl, bs_toL]
theorem rd_struct {fs : Array Field} {ds : List (DataW H)} {p : List MemPlace} (ht : P.underlying t = some (.struct fs)) (h : DataW.trod enc P w base spare held fuel t cs = some (.agg ds, p)) {i : Nat} {f : Field} {d : DataW H} (hf : fs[i]? = some f) (hd : ds[i]? = some d) {ft : TypeId} {fo c : Nat} (e1 : f.type = ft) (e2 : f.offset = fo) (e3 : P.cellsOf ft = c) :
    ∃ m q, DataW.trod enc P w base spare held m ft ((cs.drop fo).take c) = some (d, q) := by
  subst e1 e2 e3
  obtain ⟨xs, n, _, e, _, _, hx⟩ := DataW.trod_struct ht h
  simp only [Prod.mk.injEq, DataW.agg.injEq] at e
  have h1 := hx i f hf
  rw [e.1, List.getElem?_map] at hd
  cases hxi : xs[i]? with
  | none => rw [hxi] at hd; simp at hd
  | some x =>
    rw [hxi] at hd h1
    simp only [Option.map_some, Option.some.injEq] at hd
    exact ⟨n, x.2, by rw [h1, ← hd]⟩
theorem rd_array {n : Nat} {e : TypeId} {ds : List (DataW H)} {p : List MemPlace} (ht : P.underlying t = some (.array n e)) (h : DataW.trod enc P w base spare held fuel t cs = some (.agg ds, p)) {i : Nat} {d : DataW H} (hi : i < n) (hd : ds[i]? = some d) :
    ∃ m q, DataW.trod enc P w base spare held m e ((cs.drop (i * P.cellsOf e)).take (P.cellsOf e)) = some (d, q) := by
  obtain ⟨xs, m, _, e, _, _, hx⟩ := DataW.trod_array ht h
  simp only [Prod.mk.injEq, DataW.agg.injEq] at e
  have h1 := hx i hi
  rw [e.1, List.getElem?_map] at hd
  cases hxi : xs[i]? with
  | none => rw [hxi] at hd; simp at hd
  | some x =>
    rw [hxi] at hd h1
    simp only [Option.map_some, Option.some.injEq] at hd
    exact ⟨m, x.2, by rw [h1, ← hd]⟩
theorem at_of_one {l : List Value} {a n k : Nat} {v : Value} (h : (((l.drop a).take n).drop k).take 1 = [v]) (hk : k < n) : l[a + k]? = some v := by
  have e : ((((l.drop a).take n).drop k).take 1)[0]? = some v := by rw [h]; rfl
  rw [List.getElem?_take, if_pos (by omega), List.getElem?_drop, List.getElem?_take, if_pos (by omega), List.getElem?_drop] at e
  simpa using e
theorem drop_take (l : List Value) (a n b m : Nat) (h : b + m ≤ n) : (((l.drop a).take n).drop b).take m = (l.drop (a + b)).take m := by
  apply List.ext_getElem?
  intro i
  simp only [List.getElem?_take, List.getElem?_drop]
  by_cases hi : i < m
  · rw [if_pos hi, if_pos hi, if_pos (by omega), Nat.add_assoc]
  · rw [if_neg hi, if_neg hi]
end
end Go.Proofs.YtaleeoghifcadaaDoor

namespace Go.Proofs.YtaleeoghifcadaaDoor
set_option linter.unusedSimpArgs false
set_option linter.unusedVariables false
open Go.ChangeShapes Go.WideShapes Go.ChangeAt Go.RowKit Go.Joins

theorem d64At : Tryd.prog.globalNamed "math/bits.deBruijn64tab" = some 5 := by kernel_rfl
theorem d64Type : (Tryd.prog.globals[5]?).map (·.type) = some 158 := by kernel_rfl
theorem cellsU8 : Tryd.prog.cellsOf 5 = 1 := by kernel_rfl
set_option maxRecDepth 10000 in
theorem two_second {W : World} {x : String × DataW Unit} {r : List (String × DataW Unit)} (h : laidMetH Tryd.prog (x :: ("math/bits.deBruijn64tab", Rows.laid_math_bits_deBruijn64tab) :: r) W) (hp : ∀ W, laidMetH Tryd.prog (x :: ("math/bits.deBruijn64tab", Rows.laid_math_bits_deBruijn64tab) :: r) W = laidMet Tryd.prog (x :: ("math/bits.deBruijn64tab", Rows.laid_math_bits_deBruijn64tab) :: r) W) : Two W := by
  rw [hp] at h
  have h2 := h.tail
  obtain ⟨ps, ⟨g, t, cs, fuel, p, q, hg, ht, hv, hd, _, _⟩, _, _⟩ := h2
  obtain rfl := Option.some.inj (d64At.symm.trans hg)
  obtain rfl := Option.some.inj (d64Type.symm.trans ht)
  have hds : ∃ ds, (Rows.laid_math_bits_deBruijn64tab : DataW Unit) = .agg ds ∧ ds[1]? = some (.lit (.int .u8 1)) := ⟨_, rfl, rfl⟩
  obtain ⟨ds, e, e1⟩ := hds
  rw [e] at hd
  obtain ⟨m, q, h1⟩ := rd_array Tryd.underlying158 hd (i := 1) (by decide) e1
  rw [cellsU8] at h1
  have a := rd_int Tryd.underlying5 h1
  have a1 : cs.toList[1]? = some (.int .u8 1) := by
    have e : ((cs.toList.drop (1 * 1)).take 1)[0]? = some (.int .u8 1) := by rw [a]; rfl
    rw [List.getElem?_take, if_pos (by omega), List.getElem?_drop] at e
    simpa using e
  have hat : ∀ (i : Nat) (v : Value), cs.toList[i]? = some v → W.cell? ⟨5, i, none⟩ = some v := fun i v hi => by
    rw [World.var?_cell d64At hv i]; simpa using hi
  exact hat 1 _ a1
theorem Two.pos {w : World} (h : Two w) : 5 < w.heap.size := World.block_lt_of_cell? w _ h
end Go.Proofs.YtaleeoghifcadaaDoor

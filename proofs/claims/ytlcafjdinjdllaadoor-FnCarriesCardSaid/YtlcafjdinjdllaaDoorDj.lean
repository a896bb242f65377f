/- Chapter 2, the model's side: l2Add. -/
import Derived.Test.YtlcafjdinjdllaaDoorDi2
import Derived.Deep.DeepCutAuto
namespace Go.Proofs.YtlcafjdinjdllaaDoor
set_option linter.unusedSimpArgs false
set_option linter.unusedVariables false
open Go.RowKit

def SAddRel (a b : ByteArray) (w : World) (m : Nat) (out cs i : Value) (wr : World) : Prop :=
  ∃ (k : Nat) (t : ByteArray), k + m = stepsA a b ∧ i = .int .i64 k ∧ out = .string t ∧ toL t = (outA a b k).reverse ∧ wr.ownsRow (w.heap.size + 1) 29 2 cs k (gcells (carA a b k)) ∧ Below w.heap.size w wr ∧
    wr.cell? ⟨w.heap.size, 0, none⟩ = some (.int .i64 (rowX (stA a b k))) ∧ wr.cell? ⟨w.heap.size, 1, none⟩ = some (.int .i64 (rowY (stA a b k))) ∧ wr.frozen? ⟨w.heap.size, 0, none⟩ = false ∧ wr.frozen? ⟨w.heap.size, 1, none⟩ = false
def SAddPost (a b : ByteArray) (w : World) (e : Ending) (w' : World) : Prop :=
  ∃ (v : Value) (t : ByteArray), e = .returned (.tuple #[.string t, v]) ∧ toL t = (outA a b (stepsA a b)).reverse ∧ w'.ownsRow w.heap.size 29 2 v (stepsA a b) (gcells (carA a b (stepsA a b))) ∧ Below w.heap.size w w'

set_option maxRecDepth 100000 in
set_option maxHeartbeats 8000000 in
theorem l2Add_c (a b : ByteArray) (w : World) (ha : vldB a = true) (hb : vldB b = true) : Calls Tryd.prog 57 #[.string a, .string b] w (SAddPost a b w) := by
  obtain ⟨i0, hi, hz0, hz1, hz2⟩ := info_parts infoG
  have HA := Lib.hid ha
  have HB := Lib.hid hb
  have ha50 := (vldB_len ha).2
  have hb50 := (vldB_len hb).2
  clear ha hb
  go_enter Tryd.func57, Tryd.ntmps57
  go_wp2_with fail
  have S0 := Lib.hid (show SAddRel a b w (stepsA a b) (.string ⟨#[]⟩) (.slice (some ⟨w.heap.size + 1, 0, none⟩) 0 0) (.int .i64 0) ((w.alloc (.cells #[.int .i64 0, .int .i64 0] 29)).alloc (.cells #[] 29)) from
    ⟨0, ⟨#[]⟩, by omega, rfl, rfl, rfl, by
      have h := World.ownsRow_lit (base := w.heap.size + 1) (e := 29) (size := 2) (w.alloc (.cells #[.int .i64 0, .int .i64 0] 29)) #[] 0 (by rw [alloc_size]; omega) (by unfold maxLen; omega) rfl
      rw [alloc_size] at h
      exact h, by (repeat' (first | assumption | exact Below.refl _ _ | apply Blw.alloc | apply Blw.drew | apply Blw.drewN | (refine Blw.after ?_ (by assumption)) | (refine Blw.set ?_ (by first | (dsimp only; omega) | (simp; done) | (simp; omega)) _))), by go_simp; rfl, by go_simp; rfl, by go_simp, by go_simp⟩)
  go_loopg [7, 8, 9] (stepsA a b) (fun m out cs i wr => SAddRel a b w m out cs i wr)
  case atStart => exact S0.out
  case round =>
    clear S0
    obtain ⟨k, t, hk, rfl, rfl, ht, hown, hB, c0, c1, f0, f1⟩ := hrel
    have L0 : w.heap.size < wr.heap.size := World.block_lt_of_cell? wr _ c0
    have hst := steps_le HA.out HB.out
    have hk58 : k ≤ 58 := by omega
    have HO := Lib.hid hown
    have HT := Lib.hid ht
    have hts : t.size ≤ 58 := by rw [← toL_len, ht, List.length_reverse, outA_len]; exact hk58
    have hr := stA_lt HA.out HB.out k
    have HG := Lib.hid (goes_on HA.out HB.out (k := k) (by omega))
    have hrs := row_step hr (sm_lt HA.out HB.out k)
    have HZ := Lib.hid (row_zero hr)
    obtain ⟨⟨x1, x2⟩, y1, y2⟩ := row_in hr
    have HNE := Lib.hid (own_ne hown (b := w.heap.size) (by omega))
    clear hown ht hst
    by_cases hgo : k < stepsA a b
    · have HREL := Lib.hid (show ∀ (v' : Value) (W2 : World), W2.ownsRow (w.heap.size + 1) 29 2 v' (k + 1) (gcells (carA a b k) ++ [.int .i64 (rowX (rowN (stA a b k) (sm a b k))), .int .i64 (rowY (rowN (stA a b k) (sm a b k)))]) → Below w.heap.size w W2 → W2.cell? ⟨w.heap.size, 0, none⟩ = some (.int .i64 (rowX (rowN (stA a b k) (sm a b k)))) → W2.cell? ⟨w.heap.size, 1, none⟩ = some (.int .i64 (rowY (rowN (stA a b k) (sm a b k)))) →
          W2.frozen? ⟨w.heap.size, 0, none⟩ = false → W2.frozen? ⟨w.heap.size, 1, none⟩ = false → SAddRel a b w (gk - 1) (.string (bs [bitc (dg (rowD (stA a b k) (sm a b k)))] ++ t)) v' (.int .i64 (k + 1 : Nat)) W2 from
        fun v' W2 o1 o2 o3 o4 o5 o6 => ⟨k + 1, _, by omega, rfl, rfl, by rw [toL_cons, HT.out, bitc_dg (rowD_bit _ _)]; simp [outA], by rw [show carA a b (k + 1) = carA a b k ++ [(rowX (stA a b (k + 1)), rowY (stA a b (k + 1)))] from rfl, gcells_snoc]; exact o1, o2, o3, o4, o5, o6⟩)
      have hda := dR_le HA.out k
      have hdb := dR_le HB.out k
      have HDA := Lib.hid (fun w => l2Digit_c a k w HA.out (by omega))
      have HDB := Lib.hid (fun w => l2Digit_c b k w HB.out (by omega))
      have HWA := Lib.hid (fun h : a.size ≤ k => dR_beyond (s := a) h)
      have hsm : ((sm a b k : Nat) : Int) = (dR a k : Nat) + (dR b k : Nat) := by unfold sm; omega
      have hgo' : k < a.size ∨ ¬ k < a.size ∧ k < b.size ∨ ¬ k < a.size ∧ ¬ k < b.size ∧ stA a b k ≠ 0 := by
        have := HG.out.2 hgo; unfold wide at this; omega
      generalize hda' : ((dR a k : Nat) : Int) = da at *
      generalize hdb' : ((dR b k : Nat) : Int) = db at *
      have da1 : 0 ≤ da ∧ da ≤ 1 := by omega
      have db1 : 0 ≤ db ∧ db ≤ 1 := by omega
      obtain ⟨da1, da2⟩ := da1
      obtain ⟨db1, db2⟩ := db1
      rw [hsm] at hrs
      have HLL := Lib.hid (show ∀ w, Calls Tryd.prog 49 #[pr (rowX (stA a b k) + da + db) (rowY (stA a b k))] w fun e w' => e = .returned (.tuple #[.int .i64 (dg (rowD (stA a b k) (sm a b k))), pr (rowX (rowN (stA a b k) (sm a b k))) (rowY (rowN (stA a b k) (sm a b k)))]) ∧ Below w.heap.size w w' from fun w => by
        have h := l2Last_c (rowX (stA a b k) + da + db) (rowY (stA a b k)) w ⟨⟨by omega, by omega⟩, ⟨by omega, by omega⟩⟩
        rw [Int.add_assoc, hrs.2.1, hrs.2.2.1, hrs.2.2.2] at h
        rw [Int.add_assoc]; exact h)
      have HDD := Lib.hid (show dg (rowD (stA a b k) (sm a b k)) = 0 ∨ dg (rowD (stA a b k) (sm a b k)) = 1 by have := dg_bit (rowD_bit (stA a b k) (sm a b k)); omega)
      have HZ' := Lib.hid (fun h : stA a b k ≠ 0 => show ¬ (rowX (stA a b k) = 0 ∧ rowY (stA a b k) = 0) from fun e => h (HZ.out.1 e))
      clear hrs hsm hda hdb hda' hdb' HG HZ HWA hr
      generalize dg (rowD (stA a b k) (sm a b k)) = d at *
      generalize rowX (rowN (stA a b k) (sm a b k)) = X' at *
      generalize rowY (rowN (stA a b k) (sm a b k)) = Y' at *
      generalize rowX (stA a b k) = X at *
      generalize rowY (stA a b k) = Y at *
      have hb1 : (bs [bitc d]).size = 1 := rfl
      go_upto_region 5 with fail
      go_cut [28] (fun s28 wx => s28 = .bool true ∧ wr = wx)
      case first =>
        have HQ := Lib.hid (fun h => HZ'.out h)
        rcases hgo' with hq | ⟨hq, hq2⟩ | ⟨hq, hq2, hq3⟩
        · go_wp2_with fail
          go_meet
          exact ⟨rfl, rfl⟩
        · go_wp2_with fail
          go_meet
          exact ⟨rfl, rfl⟩
        · have HQ' := Lib.hid (HQ.out hq3)
          clear hq3
          have hX : ¬ X = 0 ∨ (X = 0 ∧ ¬ Y = 0) := by have := HQ'.out; omega
          rcases hX with hX | ⟨rfl, hX⟩
          · go_wp2_with fail
            go_meet
            exact ⟨rfl, rfl⟩
          · go_wp2_with fail
            go_meet
            exact ⟨rfl, rfl⟩
      case rest =>
        obtain ⟨rfl, rfl⟩ := hcut
        clear hgo'
        go_wp2_with fail
        refine region_slots (fun _ => True) [16] [(32, .is (.pointer (some ⟨w.heap.size, 0, none⟩))), (33, .is (.int .i64 X)), (34, .is (.string a)), (35, .is (.int .i64 k)), (36, .is (.int .i64 da)), (37, .is (.int .i64 (X + da))), (38, .is (.string b)), (39, .is (.int .i64 k)), (40, .is (.int .i64 db)), (41, .is (.int .i64 (X + da + db))), (42, .is (.pointer (some ⟨w.heap.size, 1, none⟩))), (43, .is (.int .i64 Y)), (44, .is (pr (X + da + db) Y)), (45, .is (.tuple #[.int .i64 d, pr X' Y'])), (31, .is (.tuple #[.int .i64 d, pr X' Y'])), (46, .is (.int .i64 d)), (47, .is (pr X' Y')), (11, .own [.int .i64 0, .int .i64 0])] (by kernel_rfl) (by kernel_rfl) (by kernel_rfl) (fun _ _ => trivial) (fun _ _ _ _ _ _ h => h) ?_
        simp only [Steps, List.contains_cons, List.contains_nil, Nat.reduceBEq, Nat.reduceAdd, Bool.or_false, Bool.false_or, Bool.or_true, Bool.true_or, Bool.false_eq_true, if_false, if_true]
        refine ⟨?_, ?_, ?_, ?_, ?_, ?_, ?_, ?_, ?_, ?_, ?_, ?_, ?_, ?_, ?_, ?_, ?_, ?_, ?_⟩
        · intro u w2 hH hd K hK
          simp only [setU, upd, List.map_cons, List.map_nil, List.contains_cons, List.contains_nil, Nat.reduceBEq, Nat.reduceAdd, Bool.or_false, Bool.false_or, Bool.or_true, Bool.true_or, Bool.false_eq_true, if_false, if_true, ite_true, ite_false, Nat.reduceEqDiff, beq_self_eq_true] at hK ⊢
          go_wp2_with (fail)
          exact hK _ _ (by (repeat' (first | assumption | exact Below.refl _ _ | apply Blw.alloc | apply Blw.drew | apply Blw.drewN | (refine Blw.after ?_ (by assumption)) | (refine Blw.set ?_ (by first | (dsimp only; omega) | (simp; done) | (simp; omega)) _)))) rfl
        · intro u w2 hH hd K hK
          have f32 : u 32 = (.pointer (some ⟨w.heap.size, 0, none⟩)) := hd 32 (by kernel_rfl)
          simp only [setU, upd, List.map_cons, List.map_nil, List.contains_cons, List.contains_nil, Nat.reduceBEq, Nat.reduceAdd, Bool.or_false, Bool.false_or, Bool.or_true, Bool.true_or, Bool.false_eq_true, if_false, if_true, ite_true, ite_false, Nat.reduceEqDiff, beq_self_eq_true] at hK ⊢
          rw [f32] at hK ⊢
          clear f32
          go_wp2_with (fail)
          exact hK _ _ (by (repeat' (first | assumption | exact Below.refl _ _ | apply Blw.alloc | apply Blw.drew | apply Blw.drewN | (refine Blw.after ?_ (by assumption)) | (refine Blw.set ?_ (by first | (dsimp only; omega) | (simp; done) | (simp; omega)) _)))) rfl
        · intro u w2 hH hd K hK
          simp only [setU, upd, List.map_cons, List.map_nil, List.contains_cons, List.contains_nil, Nat.reduceBEq, Nat.reduceAdd, Bool.or_false, Bool.false_or, Bool.or_true, Bool.true_or, Bool.false_eq_true, if_false, if_true, ite_true, ite_false, Nat.reduceEqDiff, beq_self_eq_true] at hK ⊢
          go_wp2_with (fail)
          exact hK _ _ (by (repeat' (first | assumption | exact Below.refl _ _ | apply Blw.alloc | apply Blw.drew | apply Blw.drewN | (refine Blw.after ?_ (by assumption)) | (refine Blw.set ?_ (by first | (dsimp only; omega) | (simp; done) | (simp; omega)) _)))) rfl
        · intro u w2 hH hd K hK
          simp only [setU, upd, List.map_cons, List.map_nil, List.contains_cons, List.contains_nil, Nat.reduceBEq, Nat.reduceAdd, Bool.or_false, Bool.false_or, Bool.or_true, Bool.true_or, Bool.false_eq_true, if_false, if_true, ite_true, ite_false, Nat.reduceEqDiff, beq_self_eq_true] at hK ⊢
          go_wp2_with (fail)
          exact hK _ _ (by (repeat' (first | assumption | exact Below.refl _ _ | apply Blw.alloc | apply Blw.drew | apply Blw.drewN | (refine Blw.after ?_ (by assumption)) | (refine Blw.set ?_ (by first | (dsimp only; omega) | (simp; done) | (simp; omega)) _)))) rfl
        · intro u w2 hH hd K hK
          have f34 : u 34 = (.string a) := hd 34 (by kernel_rfl)
          have f35 : u 35 = (.int .i64 k) := hd 35 (by kernel_rfl)
          simp only [setU, upd, List.map_cons, List.map_nil, List.contains_cons, List.contains_nil, Nat.reduceBEq, Nat.reduceAdd, Bool.or_false, Bool.false_or, Bool.or_true, Bool.true_or, Bool.false_eq_true, if_false, if_true, ite_true, ite_false, Nat.reduceEqDiff, beq_self_eq_true] at hK ⊢
          rw [f34, f35] at hK ⊢
          clear f34 f35
          go_wp2_with ((go_at_call 73; refine (HDA.out _).mono ?_; rintro e w1 ⟨rfl, rfl⟩))
          exact hK _ _ (by (repeat' (first | assumption | exact Below.refl _ _ | apply Blw.alloc | apply Blw.drew | apply Blw.drewN | (refine Blw.after ?_ (by assumption)) | (refine Blw.set ?_ (by first | (dsimp only; omega) | (simp; done) | (simp; omega)) _)))) rfl
        · intro u w2 hH hd K hK
          have f33 : u 33 = (.int .i64 X) := hd 33 (by kernel_rfl)
          have f36 : u 36 = (.int .i64 da) := hd 36 (by kernel_rfl)
          simp only [setU, upd, List.map_cons, List.map_nil, List.contains_cons, List.contains_nil, Nat.reduceBEq, Nat.reduceAdd, Bool.or_false, Bool.false_or, Bool.or_true, Bool.true_or, Bool.false_eq_true, if_false, if_true, ite_true, ite_false, Nat.reduceEqDiff, beq_self_eq_true] at hK ⊢
          rw [f33, f36] at hK ⊢
          clear f33 f36
          go_wp2_with (fail)
          exact hK _ _ (by (repeat' (first | assumption | exact Below.refl _ _ | apply Blw.alloc | apply Blw.drew | apply Blw.drewN | (refine Blw.after ?_ (by assumption)) | (refine Blw.set ?_ (by first | (dsimp only; omega) | (simp; done) | (simp; omega)) _)))) rfl
        · intro u w2 hH hd K hK
          simp only [setU, upd, List.map_cons, List.map_nil, List.contains_cons, List.contains_nil, Nat.reduceBEq, Nat.reduceAdd, Bool.or_false, Bool.false_or, Bool.or_true, Bool.true_or, Bool.false_eq_true, if_false, if_true, ite_true, ite_false, Nat.reduceEqDiff, beq_self_eq_true] at hK ⊢
          go_wp2_with (fail)
          exact hK _ _ (by (repeat' (first | assumption | exact Below.refl _ _ | apply Blw.alloc | apply Blw.drew | apply Blw.drewN | (refine Blw.after ?_ (by assumption)) | (refine Blw.set ?_ (by first | (dsimp only; omega) | (simp; done) | (simp; omega)) _)))) rfl
        · intro u w2 hH hd K hK
          simp only [setU, upd, List.map_cons, List.map_nil, List.contains_cons, List.contains_nil, Nat.reduceBEq, Nat.reduceAdd, Bool.or_false, Bool.false_or, Bool.or_true, Bool.true_or, Bool.false_eq_true, if_false, if_true, ite_true, ite_false, Nat.reduceEqDiff, beq_self_eq_true] at hK ⊢
          go_wp2_with (fail)
          exact hK _ _ (by (repeat' (first | assumption | exact Below.refl _ _ | apply Blw.alloc | apply Blw.drew | apply Blw.drewN | (refine Blw.after ?_ (by assumption)) | (refine Blw.set ?_ (by first | (dsimp only; omega) | (simp; done) | (simp; omega)) _)))) rfl
        · intro u w2 hH hd K hK
          have f38 : u 38 = (.string b) := hd 38 (by kernel_rfl)
          have f39 : u 39 = (.int .i64 k) := hd 39 (by kernel_rfl)
          simp only [setU, upd, List.map_cons, List.map_nil, List.contains_cons, List.contains_nil, Nat.reduceBEq, Nat.reduceAdd, Bool.or_false, Bool.false_or, Bool.or_true, Bool.true_or, Bool.false_eq_true, if_false, if_true, ite_true, ite_false, Nat.reduceEqDiff, beq_self_eq_true] at hK ⊢
          rw [f38, f39] at hK ⊢
          clear f38 f39
          go_wp2_with ((go_at_call 73; refine (HDB.out _).mono ?_; rintro e w1 ⟨rfl, rfl⟩))
          exact hK _ _ (by (repeat' (first | assumption | exact Below.refl _ _ | apply Blw.alloc | apply Blw.drew | apply Blw.drewN | (refine Blw.after ?_ (by assumption)) | (refine Blw.set ?_ (by first | (dsimp only; omega) | (simp; done) | (simp; omega)) _)))) rfl
        · intro u w2 hH hd K hK
          have f37 : u 37 = (.int .i64 (X + da)) := hd 37 (by kernel_rfl)
          have f40 : u 40 = (.int .i64 db) := hd 40 (by kernel_rfl)
          simp only [setU, upd, List.map_cons, List.map_nil, List.contains_cons, List.contains_nil, Nat.reduceBEq, Nat.reduceAdd, Bool.or_false, Bool.false_or, Bool.or_true, Bool.true_or, Bool.false_eq_true, if_false, if_true, ite_true, ite_false, Nat.reduceEqDiff, beq_self_eq_true] at hK ⊢
          rw [f37, f40] at hK ⊢
          clear f37 f40
          go_wp2_with (fail)
          exact hK _ _ (by (repeat' (first | assumption | exact Below.refl _ _ | apply Blw.alloc | apply Blw.drew | apply Blw.drewN | (refine Blw.after ?_ (by assumption)) | (refine Blw.set ?_ (by first | (dsimp only; omega) | (simp; done) | (simp; omega)) _)))) rfl
        · intro u w2 hH hd K hK
          simp only [setU, upd, List.map_cons, List.map_nil, List.contains_cons, List.contains_nil, Nat.reduceBEq, Nat.reduceAdd, Bool.or_false, Bool.false_or, Bool.or_true, Bool.true_or, Bool.false_eq_true, if_false, if_true, ite_true, ite_false, Nat.reduceEqDiff, beq_self_eq_true] at hK ⊢
          go_wp2_with (fail)
          exact hK _ _ (by (repeat' (first | assumption | exact Below.refl _ _ | apply Blw.alloc | apply Blw.drew | apply Blw.drewN | (refine Blw.after ?_ (by assumption)) | (refine Blw.set ?_ (by first | (dsimp only; omega) | (simp; done) | (simp; omega)) _)))) rfl
        · intro u w2 hH hd K hK
          have f42 : u 42 = (.pointer (some ⟨w.heap.size, 1, none⟩)) := hd 42 (by kernel_rfl)
          simp only [setU, upd, List.map_cons, List.map_nil, List.contains_cons, List.contains_nil, Nat.reduceBEq, Nat.reduceAdd, Bool.or_false, Bool.false_or, Bool.or_true, Bool.true_or, Bool.false_eq_true, if_false, if_true, ite_true, ite_false, Nat.reduceEqDiff, beq_self_eq_true] at hK ⊢
          rw [f42] at hK ⊢
          clear f42
          go_wp2_with (fail)
          exact hK _ _ (by (repeat' (first | assumption | exact Below.refl _ _ | apply Blw.alloc | apply Blw.drew | apply Blw.drewN | (refine Blw.after ?_ (by assumption)) | (refine Blw.set ?_ (by first | (dsimp only; omega) | (simp; done) | (simp; omega)) _)))) rfl
        · intro u w2 hH hd K hK
          have f41 : u 41 = (.int .i64 (X + da + db)) := hd 41 (by kernel_rfl)
          have f43 : u 43 = (.int .i64 Y) := hd 43 (by kernel_rfl)
          simp only [setU, upd, List.map_cons, List.map_nil, List.contains_cons, List.contains_nil, Nat.reduceBEq, Nat.reduceAdd, Bool.or_false, Bool.false_or, Bool.or_true, Bool.true_or, Bool.false_eq_true, if_false, if_true, ite_true, ite_false, Nat.reduceEqDiff, beq_self_eq_true] at hK ⊢
          rw [f41, f43] at hK ⊢
          clear f41 f43
          go_wp2_with (fail)
          exact hK _ _ (by (repeat' (first | assumption | exact Below.refl _ _ | apply Blw.alloc | apply Blw.drew | apply Blw.drewN | (refine Blw.after ?_ (by assumption)) | (refine Blw.set ?_ (by first | (dsimp only; omega) | (simp; done) | (simp; omega)) _)))) rfl
        · intro u w2 hH hd K hK
          have f44 : u 44 = (pr (X + da + db) Y) := hd 44 (by kernel_rfl)
          simp only [setU, upd, List.map_cons, List.map_nil, List.contains_cons, List.contains_nil, Nat.reduceBEq, Nat.reduceAdd, Bool.or_false, Bool.false_or, Bool.or_true, Bool.true_or, Bool.false_eq_true, if_false, if_true, ite_true, ite_false, Nat.reduceEqDiff, beq_self_eq_true] at hK ⊢
          rw [f44] at hK ⊢
          clear f44
          go_wp2_with ((go_at_call 49; refine (HLL.out _).mono ?_; rintro e w1 ⟨rfl, hb⟩; obtain ⟨hc, hf⟩ := bcell hb; have hz := bsize hb; have hs := hb.size; try simp at hs))
          exact hK _ _ (by (repeat' (first | assumption | exact Below.refl _ _ | apply Blw.alloc | apply Blw.drew | apply Blw.drewN | (refine Blw.after ?_ (by assumption)) | (refine Blw.set ?_ (by first | (dsimp only; omega) | (simp; done) | (simp; omega)) _)))) rfl
        · intro u w2 hH hd K hK
          have f45 : u 45 = (.tuple #[.int .i64 d, pr X' Y']) := hd 45 (by kernel_rfl)
          simp only [setU, upd, List.map_cons, List.map_nil, List.contains_cons, List.contains_nil, Nat.reduceBEq, Nat.reduceAdd, Bool.or_false, Bool.false_or, Bool.or_true, Bool.true_or, Bool.false_eq_true, if_false, if_true, ite_true, ite_false, Nat.reduceEqDiff, beq_self_eq_true] at hK ⊢
          rw [f45] at hK ⊢
          clear f45
          go_wp2_with (fail)
          exact hK _ _ (by (repeat' (first | assumption | exact Below.refl _ _ | apply Blw.alloc | apply Blw.drew | apply Blw.drewN | (refine Blw.after ?_ (by assumption)) | (refine Blw.set ?_ (by first | (dsimp only; omega) | (simp; done) | (simp; omega)) _)))) rfl
        · intro u w2 hH hd K hK
          have f31 : u 31 = (.tuple #[.int .i64 d, pr X' Y']) := hd 31 (by kernel_rfl)
          simp only [setU, upd, List.map_cons, List.map_nil, List.contains_cons, List.contains_nil, Nat.reduceBEq, Nat.reduceAdd, Bool.or_false, Bool.false_or, Bool.or_true, Bool.true_or, Bool.false_eq_true, if_false, if_true, ite_true, ite_false, Nat.reduceEqDiff, beq_self_eq_true] at hK ⊢
          rw [f31] at hK ⊢
          clear f31
          go_wp2_with (fail)
          exact hK _ _ (by (repeat' (first | assumption | exact Below.refl _ _ | apply Blw.alloc | apply Blw.drew | apply Blw.drewN | (refine Blw.after ?_ (by assumption)) | (refine Blw.set ?_ (by first | (dsimp only; omega) | (simp; done) | (simp; omega)) _)))) rfl
        · intro u w2 hH hd
          have f31 : u 31 = (.tuple #[.int .i64 d, pr X' Y']) := hd 31 (by kernel_rfl)
          simp only [setU, upd, List.map_cons, List.map_nil, List.contains_cons, List.contains_nil, Nat.reduceBEq, Nat.reduceAdd, Bool.or_false, Bool.false_or, Bool.or_true, Bool.true_or, Bool.false_eq_true, if_false, if_true, ite_true, ite_false, Nat.reduceEqDiff, beq_self_eq_true]
          rw [f31]
          clear f31
          refine ⟨(pr X' Y'), fun w hS => ?_, by first | rfl | trivial, by first | rfl | trivial, by first | rfl | trivial⟩
          first | (go_simp; done) | (go_simp; exact IntWalk.i64_in _ (by omega))
        · intro u w2 hH hd K hK
          simp only [setU, upd, List.map_cons, List.map_nil, List.contains_cons, List.contains_nil, Nat.reduceBEq, Nat.reduceAdd, Bool.or_false, Bool.false_or, Bool.or_true, Bool.true_or, Bool.false_eq_true, if_false, if_true, ite_true, ite_false, Nat.reduceEqDiff, beq_self_eq_true] at hK ⊢
          go_wp2_with (fail)
          exact hK _ _ (by (repeat' (first | assumption | exact Below.refl _ _ | apply Blw.alloc | apply Blw.drew | apply Blw.drewN | (refine Blw.after ?_ (by assumption)) | (refine Blw.set ?_ (by first | (dsimp only; omega) | (simp; done) | (simp; omega)) _)))) (OwnP.new _ _ _)
        intro u w2 hH hF hne
        have hH1 := hH.1
        have hH2 := hH.2.2.2
        simp only [allFacts, SlotFact.h] at hF
        obtain ⟨f32, f33, f34, f35, f36, f37, f38, f39, f40, f41, f42, f43, f44, f45, f31, f46, f47, ⟨b11, f11, g11, l11, k11, z11⟩, -⟩ := hF
        simp only [setU, upd, List.map_cons, List.map_nil, List.contains_cons, List.contains_nil, Nat.reduceBEq, Nat.reduceAdd, Bool.or_false, Bool.false_or, Bool.or_true, Bool.true_or, Bool.false_eq_true, if_false, if_true, ite_true, ite_false, Nat.reduceEqDiff, beq_self_eq_true]
        rw [f32, f33, f34, f35, f36, f37, f38, f39, f40, f41, f42, f43, f44, f45, f31, f46, f47, f11]
        clear f32 f33 f34 f35 f36 f37 f38 f39 f40 f41 f42 f43 f44 f45 f31 f46 f47 f11 hne
        have c11_0 := k11 0 _ rfl
        have e11_0 := z11 0 (by simp)
        have c11_1 := k11 1 _ rfl
        have e11_1 := z11 1 (by simp)
        clear k11 z11
        refine wpListS_true ?_
        go_wp2_with fail
        generalize hW : World.setCell _ _ _ = W1
        have kW1_1 : W1.cell? ⟨w.heap.size, 0, none⟩ = some (.int .i64 (X)) := by rw [← hW]; clear hW; first | (go_simp; done) | ((repeat refine keepcell ((Below.refl _ _).alloc (Nat.le_refl _) _) ?_); go_simp; done) | (simp only [frozen?_alloc_cells]; go_simp; done)
        have zW1_1 : W1.frozen? ⟨w.heap.size, 0, none⟩ = false := by rw [← hW]; clear hW; first | (go_simp; done) | ((repeat refine keepcell ((Below.refl _ _).alloc (Nat.le_refl _) _) ?_); go_simp; done) | (simp only [frozen?_alloc_cells]; go_simp; done)
        have kW1_2 : W1.cell? ⟨w.heap.size, 1, none⟩ = some (.int .i64 (Y)) := by rw [← hW]; clear hW; first | (go_simp; done) | ((repeat refine keepcell ((Below.refl _ _).alloc (Nat.le_refl _) _) ?_); go_simp; done) | (simp only [frozen?_alloc_cells]; go_simp; done)
        have zW1_2 : W1.frozen? ⟨w.heap.size, 1, none⟩ = false := by rw [← hW]; clear hW; first | (go_simp; done) | ((repeat refine keepcell ((Below.refl _ _).alloc (Nat.le_refl _) _) ?_); go_simp; done) | (simp only [frozen?_alloc_cells]; go_simp; done)
        have : w.heap.size < W1.heap.size := World.block_lt_of_cell? W1 ⟨w.heap.size, 0, none⟩ (by assumption)
        have kW1_3 : W1.cell? ⟨b11, 0, none⟩ = some (.int .i64 (X')) := by rw [← hW]; clear hW; first | (go_simp; done) | ((repeat refine keepcell ((Below.refl _ _).alloc (Nat.le_refl _) _) ?_); go_simp; done) | (simp only [frozen?_alloc_cells]; go_simp; done)
        have kW1_4 : W1.cell? ⟨b11, 1, none⟩ = some (.int .i64 (Y')) := by rw [← hW]; clear hW; first | (go_simp; done) | ((repeat refine keepcell ((Below.refl _ _).alloc (Nat.le_refl _) _) ?_); go_simp; done) | (simp only [frozen?_alloc_cells]; go_simp; done)
        have : b11 < W1.heap.size := World.block_lt_of_cell? W1 ⟨b11, 0, none⟩ (by assumption)
        have hBW1 : Below w.heap.size w W1 := by rw [← hW]; (repeat' (first | assumption | exact Below.refl _ _ | apply Blw.alloc | apply Blw.drew | apply Blw.drewN | (refine Blw.after ?_ (by assumption)) | (refine Blw.set ?_ (by first | (dsimp only; omega) | (simp; done) | (simp; omega)) _)))
        have hsW1 := hBW1.size
        have HO1 := Lib.hid (own_below HO.out (show Below wr.heap.size wr W1 by rw [← hW]; (repeat' (first | assumption | exact Below.refl _ _ | apply Blw.alloc | apply Blw.drew | apply Blw.drewN | (refine Blw.after ?_ (by assumption)) | (refine Blw.set ?_ (by first | (dsimp only; omega) | (simp; done) | (simp; omega)) _)))))
        clear hW
        try clear hH; try clear hH1; try clear c11_0; try clear e11_0; try clear c11_1; try clear e11_1
        go_wp2_with (first
          | (go_at_call 50; refine (l2Bit_c _ _ HDD.out).mono ?_; rintro e w1 ⟨rfl, rfl⟩)
          | (at_builtin; refine wpList_append_own _ rfl _ _ 36 rfl (w.heap.size + 1) 29 i0 (.agg #[.int .i64 0, .int .i64 0]) 2 16 Tryd.underlying36 hi hz0 hz1 hz2 rfl (by decide) _ _ _ rfl ((own_set (own_set HO1.out (Nat.lt_succ_self _) _) (Nat.lt_succ_self _) _).alloc _) ⟨W1.heap.size, 0, none⟩ 1 1 [.int .i64 X', .int .i64 Y'] rfl rfl (cells2n _ _ _ _ _ (by simp)) (two1 _ _ rfl rfl) (by unfold maxLen; omega) (by omega) (by simp; omega) ?_))
        intro v' W2 hown' hgrow _
        have hne : some w.heap.size ≠ (u8 : Value).ownBlock := HNE.out
        have k0 : W2.cell? ⟨w.heap.size, 0, none⟩ = some (.int .i64 X') := hgrow.cell (by go_simp) hne
        have k1 : W2.cell? ⟨w.heap.size, 1, none⟩ = some (.int .i64 Y') := hgrow.cell (by go_simp) hne
        have g0 : W2.frozen? ⟨w.heap.size, 0, none⟩ = false := (World.frozen?_of_block (hgrow.block w.heap.size (by simp; omega) hne)).trans (by go_simp)
        have g1 : W2.frozen? ⟨w.heap.size, 1, none⟩ = false := (World.frozen?_of_block (hgrow.block w.heap.size (by simp; omega) hne)).trans (by go_simp)
        have hB2 : Below w.heap.size w W2 := Below.grown (by (repeat' (first | assumption | exact Below.refl _ _ | apply Blw.alloc | apply Blw.drew | apply Blw.drewN | (refine Blw.after ?_ (by assumption)) | (refine Blw.set ?_ (by first | (dsimp only; omega) | (simp; done) | (simp; omega)) _)))) hgrow (by simp; omega) (fun k hk => by have := (HO.out.lt k hk).1; omega)
        have HO2 := Lib.hid hown'
        clear hgrow hown' hne
        try clear kW1_1; try clear zW1_1; try clear kW1_2; try clear zW1_2; try clear kW1_3; try clear kW1_4
        go_wp2
        go_roundg (gk - 1)
        case measure => omega
        case rel => exact HREL.out _ _ HO2.out hB2 k0 k1 g0 g1
    · obtain rfl : k = stepsA a b := by omega
      obtain ⟨e0, e1⟩ := done_zero HA.out HB.out
      have e2 := HZ.out.2 e0
      rw [e2.1] at c0
      rw [e2.2] at c1
      unfold wide at e1
      have l1 : ¬ stepsA a b < a.size := by omega
      have l2 : ¬ stepsA a b < b.size := by omega
      clear hrs HNE HG HZ e0 e2 hr x1 x2 y1 y2
      go_wp2
      go_ret2
      exact ⟨_, t, rfl, HT.out, ownsRow_low (by omega) HO.out, by (repeat' (first | assumption | exact Below.refl _ _ | apply Blw.alloc | apply Blw.drew | apply Blw.drewN | (refine Blw.after ?_ (by assumption)) | (refine Blw.set ?_ (by first | (dsimp only; omega) | (simp; done) | (simp; omega)) _)))⟩
end Go.Proofs.YtlcafjdinjdllaaDoor

/- Merged texts: Dj Dm Dn Do LNegC Yg Yk Yh Yi BaseD Hw Tab Dt Du Two Yj Draw DrawB DrawD DrawX BaseP. No law is stated here. -/
import Derived.Deep.DeepCutAuto
import Derived.Test.YtmondgcehgmamaaGreatDoorShelf
import Derived.Shelf.Strings.BuilderK
import Derived.Shelf.Strings.OnBuilder
import Derived.Lib.ItoaNum
import Derived.Deep.RegionHeld
import Derived.Deep.Cut
import Derived.Laws.IdiomStrings
import Derived.Test.YtmondgcehgmamaaGreatDoorTie
import Derived.Test.YtmondgcehgmamaaGreatDoorCards
import Derived.WalkKit
import Derived.ProofKit
import Derived.OpenShut
import Derived.ChangeSame
import Derived.JoinedOf
import Derived.JoinedAt
import Derived.RowKit3
import Derived.Lib.SmallJoins
import Derived.LaidMore
import Derived.Lay
import Derived.SevenTiedAt
import Derived.Stop.Joined
import Derived.HandedShaped
import Derived.Stop.LaidErr
import Derived.Shelf.Vars
import Derived.ChangeVars
import Derived.ChangeStays
import Derived.WideKeyArgs
import Derived.WalkSmall
import Derived.Carry
import Derived.Test.YtmondgcehgmamaaGreatDoorRows
import Derived.WalkSpells
import Derived.WalkLawsBesides
import Derived.Lib.Hide
import Derived.Laws.ResultCell
import Derived.Deep.QuietTactic
import Derived.BigQuiet
import Derived.Outline
import Derived.Deep.LoopGhost
import Derived.Laws.RangeString
import Derived.ChangeSlices
import Derived.Test.YtmondgcehgmamaaGreatDoorZ2
namespace Go.Proofs.YtmondgcehgmamaaGreatDoor
set_option linter.unusedSimpArgs false
set_option linter.unusedVariables false
open Go.RowKit

def SAddRel (a b : ByteArray) (w : World) (m : Nat) (out cs i : Value) (wr : World) : Prop :=
  ∃ (k : Nat) (t : ByteArray), k + m = stepsA a b ∧ i = .int .i64 k ∧ out = .string t ∧ toL t = (outA a b k).reverse ∧ wr.ownsRow (w.heap.size + 1) 99 2 cs k (gcells (carA a b k)) ∧ Below w.heap.size w wr ∧
    wr.cell? ⟨w.heap.size, 0, none⟩ = some (.int .i64 (rowX (stA a b k))) ∧ wr.cell? ⟨w.heap.size, 1, none⟩ = some (.int .i64 (rowY (stA a b k))) ∧ wr.frozen? ⟨w.heap.size, 0, none⟩ = false ∧ wr.frozen? ⟨w.heap.size, 1, none⟩ = false
def SAddPost (a b : ByteArray) (w : World) (e : Ending) (w' : World) : Prop :=
  ∃ (v : Value) (t : ByteArray), e = .returned (.tuple #[.string t, v]) ∧ toL t = (outA a b (stepsA a b)).reverse ∧ w'.ownsRow w.heap.size 99 2 v (stepsA a b) (gcells (carA a b (stepsA a b))) ∧ Below w.heap.size w w'

set_option maxRecDepth 100000 in
set_option maxHeartbeats 8000000 in
theorem l2Add_c (a b : ByteArray) (w : World) (ha : vldB a = true) (hb : vldB b = true) : Calls Tryz.prog 41 #[.string a, .string b] w (SAddPost a b w) := by
  obtain ⟨i0, hi, hz0, hz1, hz2⟩ := info_parts infoG
  have HA := Lib.hid ha
  have HB := Lib.hid hb
  have ha50 := (vldB_len ha).2
  have hb50 := (vldB_len hb).2
  clear ha hb
  go_enter Tryz.func41, Tryz.ntmps41
  go_wp2_with fail
  have S0 := Lib.hid (show SAddRel a b w (stepsA a b) (.string ⟨#[]⟩) (.slice (some ⟨w.heap.size + 1, 0, none⟩) 0 0) (.int .i64 0) ((w.alloc (.cells #[.int .i64 0, .int .i64 0] 99)).alloc (.cells #[] 99)) from
    ⟨0, ⟨#[]⟩, by omega, rfl, rfl, rfl, by
      have h := World.ownsRow_lit (base := w.heap.size + 1) (e := 99) (size := 2) (w.alloc (.cells #[.int .i64 0, .int .i64 0] 99)) #[] 0 (by rw [alloc_size]; omega) (by unfold maxLen; omega) rfl
      rw [alloc_size] at h
      exact h, by (first | ((repeat' with_reducible first | assumption | exact Below.refl _ _ | apply Blw.alloc | apply Blw.drew | apply Blw.drewN | (refine Blw.after ?_ (by assumption)) | (refine Blw.set ?_ (by first | (dsimp only; omega) | (simp; omega)) _)); done) | (repeat' (first | assumption | exact Below.refl _ _ | apply Blw.alloc | apply Blw.drew | apply Blw.drewN | (refine Blw.after ?_ (by assumption)) | (refine Blw.set ?_ (by first | (dsimp only; omega) | (simp; done) | (simp; omega)) _)))), by go_simp; rfl, by go_simp; rfl, by go_simp, by go_simp⟩)
  go_loopg [7, 8, 9] (stepsA a b) (fun m out cs i wr => SAddRel a b w m out cs i wr)
  case atStart => exact S0.out
  case round =>
    clear S0
    obtain ⟨k, t, hk, rfl, rfl, ht, hown, hB, c0, c1, f0, f1⟩ := hrel
    have L0 : w.heap.size < wr.heap.size := World.block_lt_of_cell? wr _ c0
    have hst := steps_le HA.out HB.out
    have hk58 : k ≤ 58 := by omega
    have HO := Lib.hid hown
    have HT := Lib.hid ht
    have hts : t.size ≤ 58 := by rw [← toL_len, ht, List.length_reverse, outA_len]; exact hk58
    have hr := stA_lt HA.out HB.out k
    have HG := Lib.hid (goes_on HA.out HB.out (k := k) (by omega))
    have hrs := row_step hr (sm_lt HA.out HB.out k)
    have HZ := Lib.hid (row_zero hr)
    obtain ⟨⟨x1, x2⟩, y1, y2⟩ := row_in hr
    have HNE := Lib.hid (own_ne hown (b := w.heap.size) (by omega))
    clear hown ht hst
    by_cases hgo : k < stepsA a b
    · have HREL := Lib.hid (show ∀ (v' : Value) (W2 : World), W2.ownsRow (w.heap.size + 1) 99 2 v' (k + 1) (gcells (carA a b k) ++ [.int .i64 (rowX (rowN (stA a b k) (sm a b k))), .int .i64 (rowY (rowN (stA a b k) (sm a b k)))]) → Below w.heap.size w W2 → W2.cell? ⟨w.heap.size, 0, none⟩ = some (.int .i64 (rowX (rowN (stA a b k) (sm a b k)))) → W2.cell? ⟨w.heap.size, 1, none⟩ = some (.int .i64 (rowY (rowN (stA a b k) (sm a b k)))) →
          W2.frozen? ⟨w.heap.size, 0, none⟩ = false → W2.frozen? ⟨w.heap.size, 1, none⟩ = false → SAddRel a b w (gk - 1) (.string (bs [bitc (dg (rowD (stA a b k) (sm a b k)))] ++ t)) v' (.int .i64 (k + 1 : Nat)) W2 from
        fun v' W2 o1 o2 o3 o4 o5 o6 => ⟨k + 1, _, by omega, rfl, rfl, by rw [toL_cons, HT.out, bitc_dg (rowD_bit _ _)]; simp [outA], by rw [show carA a b (k + 1) = carA a b k ++ [(rowX (stA a b (k + 1)), rowY (stA a b (k + 1)))] from rfl, gcells_snoc]; exact o1, o2, o3, o4, o5, o6⟩)
      have hda := dR_le HA.out k
      have hdb := dR_le HB.out k
      have HDA := Lib.hid (fun w => l2Digit_c a k w HA.out (by omega))
      have HDB := Lib.hid (fun w => l2Digit_c b k w HB.out (by omega))
      have HWA := Lib.hid (fun h : a.size ≤ k => dR_beyond (s := a) h)
      have hsm : ((sm a b k : Nat) : Int) = (dR a k : Nat) + (dR b k : Nat) := by unfold sm; omega
      have hgo' : k < a.size ∨ ¬ k < a.size ∧ k < b.size ∨ ¬ k < a.size ∧ ¬ k < b.size ∧ stA a b k ≠ 0 := by
        have := HG.out.2 hgo; unfold wide at this; omega
      generalize hda' : ((dR a k : Nat) : Int) = da at *
      generalize hdb' : ((dR b k : Nat) : Int) = db at *
      have da1 : 0 ≤ da ∧ da ≤ 1 := by omega
      have db1 : 0 ≤ db ∧ db ≤ 1 := by omega
      obtain ⟨da1, da2⟩ := da1
      obtain ⟨db1, db2⟩ := db1
      rw [hsm] at hrs
      have HLL := Lib.hid (show ∀ w, Calls Tryz.prog 69 #[pr (rowX (stA a b k) + da + db) (rowY (stA a b k))] w fun e w' => e = .returned (.tuple #[.int .i64 (dg (rowD (stA a b k) (sm a b k))), pr (rowX (rowN (stA a b k) (sm a b k))) (rowY (rowN (stA a b k) (sm a b k)))]) ∧ Below w.heap.size w w' from fun w => by
        have h := l2Last_c (rowX (stA a b k) + da + db) (rowY (stA a b k)) w ⟨⟨by omega, by omega⟩, ⟨by omega, by omega⟩⟩
        rw [Int.add_assoc, hrs.2.1, hrs.2.2.1, hrs.2.2.2] at h
        rw [Int.add_assoc]; exact h)
      have HDD := Lib.hid (show dg (rowD (stA a b k) (sm a b k)) = 0 ∨ dg (rowD (stA a b k) (sm a b k)) = 1 by have := dg_bit (rowD_bit (stA a b k) (sm a b k)); omega)
      have HZ' := Lib.hid (fun h : stA a b k ≠ 0 => show ¬ (rowX (stA a b k) = 0 ∧ rowY (stA a b k) = 0) from fun e => h (HZ.out.1 e))
      clear hrs hsm hda hdb hda' hdb' HG HZ HWA hr
      generalize dg (rowD (stA a b k) (sm a b k)) = d at *
      generalize rowX (rowN (stA a b k) (sm a b k)) = X' at *
      generalize rowY (rowN (stA a b k) (sm a b k)) = Y' at *
      generalize rowX (stA a b k) = X at *
      generalize rowY (stA a b k) = Y at *
      have hb1 : (bs [bitc d]).size = 1 := rfl
      go_upto_region 5 with fail
      go_cut [28] (fun s28 wx => s28 = .bool true ∧ wr = wx)
      case first =>
        have HQ := Lib.hid (fun h => HZ'.out h)
        rcases hgo' with hq | ⟨hq, hq2⟩ | ⟨hq, hq2, hq3⟩
        · go_wp2_with fail
          go_meet
          exact ⟨rfl, rfl⟩
        · go_wp2_with fail
          go_meet
          exact ⟨rfl, rfl⟩
        · have HQ' := Lib.hid (HQ.out hq3)
          clear hq3
          have hX : ¬ X = 0 ∨ (X = 0 ∧ ¬ Y = 0) := by have := HQ'.out; omega
          rcases hX with hX | ⟨rfl, hX⟩
          · go_wp2_with fail
            go_meet
            exact ⟨rfl, rfl⟩
          · go_wp2_with fail
            go_meet
            exact ⟨rfl, rfl⟩
      case rest =>
        obtain ⟨rfl, rfl⟩ := hcut
        clear hgo'
        go_wp2_with fail
        refine region_slots (fun _ => True) [16] [(32, .is (.pointer (some ⟨w.heap.size, 0, none⟩))), (33, .is (.int .i64 X)), (34, .is (.string a)), (35, .is (.int .i64 k)), (36, .is (.int .i64 da)), (37, .is (.int .i64 (X + da))), (38, .is (.string b)), (39, .is (.int .i64 k)), (40, .is (.int .i64 db)), (41, .is (.int .i64 (X + da + db))), (42, .is (.pointer (some ⟨w.heap.size, 1, none⟩))), (43, .is (.int .i64 Y)), (44, .is (pr (X + da + db) Y)), (45, .is (.tuple #[.int .i64 d, pr X' Y'])), (31, .is (.tuple #[.int .i64 d, pr X' Y'])), (46, .is (.int .i64 d)), (47, .is (pr X' Y')), (11, .own [.int .i64 0, .int .i64 0])] (by kernel_rfl) (by kernel_rfl) (by kernel_rfl) (fun _ _ => trivial) (fun _ _ _ _ _ _ h => h) ?_
        simp only [Steps, List.contains_cons, List.contains_nil, Nat.reduceBEq, Nat.reduceAdd, Bool.or_false, Bool.false_or, Bool.or_true, Bool.true_or, Bool.false_eq_true, if_false, if_true]
        refine ⟨?_, ?_, ?_, ?_, ?_, ?_, ?_, ?_, ?_, ?_, ?_, ?_, ?_, ?_, ?_, ?_, ?_, ?_, ?_⟩
        · intro u w2 hH hd K hK
          simp only [setU, upd, List.map_cons, List.map_nil, List.contains_cons, List.contains_nil, Nat.reduceBEq, Nat.reduceAdd, Bool.or_false, Bool.false_or, Bool.or_true, Bool.true_or, Bool.false_eq_true, if_false, if_true, ite_true, ite_false, Nat.reduceEqDiff, beq_self_eq_true] at hK ⊢
          go_wp2_with (fail)
          exact hK _ _ (by (first | ((repeat' with_reducible first | assumption | exact Below.refl _ _ | apply Blw.alloc | apply Blw.drew | apply Blw.drewN | (refine Blw.after ?_ (by assumption)) | (refine Blw.set ?_ (by first | (dsimp only; omega) | (simp; omega)) _)); done) | (repeat' (first | assumption | exact Below.refl _ _ | apply Blw.alloc | apply Blw.drew | apply Blw.drewN | (refine Blw.after ?_ (by assumption)) | (refine Blw.set ?_ (by first | (dsimp only; omega) | (simp; done) | (simp; omega)) _))))) rfl
        · intro u w2 hH hd K hK
          have f32 : u 32 = (.pointer (some ⟨w.heap.size, 0, none⟩)) := hd 32 (by kernel_rfl)
          simp only [setU, upd, List.map_cons, List.map_nil, List.contains_cons, List.contains_nil, Nat.reduceBEq, Nat.reduceAdd, Bool.or_false, Bool.false_or, Bool.or_true, Bool.true_or, Bool.false_eq_true, if_false, if_true, ite_true, ite_false, Nat.reduceEqDiff, beq_self_eq_true] at hK ⊢
          rw [f32] at hK ⊢
          clear f32
          go_wp2_with (fail)
          exact hK _ _ (by (first | ((repeat' with_reducible first | assumption | exact Below.refl _ _ | apply Blw.alloc | apply Blw.drew | apply Blw.drewN | (refine Blw.after ?_ (by assumption)) | (refine Blw.set ?_ (by first | (dsimp only; omega) | (simp; omega)) _)); done) | (repeat' (first | assumption | exact Below.refl _ _ | apply Blw.alloc | apply Blw.drew | apply Blw.drewN | (refine Blw.after ?_ (by assumption)) | (refine Blw.set ?_ (by first | (dsimp only; omega) | (simp; done) | (simp; omega)) _))))) rfl
        · intro u w2 hH hd K hK
          simp only [setU, upd, List.map_cons, List.map_nil, List.contains_cons, List.contains_nil, Nat.reduceBEq, Nat.reduceAdd, Bool.or_false, Bool.false_or, Bool.or_true, Bool.true_or, Bool.false_eq_true, if_false, if_true, ite_true, ite_false, Nat.reduceEqDiff, beq_self_eq_true] at hK ⊢
          go_wp2_with (fail)
          exact hK _ _ (by (first | ((repeat' with_reducible first | assumption | exact Below.refl _ _ | apply Blw.alloc | apply Blw.drew | apply Blw.drewN | (refine Blw.after ?_ (by assumption)) | (refine Blw.set ?_ (by first | (dsimp only; omega) | (simp; omega)) _)); done) | (repeat' (first | assumption | exact Below.refl _ _ | apply Blw.alloc | apply Blw.drew | apply Blw.drewN | (refine Blw.after ?_ (by assumption)) | (refine Blw.set ?_ (by first | (dsimp only; omega) | (simp; done) | (simp; omega)) _))))) rfl
        · intro u w2 hH hd K hK
          simp only [setU, upd, List.map_cons, List.map_nil, List.contains_cons, List.contains_nil, Nat.reduceBEq, Nat.reduceAdd, Bool.or_false, Bool.false_or, Bool.or_true, Bool.true_or, Bool.false_eq_true, if_false, if_true, ite_true, ite_false, Nat.reduceEqDiff, beq_self_eq_true] at hK ⊢
          go_wp2_with (fail)
          exact hK _ _ (by (first | ((repeat' with_reducible first | assumption | exact Below.refl _ _ | apply Blw.alloc | apply Blw.drew | apply Blw.drewN | (refine Blw.after ?_ (by assumption)) | (refine Blw.set ?_ (by first | (dsimp only; omega) | (simp; omega)) _)); done) | (repeat' (first | assumption | exact Below.refl _ _ | apply Blw.alloc | apply Blw.drew | apply Blw.drewN | (refine Blw.after ?_ (by assumption)) | (refine Blw.set ?_ (by first | (dsimp only; omega) | (simp; done) | (simp; omega)) _))))) rfl
        · intro u w2 hH hd K hK
          have f34 : u 34 = (.string a) := hd 34 (by kernel_rfl)
          have f35 : u 35 = (.int .i64 k) := hd 35 (by kernel_rfl)
          simp only [setU, upd, List.map_cons, List.map_nil, List.contains_cons, List.contains_nil, Nat.reduceBEq, Nat.reduceAdd, Bool.or_false, Bool.false_or, Bool.or_true, Bool.true_or, Bool.false_eq_true, if_false, if_true, ite_true, ite_false, Nat.reduceEqDiff, beq_self_eq_true] at hK ⊢
          rw [f34, f35] at hK ⊢
          clear f34 f35
          go_wp2_with ((go_at_call 70; refine (HDA.out _).mono ?_; rintro e w1 ⟨rfl, rfl⟩))
          exact hK _ _ (by (first | ((repeat' with_reducible first | assumption | exact Below.refl _ _ | apply Blw.alloc | apply Blw.drew | apply Blw.drewN | (refine Blw.after ?_ (by assumption)) | (refine Blw.set ?_ (by first | (dsimp only; omega) | (simp; omega)) _)); done) | (repeat' (first | assumption | exact Below.refl _ _ | apply Blw.alloc | apply Blw.drew | apply Blw.drewN | (refine Blw.after ?_ (by assumption)) | (refine Blw.set ?_ (by first | (dsimp only; omega) | (simp; done) | (simp; omega)) _))))) rfl
        · intro u w2 hH hd K hK
          have f33 : u 33 = (.int .i64 X) := hd 33 (by kernel_rfl)
          have f36 : u 36 = (.int .i64 da) := hd 36 (by kernel_rfl)
          simp only [setU, upd, List.map_cons, List.map_nil, List.contains_cons, List.contains_nil, Nat.reduceBEq, Nat.reduceAdd, Bool.or_false, Bool.false_or, Bool.or_true, Bool.true_or, Bool.false_eq_true, if_false, if_true, ite_true, ite_false, Nat.reduceEqDiff, beq_self_eq_true] at hK ⊢
          rw [f33, f36] at hK ⊢
          clear f33 f36
          go_wp2_with (fail)
          exact hK _ _ (by (first | ((repeat' with_reducible first | assumption | exact Below.refl _ _ | apply Blw.alloc | apply Blw.drew | apply Blw.drewN | (refine Blw.after ?_ (by assumption)) | (refine Blw.set ?_ (by first | (dsimp only; omega) | (simp; omega)) _)); done) | (repeat' (first | assumption | exact Below.refl _ _ | apply Blw.alloc | apply Blw.drew | apply Blw.drewN | (refine Blw.after ?_ (by assumption)) | (refine Blw.set ?_ (by first | (dsimp only; omega) | (simp; done) | (simp; omega)) _))))) rfl
        · intro u w2 hH hd K hK
          simp only [setU, upd, List.map_cons, List.map_nil, List.contains_cons, List.contains_nil, Nat.reduceBEq, Nat.reduceAdd, Bool.or_false, Bool.false_or, Bool.or_true, Bool.true_or, Bool.false_eq_true, if_false, if_true, ite_true, ite_false, Nat.reduceEqDiff, beq_self_eq_true] at hK ⊢
          go_wp2_with (fail)
          exact hK _ _ (by (first | ((repeat' with_reducible first | assumption | exact Below.refl _ _ | apply Blw.alloc | apply Blw.drew | apply Blw.drewN | (refine Blw.after ?_ (by assumption)) | (refine Blw.set ?_ (by first | (dsimp only; omega) | (simp; omega)) _)); done) | (repeat' (first | assumption | exact Below.refl _ _ | apply Blw.alloc | apply Blw.drew | apply Blw.drewN | (refine Blw.after ?_ (by assumption)) | (refine Blw.set ?_ (by first | (dsimp only; omega) | (simp; done) | (simp; omega)) _))))) rfl
        · intro u w2 hH hd K hK
          simp only [setU, upd, List.map_cons, List.map_nil, List.contains_cons, List.contains_nil, Nat.reduceBEq, Nat.reduceAdd, Bool.or_false, Bool.false_or, Bool.or_true, Bool.true_or, Bool.false_eq_true, if_false, if_true, ite_true, ite_false, Nat.reduceEqDiff, beq_self_eq_true] at hK ⊢
          go_wp2_with (fail)
          exact hK _ _ (by (first | ((repeat' with_reducible first | assumption | exact Below.refl _ _ | apply Blw.alloc | apply Blw.drew | apply Blw.drewN | (refine Blw.after ?_ (by assumption)) | (refine Blw.set ?_ (by first | (dsimp only; omega) | (simp; omega)) _)); done) | (repeat' (first | assumption | exact Below.refl _ _ | apply Blw.alloc | apply Blw.drew | apply Blw.drewN | (refine Blw.after ?_ (by assumption)) | (refine Blw.set ?_ (by first | (dsimp only; omega) | (simp; done) | (simp; omega)) _))))) rfl
        · intro u w2 hH hd K hK
          have f38 : u 38 = (.string b) := hd 38 (by kernel_rfl)
          have f39 : u 39 = (.int .i64 k) := hd 39 (by kernel_rfl)
          simp only [setU, upd, List.map_cons, List.map_nil, List.contains_cons, List.contains_nil, Nat.reduceBEq, Nat.reduceAdd, Bool.or_false, Bool.false_or, Bool.or_true, Bool.true_or, Bool.false_eq_true, if_false, if_true, ite_true, ite_false, Nat.reduceEqDiff, beq_self_eq_true] at hK ⊢
          rw [f38, f39] at hK ⊢
          clear f38 f39
          go_wp2_with ((go_at_call 70; refine (HDB.out _).mono ?_; rintro e w1 ⟨rfl, rfl⟩))
          exact hK _ _ (by (first | ((repeat' with_reducible first | assumption | exact Below.refl _ _ | apply Blw.alloc | apply Blw.drew | apply Blw.drewN | (refine Blw.after ?_ (by assumption)) | (refine Blw.set ?_ (by first | (dsimp only; omega) | (simp; omega)) _)); done) | (repeat' (first | assumption | exact Below.refl _ _ | apply Blw.alloc | apply Blw.drew | apply Blw.drewN | (refine Blw.after ?_ (by assumption)) | (refine Blw.set ?_ (by first | (dsimp only; omega) | (simp; done) | (simp; omega)) _))))) rfl
        · intro u w2 hH hd K hK
          have f37 : u 37 = (.int .i64 (X + da)) := hd 37 (by kernel_rfl)
          have f40 : u 40 = (.int .i64 db) := hd 40 (by kernel_rfl)
          simp only [setU, upd, List.map_cons, List.map_nil, List.contains_cons, List.contains_nil, Nat.reduceBEq, Nat.reduceAdd, Bool.or_false, Bool.false_or, Bool.or_true, Bool.true_or, Bool.false_eq_true, if_false, if_true, ite_true, ite_false, Nat.reduceEqDiff, beq_self_eq_true] at hK ⊢
          rw [f37, f40] at hK ⊢
          clear f37 f40
          go_wp2_with (fail)
          exact hK _ _ (by (first | ((repeat' with_reducible first | assumption | exact Below.refl _ _ | apply Blw.alloc | apply Blw.drew | apply Blw.drewN | (refine Blw.after ?_ (by assumption)) | (refine Blw.set ?_ (by first | (dsimp only; omega) | (simp; omega)) _)); done) | (repeat' (first | assumption | exact Below.refl _ _ | apply Blw.alloc | apply Blw.drew | apply Blw.drewN | (refine Blw.after ?_ (by assumption)) | (refine Blw.set ?_ (by first | (dsimp only; omega) | (simp; done) | (simp; omega)) _))))) rfl
        · intro u w2 hH hd K hK
          simp only [setU, upd, List.map_cons, List.map_nil, List.contains_cons, List.contains_nil, Nat.reduceBEq, Nat.reduceAdd, Bool.or_false, Bool.false_or, Bool.or_true, Bool.true_or, Bool.false_eq_true, if_false, if_true, ite_true, ite_false, Nat.reduceEqDiff, beq_self_eq_true] at hK ⊢
          go_wp2_with (fail)
          exact hK _ _ (by (first | ((repeat' with_reducible first | assumption | exact Below.refl _ _ | apply Blw.alloc | apply Blw.drew | apply Blw.drewN | (refine Blw.after ?_ (by assumption)) | (refine Blw.set ?_ (by first | (dsimp only; omega) | (simp; omega)) _)); done) | (repeat' (first | assumption | exact Below.refl _ _ | apply Blw.alloc | apply Blw.drew | apply Blw.drewN | (refine Blw.after ?_ (by assumption)) | (refine Blw.set ?_ (by first | (dsimp only; omega) | (simp; done) | (simp; omega)) _))))) rfl
        · intro u w2 hH hd K hK
          have f42 : u 42 = (.pointer (some ⟨w.heap.size, 1, none⟩)) := hd 42 (by kernel_rfl)
          simp only [setU, upd, List.map_cons, List.map_nil, List.contains_cons, List.contains_nil, Nat.reduceBEq, Nat.reduceAdd, Bool.or_false, Bool.false_or, Bool.or_true, Bool.true_or, Bool.false_eq_true, if_false, if_true, ite_true, ite_false, Nat.reduceEqDiff, beq_self_eq_true] at hK ⊢
          rw [f42] at hK ⊢
          clear f42
          go_wp2_with (fail)
          exact hK _ _ (by (first | ((repeat' with_reducible first | assumption | exact Below.refl _ _ | apply Blw.alloc | apply Blw.drew | apply Blw.drewN | (refine Blw.after ?_ (by assumption)) | (refine Blw.set ?_ (by first | (dsimp only; omega) | (simp; omega)) _)); done) | (repeat' (first | assumption | exact Below.refl _ _ | apply Blw.alloc | apply Blw.drew | apply Blw.drewN | (refine Blw.after ?_ (by assumption)) | (refine Blw.set ?_ (by first | (dsimp only; omega) | (simp; done) | (simp; omega)) _))))) rfl
        · intro u w2 hH hd K hK
          have f41 : u 41 = (.int .i64 (X + da + db)) := hd 41 (by kernel_rfl)
          have f43 : u 43 = (.int .i64 Y) := hd 43 (by kernel_rfl)
          simp only [setU, upd, List.map_cons, List.map_nil, List.contains_cons, List.contains_nil, Nat.reduceBEq, Nat.reduceAdd, Bool.or_false, Bool.false_or, Bool.or_true, Bool.true_or, Bool.false_eq_true, if_false, if_true, ite_true, ite_false, Nat.reduceEqDiff, beq_self_eq_true] at hK ⊢
          rw [f41, f43] at hK ⊢
          clear f41 f43
          go_wp2_with (fail)
          exact hK _ _ (by (first | ((repeat' with_reducible first | assumption | exact Below.refl _ _ | apply Blw.alloc | apply Blw.drew | apply Blw.drewN | (refine Blw.after ?_ (by assumption)) | (refine Blw.set ?_ (by first | (dsimp only; omega) | (simp; omega)) _)); done) | (repeat' (first | assumption | exact Below.refl _ _ | apply Blw.alloc | apply Blw.drew | apply Blw.drewN | (refine Blw.after ?_ (by assumption)) | (refine Blw.set ?_ (by first | (dsimp only; omega) | (simp; done) | (simp; omega)) _))))) rfl
        · intro u w2 hH hd K hK
          have f44 : u 44 = (pr (X + da + db) Y) := hd 44 (by kernel_rfl)
          simp only [setU, upd, List.map_cons, List.map_nil, List.contains_cons, List.contains_nil, Nat.reduceBEq, Nat.reduceAdd, Bool.or_false, Bool.false_or, Bool.or_true, Bool.true_or, Bool.false_eq_true, if_false, if_true, ite_true, ite_false, Nat.reduceEqDiff, beq_self_eq_true] at hK ⊢
          rw [f44] at hK ⊢
          clear f44
          go_wp2_with ((go_at_call 69; refine (HLL.out _).mono ?_; rintro e w1 ⟨rfl, hb⟩; obtain ⟨hc, hf⟩ := bcell hb; have hz := bsize hb; have hs := hb.size; try simp at hs))
          exact hK _ _ (by (first | ((repeat' with_reducible first | assumption | exact Below.refl _ _ | apply Blw.alloc | apply Blw.drew | apply Blw.drewN | (refine Blw.after ?_ (by assumption)) | (refine Blw.set ?_ (by first | (dsimp only; omega) | (simp; omega)) _)); done) | (repeat' (first | assumption | exact Below.refl _ _ | apply Blw.alloc | apply Blw.drew | apply Blw.drewN | (refine Blw.after ?_ (by assumption)) | (refine Blw.set ?_ (by first | (dsimp only; omega) | (simp; done) | (simp; omega)) _))))) rfl
        · intro u w2 hH hd K hK
          have f45 : u 45 = (.tuple #[.int .i64 d, pr X' Y']) := hd 45 (by kernel_rfl)
          simp only [setU, upd, List.map_cons, List.map_nil, List.contains_cons, List.contains_nil, Nat.reduceBEq, Nat.reduceAdd, Bool.or_false, Bool.false_or, Bool.or_true, Bool.true_or, Bool.false_eq_true, if_false, if_true, ite_true, ite_false, Nat.reduceEqDiff, beq_self_eq_true] at hK ⊢
          rw [f45] at hK ⊢
          clear f45
          go_wp2_with (fail)
          exact hK _ _ (by (first | ((repeat' with_reducible first | assumption | exact Below.refl _ _ | apply Blw.alloc | apply Blw.drew | apply Blw.drewN | (refine Blw.after ?_ (by assumption)) | (refine Blw.set ?_ (by first | (dsimp only; omega) | (simp; omega)) _)); done) | (repeat' (first | assumption | exact Below.refl _ _ | apply Blw.alloc | apply Blw.drew | apply Blw.drewN | (refine Blw.after ?_ (by assumption)) | (refine Blw.set ?_ (by first | (dsimp only; omega) | (simp; done) | (simp; omega)) _))))) rfl
        · intro u w2 hH hd K hK
          have f31 : u 31 = (.tuple #[.int .i64 d, pr X' Y']) := hd 31 (by kernel_rfl)
          simp only [setU, upd, List.map_cons, List.map_nil, List.contains_cons, List.contains_nil, Nat.reduceBEq, Nat.reduceAdd, Bool.or_false, Bool.false_or, Bool.or_true, Bool.true_or, Bool.false_eq_true, if_false, if_true, ite_true, ite_false, Nat.reduceEqDiff, beq_self_eq_true] at hK ⊢
          rw [f31] at hK ⊢
          clear f31
          go_wp2_with (fail)
          exact hK _ _ (by (first | ((repeat' with_reducible first | assumption | exact Below.refl _ _ | apply Blw.alloc | apply Blw.drew | apply Blw.drewN | (refine Blw.after ?_ (by assumption)) | (refine Blw.set ?_ (by first | (dsimp only; omega) | (simp; omega)) _)); done) | (repeat' (first | assumption | exact Below.refl _ _ | apply Blw.alloc | apply Blw.drew | apply Blw.drewN | (refine Blw.after ?_ (by assumption)) | (refine Blw.set ?_ (by first | (dsimp only; omega) | (simp; done) | (simp; omega)) _))))) rfl
        · intro u w2 hH hd
          have f31 : u 31 = (.tuple #[.int .i64 d, pr X' Y']) := hd 31 (by kernel_rfl)
          simp only [setU, upd, List.map_cons, List.map_nil, List.contains_cons, List.contains_nil, Nat.reduceBEq, Nat.reduceAdd, Bool.or_false, Bool.false_or, Bool.or_true, Bool.true_or, Bool.false_eq_true, if_false, if_true, ite_true, ite_false, Nat.reduceEqDiff, beq_self_eq_true]
          rw [f31]
          clear f31
          refine ⟨(pr X' Y'), fun w hS => ?_, by first | rfl | trivial, by first | rfl | trivial, by first | rfl | trivial⟩
          first | (go_simp; done) | (go_simp; exact IntWalk.i64_in _ (by omega))
        · intro u w2 hH hd K hK
          simp only [setU, upd, List.map_cons, List.map_nil, List.contains_cons, List.contains_nil, Nat.reduceBEq, Nat.reduceAdd, Bool.or_false, Bool.false_or, Bool.or_true, Bool.true_or, Bool.false_eq_true, if_false, if_true, ite_true, ite_false, Nat.reduceEqDiff, beq_self_eq_true] at hK ⊢
          go_wp2_with (fail)
          exact hK _ _ (by (first | ((repeat' with_reducible first | assumption | exact Below.refl _ _ | apply Blw.alloc | apply Blw.drew | apply Blw.drewN | (refine Blw.after ?_ (by assumption)) | (refine Blw.set ?_ (by first | (dsimp only; omega) | (simp; omega)) _)); done) | (repeat' (first | assumption | exact Below.refl _ _ | apply Blw.alloc | apply Blw.drew | apply Blw.drewN | (refine Blw.after ?_ (by assumption)) | (refine Blw.set ?_ (by first | (dsimp only; omega) | (simp; done) | (simp; omega)) _))))) (OwnP.new _ _ _)
        intro u w2 hH hF hne
        have hH1 := hH.1
        have hH2 := hH.2.2.2
        simp only [allFacts, SlotFact.h] at hF
        obtain ⟨f32, f33, f34, f35, f36, f37, f38, f39, f40, f41, f42, f43, f44, f45, f31, f46, f47, ⟨b11, f11, g11, l11, k11, z11⟩, -⟩ := hF
        simp only [setU, upd, List.map_cons, List.map_nil, List.contains_cons, List.contains_nil, Nat.reduceBEq, Nat.reduceAdd, Bool.or_false, Bool.false_or, Bool.or_true, Bool.true_or, Bool.false_eq_true, if_false, if_true, ite_true, ite_false, Nat.reduceEqDiff, beq_self_eq_true]
        rw [f32, f33, f34, f35, f36, f37, f38, f39, f40, f41, f42, f43, f44, f45, f31, f46, f47, f11]
        clear f32 f33 f34 f35 f36 f37 f38 f39 f40 f41 f42 f43 f44 f45 f31 f46 f47 f11 hne
        have c11_0 := k11 0 _ rfl
        have e11_0 := z11 0 (by simp)
        have c11_1 := k11 1 _ rfl
        have e11_1 := z11 1 (by simp)
        clear k11 z11
        refine wpListS_true ?_
        go_wp2_with fail
        generalize hW : World.setCell _ _ _ = W1
        have kW1_21 : W1.cell? ⟨w.heap.size, 0, none⟩ = some (.int .i64 (X)) := by rw [← hW]; clear hW; first | (go_simp; done) | ((repeat refine keepcell ((Below.refl _ _).alloc (Nat.le_refl _) _) ?_); go_simp; done) | (simp only [frozen?_alloc_cells]; go_simp; done)
        have zW1_21 : W1.frozen? ⟨w.heap.size, 0, none⟩ = false := by rw [← hW]; clear hW; first | (go_simp; done) | ((repeat refine keepcell ((Below.refl _ _).alloc (Nat.le_refl _) _) ?_); go_simp; done) | (simp only [frozen?_alloc_cells]; go_simp; done)
        have kW1_22 : W1.cell? ⟨w.heap.size, 1, none⟩ = some (.int .i64 (Y)) := by rw [← hW]; clear hW; first | (go_simp; done) | ((repeat refine keepcell ((Below.refl _ _).alloc (Nat.le_refl _) _) ?_); go_simp; done) | (simp only [frozen?_alloc_cells]; go_simp; done)
        have zW1_22 : W1.frozen? ⟨w.heap.size, 1, none⟩ = false := by rw [← hW]; clear hW; first | (go_simp; done) | ((repeat refine keepcell ((Below.refl _ _).alloc (Nat.le_refl _) _) ?_); go_simp; done) | (simp only [frozen?_alloc_cells]; go_simp; done)
        have : w.heap.size < W1.heap.size := World.block_lt_of_cell? W1 ⟨w.heap.size, 0, none⟩ (by assumption)
        have kW1_23 : W1.cell? ⟨b11, 0, none⟩ = some (.int .i64 (X')) := by rw [← hW]; clear hW; first | (go_simp; done) | ((repeat refine keepcell ((Below.refl _ _).alloc (Nat.le_refl _) _) ?_); go_simp; done) | (simp only [frozen?_alloc_cells]; go_simp; done)
        have kW1_24 : W1.cell? ⟨b11, 1, none⟩ = some (.int .i64 (Y')) := by rw [← hW]; clear hW; first | (go_simp; done) | ((repeat refine keepcell ((Below.refl _ _).alloc (Nat.le_refl _) _) ?_); go_simp; done) | (simp only [frozen?_alloc_cells]; go_simp; done)
        have : b11 < W1.heap.size := World.block_lt_of_cell? W1 ⟨b11, 0, none⟩ (by assumption)
        have hBW1 : Below w.heap.size w W1 := by rw [← hW]; (first | ((repeat' with_reducible first | assumption | exact Below.refl _ _ | apply Blw.alloc | apply Blw.drew | apply Blw.drewN | (refine Blw.after ?_ (by assumption)) | (refine Blw.set ?_ (by first | (dsimp only; omega) | (simp; omega)) _)); done) | (repeat' (first | assumption | exact Below.refl _ _ | apply Blw.alloc | apply Blw.drew | apply Blw.drewN | (refine Blw.after ?_ (by assumption)) | (refine Blw.set ?_ (by first | (dsimp only; omega) | (simp; done) | (simp; omega)) _))))
        have hsW1 := hBW1.size
        have HO1 := Lib.hid (own_below HO.out (show Below wr.heap.size wr W1 by rw [← hW]; (first | ((repeat' with_reducible first | assumption | exact Below.refl _ _ | apply Blw.alloc | apply Blw.drew | apply Blw.drewN | (refine Blw.after ?_ (by assumption)) | (refine Blw.set ?_ (by first | (dsimp only; omega) | (simp; omega)) _)); done) | (repeat' (first | assumption | exact Below.refl _ _ | apply Blw.alloc | apply Blw.drew | apply Blw.drewN | (refine Blw.after ?_ (by assumption)) | (refine Blw.set ?_ (by first | (dsimp only; omega) | (simp; done) | (simp; omega)) _))))))
        clear hW
        try clear kW0_19; try clear zW0_19; try clear kW0_20; try clear zW0_20; try clear hH; try clear hH1; try clear c11_0; try clear e11_0; try clear c11_1; try clear e11_1
        go_wp2_with (first
          | (go_at_call 71; refine (l2Bit_c _ _ HDD.out).mono ?_; rintro e w1 ⟨rfl, rfl⟩)
          | (at_builtin; refine wpList_append_own _ rfl _ _ 61 rfl (w.heap.size + 1) 99 i0 (.agg #[.int .i64 0, .int .i64 0]) 2 16 Tryz.underlying61 hi hz0 hz1 hz2 rfl (by decide) _ _ _ rfl ((own_set (own_set HO1.out (Nat.lt_succ_self _) _) (Nat.lt_succ_self _) _).alloc _) ⟨W1.heap.size, 0, none⟩ 1 1 [.int .i64 X', .int .i64 Y'] rfl rfl (cells2n _ _ _ _ _ (by simp)) (two1 _ _ rfl rfl) (by unfold maxLen; omega) (by omega) (by simp; omega) ?_))
        intro v' W2 hown' hgrow _
        have hne : some w.heap.size ≠ (u8 : Value).ownBlock := HNE.out
        have k0 : W2.cell? ⟨w.heap.size, 0, none⟩ = some (.int .i64 X') := hgrow.cell (by go_simp) hne
        have k1 : W2.cell? ⟨w.heap.size, 1, none⟩ = some (.int .i64 Y') := hgrow.cell (by go_simp) hne
        have g0 : W2.frozen? ⟨w.heap.size, 0, none⟩ = false := (World.frozen?_of_block (hgrow.block w.heap.size (by simp; omega) hne)).trans (by go_simp)
        have g1 : W2.frozen? ⟨w.heap.size, 1, none⟩ = false := (World.frozen?_of_block (hgrow.block w.heap.size (by simp; omega) hne)).trans (by go_simp)
        have hB2 : Below w.heap.size w W2 := Below.grown (by (first | ((repeat' with_reducible first | assumption | exact Below.refl _ _ | apply Blw.alloc | apply Blw.drew | apply Blw.drewN | (refine Blw.after ?_ (by assumption)) | (refine Blw.set ?_ (by first | (dsimp only; omega) | (simp; omega)) _)); done) | (repeat' (first | assumption | exact Below.refl _ _ | apply Blw.alloc | apply Blw.drew | apply Blw.drewN | (refine Blw.after ?_ (by assumption)) | (refine Blw.set ?_ (by first | (dsimp only; omega) | (simp; done) | (simp; omega)) _))))) hgrow (by simp; omega) (fun k hk => by have := (HO.out.lt k hk).1; omega)
        have HO2 := Lib.hid hown'
        clear hgrow hown' hne
        try clear kW1_21; try clear zW1_21; try clear kW1_22; try clear zW1_22; try clear kW1_23; try clear kW1_24
        go_wp2
        go_roundg (gk - 1)
        case measure => omega
        case rel => exact HREL.out _ _ HO2.out hB2 k0 k1 g0 g1
    · obtain rfl : k = stepsA a b := by omega
      obtain ⟨e0, e1⟩ := done_zero HA.out HB.out
      have e2 := HZ.out.2 e0
      rw [e2.1] at c0
      rw [e2.2] at c1
      unfold wide at e1
      have l1 : ¬ stepsA a b < a.size := by omega
      have l2 : ¬ stepsA a b < b.size := by omega
      clear hrs HNE HG HZ e0 e2 hr x1 x2 y1 y2
      go_wp2
      go_ret2
      exact ⟨_, t, rfl, HT.out, ownsRow_low (by omega) HO.out, by (first | ((repeat' with_reducible first | assumption | exact Below.refl _ _ | apply Blw.alloc | apply Blw.drew | apply Blw.drewN | (refine Blw.after ?_ (by assumption)) | (refine Blw.set ?_ (by first | (dsimp only; omega) | (simp; omega)) _)); done) | (repeat' (first | assumption | exact Below.refl _ _ | apply Blw.alloc | apply Blw.drew | apply Blw.drewN | (refine Blw.after ?_ (by assumption)) | (refine Blw.set ?_ (by first | (dsimp only; omega) | (simp; done) | (simp; omega)) _))))⟩
end Go.Proofs.YtmondgcehgmamaaGreatDoor

namespace Go.Proofs.YtmondgcehgmamaaGreatDoor
set_option linter.unusedSimpArgs false
set_option linter.unusedVariables false
open Go.RowKit

def addV (a b : ByteArray) : Value := if vldB a && vldB b then exV (outA a b (stepsA a b)) else .tuple #[.string ⟨#[]⟩, .bool false]
theorem addV_yes {a b : ByteArray} (ha : vldB a = true) (hb : vldB b = true) : addV a b = exV (outA a b (stepsA a b)) := by unfold addV; rw [ha, hb]; rfl
theorem addV_no {a b : ByteArray} (h : vldB a = false ∨ vldB b = false) : addV a b = .tuple #[.string ⟨#[]⟩, .bool false] := by
  unfold addV; rcases h with h | h <;> rw [h] <;> simp
theorem addV_shape (a b : ByteArray) : ∃ s ok, addV a b = .tuple #[.string s, .bool ok] := by
  unfold addV; split
  · exact exV_shape _
  · exact ⟨_, _, rfl⟩
/-- what addDigits leaves, whatever the texts -/
def AddAll (a b : ByteArray) (w : World) (e : Ending) (w' : World) : Prop :=
  ∃ (s : ByteArray) (ok : Bool) (v : Value), addV a b = .tuple #[.string s, .bool ok] ∧ e = .returned (.tuple #[.string s, v, .bool ok]) ∧ (ok = true → vldB a = true ∧ vldB b = true ∧ w'.ownsRow w.heap.size 99 2 v (stepsA a b) (gcells (carA a b (stepsA a b)))) ∧ (ok = false → v = .slice none 0 0) ∧ Below w.heap.size w w'
set_option maxRecDepth 100000 in
set_option maxHeartbeats 1000000 in
theorem addDigits_c (a b : ByteArray) (w : World) (hT : Tab w) : Calls Tryz.prog 39 #[.string a, .string b] w (AddAll a b w) := by
  rcases Bool.eq_false_or_eq_true (vldB a) with ha | ha
  · rcases Bool.eq_false_or_eq_true (vldB b) with hb | hb
    · refine (addDigits_yes a b w hT ha hb).mono fun e w' h => ?_
      obtain ⟨s, ok, v, h1, h2, h3, h4, h5⟩ := h
      exact ⟨s, ok, v, (addV_yes ha hb).trans h1, h2, fun h => ⟨ha, hb, h3 h⟩, h4, h5⟩
    · have H := Lib.hid (addV_no (a := a) (b := b) (Or.inr hb))
      clear hT
      go_enter Tryz.func39, Tryz.ntmps39
      go_wp2_with (first | (go_at_call 66; refine (iDigitsValid_c _ _).mono ?_; rintro e w1 ⟨rfl, hb⟩; obtain ⟨hc, hf⟩ := bcell hb; have hz := bsize hb; have hs := hb.size; try simp at hs))
      go_ret3
      exact ⟨_, false, _, H.out, rfl, (fun h => by cases h), (fun _ => rfl), by (first | ((repeat' with_reducible first | assumption | exact Below.refl _ _ | apply Blw.alloc | apply Blw.drew | apply Blw.drewN | (refine Blw.after ?_ (by assumption)) | (refine Blw.set ?_ (by first | (dsimp only; omega) | (simp; omega)) _)); done) | (repeat' (first | assumption | exact Below.refl _ _ | apply Blw.alloc | apply Blw.drew | apply Blw.drewN | (refine Blw.after ?_ (by assumption)) | (refine Blw.set ?_ (by first | (dsimp only; omega) | (simp; done) | (simp; omega)) _))))⟩
  · have H := Lib.hid (addV_no (a := a) (b := b) (Or.inl ha))
    clear hT
    go_enter Tryz.func39, Tryz.ntmps39
    go_wp2_with (first | (go_at_call 66; refine (iDigitsValid_c _ _).mono ?_; rintro e w1 ⟨rfl, hb⟩; obtain ⟨hc, hf⟩ := bcell hb; have hz := bsize hb; have hs := hb.size; try simp at hs))
    go_ret3
    exact ⟨_, false, _, H.out, rfl, (fun h => by cases h), (fun _ => rfl), by (first | ((repeat' with_reducible first | assumption | exact Below.refl _ _ | apply Blw.alloc | apply Blw.drew | apply Blw.drewN | (refine Blw.after ?_ (by assumption)) | (refine Blw.set ?_ (by first | (dsimp only; omega) | (simp; omega)) _)); done) | (repeat' (first | assumption | exact Below.refl _ _ | apply Blw.alloc | apply Blw.drew | apply Blw.drewN | (refine Blw.after ?_ (by assumption)) | (refine Blw.set ?_ (by first | (dsimp only; omega) | (simp; done) | (simp; omega)) _))))⟩

set_option maxHeartbeats 1000000 in
theorem iDigitsAdd_c (a b : ByteArray) (w : World) (hT : Tab w) : Calls Tryz.prog 16 #[.string a, .string b] w fun e w' => e = .returned (addV a b) ∧ Below w.heap.size w w' := by
  go_enter Tryz.func16, Tryz.ntmps16
  go_wp2_with fail
  refine (addDigits_c a b w hT).mono ?_
  rintro e w1 ⟨s, ok, v, h1, rfl, -, -, hb⟩
  have H := Lib.hid h1
  clear h1
  go_wp2
  go_ret2
  exact ⟨by rw [H.out]; rfl, hb⟩

set_option maxHeartbeats 1000000 in
theorem sDigitsAdd_c (a b : ByteArray) (w : World) : Calls Tryz.prog 17 #[.string a, .string b] w fun e w' => e = .returned (addV a b) ∧ Below w.heap.size w w' := by
  rcases Bool.eq_false_or_eq_true (vldB a) with ha | ha
  · rcases Bool.eq_false_or_eq_true (vldB b) with hb | hb
    · have H := Lib.hid (addV_yes ha hb)
      have HA := Lib.hid ha
      have HB := Lib.hid hb
      go_enter Tryz.func17, Tryz.ntmps17
      go_wp2_with (first | (go_at_call 40; refine (sDigitsValid_c _ _).mono ?_; rintro e w1 ⟨rfl, rfl⟩))
      refine (l2Add_c a b w HA.out HB.out).mono ?_
      rintro e w1 ⟨v, t, rfl, ht, -, hbw⟩
      have HT := Lib.hid (show exV (outA a b (stepsA a b)) = resD (toL t) by
        unfold exV
        rw [if_neg (by intro h; have := outA_len (a := a) (b := b) (stepsA a b); rw [h] at this; have := steps_le HA.out HB.out; simp at *; omega), ht])
      clear ht ha hb
      go_wp2_with (first | (go_at_call 42; refine (l2Done_c _ _).mono ?_; rintro e w1 ⟨rfl, rfl⟩))
      go_ret2
      exact ⟨by rw [H.out, HT.out]; rfl, hbw⟩
    · have H := Lib.hid (addV_no (a := a) (b := b) (Or.inr hb))
      go_enter Tryz.func17, Tryz.ntmps17
      go_wp2_with (first | (go_at_call 40; refine (sDigitsValid_c _ _).mono ?_; rintro e w1 ⟨rfl, rfl⟩))
      go_ret2
      exact ⟨by rw [H.out]; rfl, by (first | ((repeat' with_reducible first | assumption | exact Below.refl _ _ | apply Blw.alloc | apply Blw.drew | apply Blw.drewN | (refine Blw.after ?_ (by assumption)) | (refine Blw.set ?_ (by first | (dsimp only; omega) | (simp; omega)) _)); done) | (repeat' (first | assumption | exact Below.refl _ _ | apply Blw.alloc | apply Blw.drew | apply Blw.drewN | (refine Blw.after ?_ (by assumption)) | (refine Blw.set ?_ (by first | (dsimp only; omega) | (simp; done) | (simp; omega)) _))))⟩
  · have H := Lib.hid (addV_no (a := a) (b := b) (Or.inl ha))
    go_enter Tryz.func17, Tryz.ntmps17
    go_wp2_with (first | (go_at_call 40; refine (sDigitsValid_c _ _).mono ?_; rintro e w1 ⟨rfl, rfl⟩))
    go_ret2
    exact ⟨by rw [H.out]; rfl, by (first | ((repeat' with_reducible first | assumption | exact Below.refl _ _ | apply Blw.alloc | apply Blw.drew | apply Blw.drewN | (refine Blw.after ?_ (by assumption)) | (refine Blw.set ?_ (by first | (dsimp only; omega) | (simp; omega)) _)); done) | (repeat' (first | assumption | exact Below.refl _ _ | apply Blw.alloc | apply Blw.drew | apply Blw.drewN | (refine Blw.after ?_ (by assumption)) | (refine Blw.set ?_ (by first | (dsimp only; omega) | (simp; done) | (simp; omega)) _))))⟩
end Go.Proofs.YtmondgcehgmamaaGreatDoor

namespace Go.Proofs.YtmondgcehgmamaaGreatDoor
set_option linter.unusedSimpArgs false
set_option linter.unusedVariables false
open Go.RowKit

def sumR (a b : ByteArray) : List UInt8 := if outA a b (stepsA a b) = [] then [48] else (outA a b (stepsA a b)).reverse
def addOk (a b : ByteArray) : Bool := (vldB a && vldB b) && vldL (strip (sumR a b))
def addS (a b : ByteArray) : ByteArray := selS (addOk a b) (strip (sumR a b))
theorem addV_eq (a b : ByteArray) : addV a b = .tuple #[.string (addS a b), .bool (addOk a b)] := by
  unfold addV addS addOk
  cases h : (vldB a && vldB b) with
  | true => simp only [Bool.true_and, if_true]; rfl
  | false => simp only [Bool.false_and]; rfl
/-- a text with so many zeros behind it, which 0 does not take -/
def shiftB (a : ByteArray) (z : Nat) : ByteArray := if toL a = [48] then a else bs (toL a ++ List.replicate z 48)
/-- the sum of the shifted texts of the first digits, if none was too long -/
def tmO (a b : ByteArray) : Nat → Option ByteArray
  | 0 => some ⟨#[48]⟩
  | i + 1 => (tmO a b i).bind fun t => if (toL b).getD i 48 = 48 then some t else if addOk t (shiftB a (b.size - 1 - i)) then some (addS t (shiftB a (b.size - 1 - i))) else none
def timesV (a b : ByteArray) : Value := match (if vldB a && vldB b then tmO a b b.size else none) with
  | some t => .tuple #[.string t, .bool true]
  | none => .tuple #[.string ⟨#[]⟩, .bool false]
theorem timesV_no {a b : ByteArray} (h : vldB a = false ∨ vldB b = false) : timesV a b = .tuple #[.string ⟨#[]⟩, .bool false] := by
  unfold timesV; rcases h with h | h <;> rw [h] <;> simp
theorem timesV_some {a b t : ByteArray} (ha : vldB a = true) (hb : vldB b = true) (h : tmO a b b.size = some t) : timesV a b = .tuple #[.string t, .bool true] := by
  unfold timesV; rw [ha, hb, h]; rfl
theorem timesV_none {a b : ByteArray} (ha : vldB a = true) (hb : vldB b = true) (h : tmO a b b.size = none) : timesV a b = .tuple #[.string ⟨#[]⟩, .bool false] := by
  unfold timesV; rw [ha, hb, h]; rfl
theorem timesV_shape (a b : ByteArray) : ∃ s ok, timesV a b = .tuple #[.string s, .bool ok] := by
  unfold timesV; split <;> exact ⟨_, _, rfl⟩
theorem toL_getD {b : ByteArray} {i : Nat} (h : i < b.size) : (toL b).getD i 48 = b[i] := by
  rw [List.getD, toL_get b i h]; rfl
theorem tm_zero {a b t : ByteArray} {i : Nat} (h : tmO a b i = some t) (hi : i < b.size) (h48 : b[i].toNat = 48) : tmO a b (i + 1) = some t := by
  unfold tmO; rw [h, Option.bind_some, toL_getD hi, if_pos (UInt8.toNat_inj.1 (by rw [h48]; rfl))]
theorem tm_one {a b t : ByteArray} {i : Nat} (h : tmO a b i = some t) (hi : i < b.size) (h49 : b[i].toNat ≠ 48) (hok : addOk t (shiftB a (b.size - 1 - i)) = true) : tmO a b (i + 1) = some (addS t (shiftB a (b.size - 1 - i))) := by
  unfold tmO; rw [h, Option.bind_some, toL_getD hi, if_neg (by intro e; apply h49; rw [e]; rfl), if_pos hok]
theorem tm_fail {a b t : ByteArray} {i : Nat} (h : tmO a b i = some t) (hi : i < b.size) (h49 : b[i].toNat ≠ 48) (hok : addOk t (shiftB a (b.size - 1 - i)) = false) : tmO a b b.size = none := by
  have h1 : tmO a b (i + 1) = none := by
    unfold tmO; rw [h, Option.bind_some, toL_getD hi, if_neg (by intro e; apply h49; rw [e]; rfl), hok]; rfl
  have key : ∀ j, tmO a b (i + 1 + j) = none := by
    intro j
    induction j with
    | zero => exact h1
    | succ j ih => rw [← Nat.add_assoc]; unfold tmO; rw [ih]; rfl
  have := key (b.size - (i + 1))
  rwa [show i + 1 + (b.size - (i + 1)) = b.size by omega] at this

theorem repeat_zeros (z : Nat) : (Lib.repeatL [48] z : List UInt8) = List.replicate z 48 := by
  induction z with
  | zero => rfl
  | succ z ih => simp [Lib.repeatL, List.replicate_succ, ih]
theorem shifted_c (a : ByteArray) (z : Nat) (w : World) (ha : a.size ≤ 50) (hz : z ≤ 50) : Calls Tryz.prog 170 #[.string a, .int .i64 z] w fun e w' => e = .returned (.string (shiftB a z)) ∧ Below w.heap.size w w' := by
  by_cases h : toL a = [48]
  · have e1 : (a.toList == [48]) = true := by rw [toList_toL, h]; rfl
    have H := Lib.hid (show shiftB a z = a by unfold shiftB; rw [if_pos h])
    clear h
    go_enter Tryz.func170, Tryz.ntmps170
    go_wp2_with fail
    go_ret
    exact ⟨by rw [H.out]; rfl, by (first | ((repeat' with_reducible first | assumption | exact Below.refl _ _ | apply Blw.alloc | apply Blw.drew | apply Blw.drewN | (refine Blw.after ?_ (by assumption)) | (refine Blw.set ?_ (by first | (dsimp only; omega) | (simp; omega)) _)); done) | (repeat' (first | assumption | exact Below.refl _ _ | apply Blw.alloc | apply Blw.drew | apply Blw.drewN | (refine Blw.after ?_ (by assumption)) | (refine Blw.set ?_ (by first | (dsimp only; omega) | (simp; done) | (simp; omega)) _))))⟩
  · have e1 : (a.toList == [48]) = false := by rw [toList_toL]; simpa using h
    have H := Lib.hid (show shiftB a z = a ++ bs (List.replicate z 48) by
      unfold shiftB; rw [if_neg h]; apply toL_ext; rw [toL_bs]; simp [toL, bs, ByteArray.data_append])
    clear h
    have hR := Tryz.strings_Repeat ⟨#[48]⟩ z w (by omega) (by show 1 * z ≤ _; omega)
    have HR := Lib.hid (show Calls Tryz.prog 195 #[.string ⟨#[48]⟩, .int .i64 z] w fun e w' => e = .returned (.string (bs (List.replicate z 48))) ∧ Below w.heap.size w w' from hR.mono fun e w' h => ⟨by rw [h.1, repeat_zeros]; rfl, h.2⟩)
    clear hR
    have hsz : (bs (List.replicate z 48)).size = z := by rw [← toL_len, toL_bs, List.length_replicate]
    go_enter Tryz.func170, Tryz.ntmps170
    go_wp2_with fail
    refine HR.out.mono ?_
    rintro e w1 ⟨rfl, hb⟩
    go_wp2
    go_ret
    exact ⟨by rw [H.out]; rfl, by (first | ((repeat' with_reducible first | assumption | exact Below.refl _ _ | apply Blw.alloc | apply Blw.drew | apply Blw.drewN | (refine Blw.after ?_ (by assumption)) | (refine Blw.set ?_ (by first | (dsimp only; omega) | (simp; omega)) _)); done) | (repeat' (first | assumption | exact Below.refl _ _ | apply Blw.alloc | apply Blw.drew | apply Blw.drewN | (refine Blw.after ?_ (by assumption)) | (refine Blw.set ?_ (by first | (dsimp only; omega) | (simp; done) | (simp; omega)) _))))⟩
end Go.Proofs.YtmondgcehgmamaaGreatDoor

namespace Go.Proofs.YtmondgcehgmamaaGreatDoor
set_option linter.unusedSimpArgs false
set_option linter.unusedVariables false
open Go.RowKit

def ITRel (a b : ByteArray) (w : World) (ib : Nat) (m : Nat) (tot : Value) (wr : World) : Prop :=
  ∃ (i : Nat) (t : ByteArray), i + m = b.size ∧ tot = .string t ∧ tmO a b i = some t ∧ wr.heap[ib]? = some (.stringIter b i) ∧ Below w.heap.size w wr
set_option maxRecDepth 100000 in
set_option maxHeartbeats 4000000 in
theorem iDigitsTimes_c (a b : ByteArray) (w : World) (hT : Tab w) : Calls Tryz.prog 124 #[.string a, .string b] w fun e w' => e = .returned (timesV a b) ∧ Below w.heap.size w w' := by
  have HT := Lib.hid hT
  have hpos := hT.1
  clear hT
  rcases Bool.eq_false_or_eq_true (vldB a) with ha | ha
  · rcases Bool.eq_false_or_eq_true (vldB b) with hvb | hvb
    · have HA := Lib.hid ha
      have HB := Lib.hid hvb
      have ha50 := (vldB_len ha).2
      have hb50 := (vldB_len hvb).2
      have HS := Lib.hid (fun t => timesV_some (t := t) ha hvb)
      have HN := Lib.hid (timesV_none ha hvb)
      go_enter Tryz.func124, Tryz.ntmps124
      go_wp2_with (first | (go_at_call 66; refine (iDigitsValid_c _ _).mono ?_; rintro e w1 ⟨rfl, hb⟩; obtain ⟨hc, hf⟩ := bcell hb; have hz := bsize hb; have hs := hb.size; try simp at hs))
      have hB1 := Lib.hid (show Below w.heap.size w w1 by (first | ((repeat' with_reducible first | assumption | exact Below.refl _ _ | apply Blw.alloc | apply Blw.drew | apply Blw.drewN | (refine Blw.after ?_ (by assumption)) | (refine Blw.set ?_ (by first | (dsimp only; omega) | (simp; omega)) _)); done) | (repeat' (first | assumption | exact Below.refl _ _ | apply Blw.alloc | apply Blw.drew | apply Blw.drewN | (refine Blw.after ?_ (by assumption)) | (refine Blw.set ?_ (by first | (dsimp only; omega) | (simp; done) | (simp; omega)) _)))))
      have hs1 := hB1.out.size
      have S0 := Lib.hid (show ITRel a b w w1.heap.size b.size (.string ⟨#[48]⟩) (w1.iter b 0) from ⟨0, ⟨#[48]⟩, by omega, rfl, rfl, World.iter_heap w1 b 0, hB1.out.trans ((iter_below w1 b 0).mono hs1)⟩)
      clear ha hvb hb hc hf hz hs
      go_loopg [6] b.size (fun m tot wr => ITRel a b w w1.heap.size m tot wr)
      case atStart => exact S0.out
      case round =>
        clear S0
        obtain ⟨i, t, hi, rfl, htm, hit, hB⟩ := hrel
        have HM := Lib.hid htm
        clear htm
        by_cases hlt : i < b.size
        · have hnx : ∀ ty, (Instr.next (.pointer (some ⟨w1.heap.size, 0, none⟩)) true ty).run Tryz.prog wr = _ := fun ty => Lib.run_next_any_at wr w1.heap.size b i ty hit hlt
          rw [decode_vld HB.out i hlt] at hnx
          have hit2 := Lib.iterAt_heap wr w1.heap.size b i (i + 1) hit
          have hB2 := Lib.below_iterAt hB (k := w1.heap.size) hs1 b (i + 1)
          generalize wr.iterAt w1.heap.size b (i + 1) = W2 at *
          have HI := Lib.hid hit2
          have L2 := iter_lt hit2
          clear hit hit2 hB
          by_cases e8 : b[i].toNat = 48
          · have a1 : ((b[i].toNat : Int) == 48) = true := by simp [e8]
            have HZ := Lib.hid (tm_zero HM.out hlt e8)
            clear e8
            go_wp2
            go_roundg (gk - 1)
            case measure => omega
            case rel => exact ⟨i + 1, t, by omega, rfl, HZ.out, HI.out, hB2⟩
          · have a1 : ((b[i].toNat : Int) == 48) = false := by simp; omega
            have e1 : ((b.size : Int) - 1 - (i : Int)) = ((b.size - 1 - i : Nat) : Int) := by omega
            have HO := Lib.hid (tm_one HM.out hlt e8)
            have HF := Lib.hid (tm_fail HM.out hlt e8)
            clear e8
            go_wp2_with (first | (go_at_call 170; fail))
            refine (shifted_c a (b.size - 1 - i) W2 ha50 (by omega)).mono ?_
            rintro e w3 ⟨rfl, hb3⟩
            have HI3 := Lib.hid (iter_of_below hb3 HI.out)
            have hB3 := Lib.hid (hB2.trans (hb3.mono hB2.size))
            have HT3 := Lib.hid (HT.out.keep hpos hB3.out)
            generalize shiftB a (b.size - 1 - i) = sh at *
            clear hb3 e1
            go_wp2_with fail
            refine (iDigitsAdd_c t sh w3 HT3.out).mono ?_
            rintro e w4 ⟨rfl, hb4⟩
            rw [addV_eq]
            have HI4 := Lib.hid (iter_of_below hb4 HI3.out)
            have hB4 := Lib.hid (hB3.out.trans (hb4.mono hB3.out.size))
            clear hb4
            rcases Bool.eq_false_or_eq_true (addOk t sh) with hok | hok
            · have HOK := Lib.hid (HO.out hok)
              generalize addS t sh = t' at *
              go_wp2
              go_roundg (gk - 1)
              case measure => omega
              case rel => exact ⟨i + 1, t', by omega, rfl, HOK.out, HI4.out, hB4.out⟩
            · have HFF := Lib.hid (HN.out (HF.out hok))
              go_wp2
              go_ret2
              exact ⟨by rw [HFF.out]; rfl, hB4.out⟩
        · have hnx : ∀ ty, (Instr.next (.pointer (some ⟨w1.heap.size, 0, none⟩)) true ty).run Tryz.prog wr = _ := fun ty => Lib.run_next_end_at wr w1.heap.size b i ty hit hlt
          obtain rfl : i = b.size := by omega
          have HR := Lib.hid (HS.out t HM.out)
          go_wp2
          go_ret2
          exact ⟨by rw [HR.out]; rfl, hB⟩
    · have H := Lib.hid (timesV_no (a := a) (b := b) (Or.inr hvb))
      go_enter Tryz.func124, Tryz.ntmps124
      go_wp2_with (first | (go_at_call 66; refine (iDigitsValid_c _ _).mono ?_; rintro e w1 ⟨rfl, hb⟩; obtain ⟨hc, hf⟩ := bcell hb; have hz := bsize hb; have hs := hb.size; try simp at hs))
      go_ret2
      exact ⟨by rw [H.out]; rfl, by (first | ((repeat' with_reducible first | assumption | exact Below.refl _ _ | apply Blw.alloc | apply Blw.drew | apply Blw.drewN | (refine Blw.after ?_ (by assumption)) | (refine Blw.set ?_ (by first | (dsimp only; omega) | (simp; omega)) _)); done) | (repeat' (first | assumption | exact Below.refl _ _ | apply Blw.alloc | apply Blw.drew | apply Blw.drewN | (refine Blw.after ?_ (by assumption)) | (refine Blw.set ?_ (by first | (dsimp only; omega) | (simp; done) | (simp; omega)) _))))⟩
  · have H := Lib.hid (timesV_no (a := a) (b := b) (Or.inl ha))
    go_enter Tryz.func124, Tryz.ntmps124
    go_wp2_with (first | (go_at_call 66; refine (iDigitsValid_c _ _).mono ?_; rintro e w1 ⟨rfl, hb⟩; obtain ⟨hc, hf⟩ := bcell hb; have hz := bsize hb; have hs := hb.size; try simp at hs))
    go_ret2
    exact ⟨by rw [H.out]; rfl, by (first | ((repeat' with_reducible first | assumption | exact Below.refl _ _ | apply Blw.alloc | apply Blw.drew | apply Blw.drewN | (refine Blw.after ?_ (by assumption)) | (refine Blw.set ?_ (by first | (dsimp only; omega) | (simp; omega)) _)); done) | (repeat' (first | assumption | exact Below.refl _ _ | apply Blw.alloc | apply Blw.drew | apply Blw.drewN | (refine Blw.after ?_ (by assumption)) | (refine Blw.set ?_ (by first | (dsimp only; omega) | (simp; done) | (simp; omega)) _))))⟩

/-! ### the model's side -/
def STRel (a b : ByteArray) (w : World) (m : Nat) (tot iv : Value) (wr : World) : Prop :=
  ∃ (i : Nat) (t : ByteArray), i + m = b.size ∧ iv = .int .i64 i ∧ tot = .string t ∧ tmO a b i = some t ∧ Below w.heap.size w wr
def SHRel (a b : ByteArray) (i : Nat) (wo : World) (m : Nat) (sh kv : Value) (wr : World) : Prop :=
  ∃ k : Nat, k + m = b.size ∧ i + 1 ≤ k ∧ kv = .int .i64 k ∧ wr = wo ∧ sh = .string (bs (toL a ++ List.replicate (k - (i + 1)) 48))
theorem bs_size (l : List UInt8) : (bs l).size = l.length := by rw [← toL_len, toL_bs]
theorem bs_app (l m : List UInt8) : bs l ++ bs m = bs (l ++ m) := toL_ext (by rw [toL_bs]; simp [toL, bs, ByteArray.data_append])
set_option maxRecDepth 100000 in
set_option maxHeartbeats 4000000 in
theorem sDigitsTimes_c (a b : ByteArray) (w : World) : Calls Tryz.prog 106 #[.string a, .string b] w fun e w' => e = .returned (timesV a b) ∧ Below w.heap.size w w' := by
  rcases Bool.eq_false_or_eq_true (vldB a) with ha | ha
  · rcases Bool.eq_false_or_eq_true (vldB b) with hvb | hvb
    · have HA := Lib.hid ha
      have HB := Lib.hid hvb
      have ha50 := (vldB_len ha).2
      have hb50 := (vldB_len hvb).2
      have HS := Lib.hid (fun t => timesV_some (t := t) ha hvb)
      have HN := Lib.hid (timesV_none ha hvb)
      go_enter Tryz.func106, Tryz.ntmps106
      go_wp2_with (first | (go_at_call 40; refine (sDigitsValid_c _ _).mono ?_; rintro e w1 ⟨rfl, rfl⟩))
      have S0 := Lib.hid (show STRel a b w b.size (.string ⟨#[48]⟩) (.int .i64 0) w from ⟨0, ⟨#[48]⟩, by omega, rfl, rfl, rfl, Below.refl _ _⟩)
      clear ha hvb
      go_loopg [6, 7] b.size (fun m tot iv wr => STRel a b w m tot iv wr)
      case atStart => exact S0.out
      case round =>
        clear S0
        obtain ⟨i, t, hi, rfl, rfl, htm, hB⟩ := hrel
        have HM := Lib.hid htm
        clear htm
        by_cases hlt : i < b.size
        · by_cases e8 : b[i].toNat = 48
          · have a1 : ((b[i].toNat : Int) == 48) = true := by simp [e8]
            have HZ := Lib.hid (tm_zero HM.out hlt e8)
            clear e8
            go_wp2
            go_roundg (gk - 1)
            case measure => omega
            case rel => exact ⟨i + 1, t, by omega, by go_num, rfl, HZ.out, hB⟩
          · have a1 : ((b[i].toNat : Int) == 48) = false := by simp; omega
            have HO := Lib.hid (tm_one HM.out hlt e8)
            have HF := Lib.hid (tm_fail HM.out hlt e8)
            clear e8
            obtain ⟨wo, rfl⟩ : ∃ wo : World, wo = wr := ⟨_, rfl⟩
            obtain ⟨go, rfl⟩ : ∃ go : Nat, go = gk := ⟨_, rfl⟩
            by_cases h0 : toL a = [48]
            · have q1 : (a.toList == [48]) = true := by rw [toList_toL, h0]; rfl
              have HSH := Lib.hid (show shiftB a (b.size - 1 - i) = a by unfold shiftB; rw [if_pos h0])
              clear h0
              go_wp2_with fail
              go_loopg [8, 9] 1 (fun m sh kv wr => m = 1 ∧ sh = .string a ∧ kv = .int .i64 (i + 1 : Nat) ∧ wr = wo)
              case atStart => exact ⟨rfl, rfl, by go_num, rfl⟩
              case round =>
                obtain ⟨-, rfl, rfl, rfl⟩ := hrel
                by_cases hk1 : i + 1 < b.size
                all_goals
                  go_wp2_with fail
                  refine (sDigitsAdd_c t a wr).mono ?_
                  rintro e w4 ⟨rfl, hb4⟩
                  rw [addV_eq]
                  have hB4 := Lib.hid (hB.trans (hb4.mono hB.size))
                  rw [HSH.out] at HO HF
                  clear hb4
                  rcases Bool.eq_false_or_eq_true (addOk t a) with hok | hok
                  · have HOK := Lib.hid (HO.out hok)
                    generalize addS t a = t' at *
                    go_wp2
                    go_roundg (go - 1)
                    case measure => omega
                    case rel => exact ⟨i + 1, t', by omega, by go_num, rfl, HOK.out, hB4.out⟩
                  · have HFF := Lib.hid (HN.out (HF.out hok))
                    go_wp2
                    go_ret2
                    exact ⟨by rw [HFF.out]; rfl, hB4.out⟩
            · have q1 : (a.toList == [48]) = false := by rw [toList_toL]; simpa using h0
              have HSH := Lib.hid (show shiftB a (b.size - 1 - i) = bs (toL a ++ List.replicate (b.size - 1 - i) 48) by unfold shiftB; rw [if_neg h0])
              have ST := Lib.hid (show SHRel a b i wo (b.size - (i + 1)) (.string a) (.int .i64 (i + 1 : Nat)) wo from ⟨i + 1, by omega, by omega, rfl, rfl, by rw [Nat.sub_self, List.replicate_zero, List.append_nil, bs_toL]⟩)
              clear h0
              go_wp2_with fail
              go_loopg [8, 9] (b.size - (i + 1)) (fun m sh kv wr => SHRel a b i wo m sh kv wr)
              case atStart => exact ST.out
              case round =>
                clear ST
                obtain ⟨k, hk, hik, rfl, rfl, rfl⟩ := hrel
                by_cases hkb : k < b.size
                · have hsz : (bs (toL a ++ List.replicate (k - (i + 1)) 48)).size ≤ 200 := by
                    rw [bs_size, List.length_append, List.length_replicate, toL_len]; omega
                  have HQ := Lib.hid (show bs (toL a ++ List.replicate (k - (i + 1)) 48) ++ ⟨#[48]⟩ = bs (toL a ++ List.replicate (k + 1 - (i + 1)) 48) by
                    rw [show (⟨#[48]⟩ : ByteArray) = bs [48] from rfl, bs_app, List.append_assoc, ← List.replicate_succ' (n := k - (i + 1)), show k - (i + 1) + 1 = k + 1 - (i + 1) by omega])
                  generalize bs (toL a ++ List.replicate (k - (i + 1)) 48) = T at *
                  go_wp2
                  go_roundg (gk - 1)
                  case measure => omega
                  case rel => exact ⟨k + 1, by omega, by omega, by go_num, rfl, by rw [← HQ.out]⟩
                · obtain rfl : k = b.size := by omega
                  have HT := Lib.hid (show bs (toL a ++ List.replicate (b.size - (i + 1)) 48) = shiftB a (b.size - 1 - i) by rw [HSH.out, show b.size - (i + 1) = b.size - 1 - i by omega])
                  rw [HT.out]
                  generalize shiftB a (b.size - 1 - i) = sh at *
                  clear HSH HT
                  go_wp2_with fail
                  refine (sDigitsAdd_c t sh wr).mono ?_
                  rintro e w4 ⟨rfl, hb4⟩
                  rw [addV_eq]
                  have hB4 := Lib.hid (hB.trans (hb4.mono hB.size))
                  clear hb4
                  rcases Bool.eq_false_or_eq_true (addOk t sh) with hok | hok
                  · have HOK := Lib.hid (HO.out hok)
                    generalize addS t sh = t' at *
                    go_wp2
                    go_roundg (go - 1)
                    case measure => omega
                    case rel => exact ⟨i + 1, t', by omega, by go_num, rfl, HOK.out, hB4.out⟩
                  · have HFF := Lib.hid (HN.out (HF.out hok))
                    go_wp2
                    go_ret2
                    exact ⟨by rw [HFF.out]; rfl, hB4.out⟩
        · obtain rfl : i = b.size := by omega
          have HR := Lib.hid (HS.out t HM.out)
          go_wp2
          go_ret2
          exact ⟨by rw [HR.out]; rfl, hB⟩
    · have H := Lib.hid (timesV_no (a := a) (b := b) (Or.inr hvb))
      go_enter Tryz.func106, Tryz.ntmps106
      go_wp2_with (first | (go_at_call 40; refine (sDigitsValid_c _ _).mono ?_; rintro e w1 ⟨rfl, rfl⟩))
      go_ret2
      exact ⟨by rw [H.out]; rfl, by (first | ((repeat' with_reducible first | assumption | exact Below.refl _ _ | apply Blw.alloc | apply Blw.drew | apply Blw.drewN | (refine Blw.after ?_ (by assumption)) | (refine Blw.set ?_ (by first | (dsimp only; omega) | (simp; omega)) _)); done) | (repeat' (first | assumption | exact Below.refl _ _ | apply Blw.alloc | apply Blw.drew | apply Blw.drewN | (refine Blw.after ?_ (by assumption)) | (refine Blw.set ?_ (by first | (dsimp only; omega) | (simp; done) | (simp; omega)) _))))⟩
  · have H := Lib.hid (timesV_no (a := a) (b := b) (Or.inl ha))
    go_enter Tryz.func106, Tryz.ntmps106
    go_wp2_with (first | (go_at_call 40; refine (sDigitsValid_c _ _).mono ?_; rintro e w1 ⟨rfl, rfl⟩))
    go_ret2
    exact ⟨by rw [H.out]; rfl, by (first | ((repeat' with_reducible first | assumption | exact Below.refl _ _ | apply Blw.alloc | apply Blw.drew | apply Blw.drewN | (refine Blw.after ?_ (by assumption)) | (refine Blw.set ?_ (by first | (dsimp only; omega) | (simp; omega)) _)); done) | (repeat' (first | assumption | exact Below.refl _ _ | apply Blw.alloc | apply Blw.drew | apply Blw.drewN | (refine Blw.after ?_ (by assumption)) | (refine Blw.set ?_ (by first | (dsimp only; omega) | (simp; done) | (simp; omega)) _))))⟩
end Go.Proofs.YtmondgcehgmamaaGreatDoor

namespace Go.Proofs.YtmondgcehgmamaaGreatDoor
set_option linter.unusedSimpArgs false
set_option linter.unusedVariables false
open Go.RowKit

theorem iDigitsNegate_c (a : ByteArray) (w : World) (hT : Tab w) : Calls Tryz.prog 134 #[.string a] w fun e w' => e = .returned (timesV a ⟨#[49, 49, 49, 48, 49]⟩) ∧ Below w.heap.size w w' := by
  obtain ⟨s, ok, hs⟩ := timesV_shape a ⟨#[49, 49, 49, 48, 49]⟩
  have HS := Lib.hid (fun w hT => hs ▸ iDigitsTimes_c a ⟨#[49, 49, 49, 48, 49]⟩ w hT)
  have HT := Lib.hid hT
  rw [hs]
  clear hs hT
  go_enter Tryz.func134, Tryz.ntmps134
  go_wp2_with fail
  refine (HS.out _ HT.out).mono ?_
  rintro e w1 ⟨rfl, hb⟩
  go_wp2
  go_ret2
  exact ⟨rfl, hb⟩
theorem sDigitsNegate_c (a : ByteArray) (w : World) : Calls Tryz.prog 97 #[.string a] w fun e w' => e = .returned (timesV a ⟨#[49, 49, 49, 48, 49]⟩) ∧ Below w.heap.size w w' := by
  obtain ⟨s, ok, hs⟩ := timesV_shape a ⟨#[49, 49, 49, 48, 49]⟩
  have HS := Lib.hid (fun w => hs ▸ sDigitsTimes_c a ⟨#[49, 49, 49, 48, 49]⟩ w)
  rw [hs]
  clear hs
  go_enter Tryz.func97, Tryz.ntmps97
  go_wp2_with fail
  refine (HS.out _).mono ?_
  rintro e w1 ⟨rfl, hb⟩
  go_wp2
  go_ret2
  exact ⟨rfl, hb⟩
end Go.Proofs.YtmondgcehgmamaaGreatDoor

namespace Go.Proofs.YtmondgcehgmamaaGreatDoor
set_option linter.unusedSimpArgs false
set_option linter.unusedVariables false
open Go.RowKit

set_option maxRecDepth 100000 in
theorem set_c (b : Nat) (d c rest : ByteArray) (w : World) (hS : Sess b d c w) : Calls Tryz.prog 81 #[.pointer (some ⟨b, 0, none⟩), .string rest] w (CmdPost b (if vldB rest then some okB else none) (if vldB rest then rest else d) c w) := by
  have HS := Lib.hid hS
  clear hS
  rcases Bool.eq_false_or_eq_true (vldB rest) with hv | hv
  · simp only [hv, if_true]
    go_enter Tryz.func81, Tryz.ntmps81
    go_wp2_with fail
    refine (iDigitsValid_c rest w).mono ?_
    rw [hv]
    rintro e w1 ⟨rfl, hb1⟩
    have HS1 := Lib.hid (HS.out.keep hb1)
    have HB1 := Lib.hid (grw_below (b := b) hb1)
    obtain ⟨c0, c1, z0, z1⟩ := HS1.out
    clear hb1
    go_wp2_with (go_at_call 122; refine (failUnless_t _).mono ?_; rintro e wx ⟨rfl, rfl⟩)
    go_ret
    exact ⟨rfl, HS1.out.set0, grw_trans HB1.out grw_set⟩
  · simp only [hv, Bool.false_eq_true, if_false]
    go_enter Tryz.func81, Tryz.ntmps81
    go_wp2_with fail
    refine (iDigitsValid_c rest w).mono ?_
    rw [hv]
    rintro e w1 ⟨rfl, hb1⟩
    have HS1 := Lib.hid (HS.out.keep hb1)
    have HB1 := Lib.hid (grw_below (b := b) hb1)
    clear hb1
    go_wp2_with (go_at_call 122; refine (failUnless_f _).mono ?_; rintro e wx ⟨rfl, rfl⟩; unfold refE)
    exact ⟨rfl, rfl, HS1.out, HB1.out⟩
set_option maxRecDepth 100000 in
theorem add_c (b : Nat) (d c rest : ByteArray) (w : World) (hG : Gx w) (hS : Sess b d c w) : Calls Tryz.prog 82 #[.pointer (some ⟨b, 0, none⟩), .string rest] w (CmdPost b (if addOk d rest then some okB else none) (if addOk d rest then addS d rest else d) c w) := by
  have HS := Lib.hid hS
  obtain ⟨c0, c1, z0, z1⟩ := hS
  have HC := Lib.hid (iDigitsAdd_c d rest w hG.tab)
  clear hG
  rw [addV_eq] at HC
  rcases Bool.eq_false_or_eq_true (addOk d rest) with hv | hv
  · simp only [hv, if_true]
    rw [hv] at HC
    go_enter Tryz.func82, Tryz.ntmps82
    go_wp2_with fail
    refine HC.out.mono ?_
    rintro e w1 ⟨rfl, hb1⟩
    have HS1 := Lib.hid (HS.out.keep hb1)
    have HB1 := Lib.hid (grw_below (b := b) hb1)
    clear hb1 c0 c1 z0 z1
    obtain ⟨c0, c1, z0, z1⟩ := HS1.out
    go_wp2_with (go_at_call 123; refine (mustS_t _ _).mono ?_; rintro e wx ⟨rfl, rfl⟩)
    go_ret
    exact ⟨rfl, HS1.out.set0, grw_trans HB1.out grw_set⟩
  · simp only [hv, Bool.false_eq_true, if_false]
    rw [hv] at HC
    go_enter Tryz.func82, Tryz.ntmps82
    go_wp2_with fail
    refine HC.out.mono ?_
    rintro e w1 ⟨rfl, hb1⟩
    have HS1 := Lib.hid (HS.out.keep hb1)
    have HB1 := Lib.hid (grw_below (b := b) hb1)
    clear hb1 c0 c1 z0 z1
    go_wp2_with (go_at_call 123; refine (mustS_f _ _).mono ?_; rintro e wx ⟨rfl, rfl⟩; unfold refE)
    exact ⟨rfl, rfl, HS1.out, HB1.out⟩
set_option maxRecDepth 100000 in
theorem show_c (b : Nat) (d c : ByteArray) (w : World) (hS : Sess b d c w) : Calls Tryz.prog 91 #[.pointer (some ⟨b, 0, none⟩)] w (CmdPost b (some d) d c w) := by
  have HS := Lib.hid hS
  obtain ⟨c0, c1, z0, z1⟩ := hS
  go_enter Tryz.func91, Tryz.ntmps91
  go_wp2_with fail
  go_ret
  exact ⟨rfl, HS.out, grw_below (Below.refl _ _)⟩
end Go.Proofs.YtmondgcehgmamaaGreatDoor

namespace Go.Proofs.YtmondgcehgmamaaGreatDoor
set_option linter.unusedSimpArgs false
set_option linter.unusedVariables false
open Go.RowKit

theorem bs_one (l : List UInt8) (h : l.length ≤ 4294967280) : (bs l).size < 4294967281 := by rw [← toL_len, toL_bs]; omega
/-- a line of a word and a rest -/
theorem line_rest (b n : Nat) (d c d' c' : ByteArray) (wl rl : List UInt8) (o : Option ByteArray) (w : World) (hb : 10 ≤ b) (hl : wl.length + rl.length ≤ 4294967270) (hw : (32 : UInt8) ∉ wl) (hG : Gx w) (hS : Sess b d c w)
    (hget : getS (bs wl) tabR = some (fnV n)) (hent : ∀ args w, (callFunc n args).run Tryz.prog w = .ok (.enter n args) w)
    (H : ∀ w', Gx w' → Sess b d c w' → Calls Tryz.prog n #[.pointer (some ⟨b, 0, none⟩), .string (bs rl)] w' (CmdPost b o d' c' w')) :
    Calls Tryz.prog 33 #[.pointer (some ⟨b, 0, none⟩), .string (bs (wl ++ 32 :: rl))] w (AnsPost b (o.getD noB) d' c' w) :=
  answer_rest b n d c (bs (wl ++ 32 :: rl)) (bs wl) (bs rl) d' c' o w hb (bs_one _ (by simp; omega)) hG hS (by rw [toL_bs, toL_bs, toL_bs]; exact cutQ_hit hw) hget hent H
/-- a line of a word alone -/
theorem line_alone (b n : Nat) (d c d' c' : ByteArray) (wl : List UInt8) (o : Option ByteArray) (w : World) (hb : 10 ≤ b) (hl : wl.length ≤ 4294967270) (hw : (32 : UInt8) ∉ wl) (hG : Gx w) (hS : Sess b d c w)
    (hget : getS (bs wl) tabA = some (fnV n)) (hent : ∀ args w, (callFunc n args).run Tryz.prog w = .ok (.enter n args) w)
    (H : ∀ w', Gx w' → Sess b d c w' → Calls Tryz.prog n #[.pointer (some ⟨b, 0, none⟩)] w' (CmdPost b o d' c' w')) :
    Calls Tryz.prog 33 #[.pointer (some ⟨b, 0, none⟩), .string (bs wl)] w (AnsPost b (o.getD noB) d' c' w) :=
  answer_alone b n d c (bs wl) (bs wl) d' c' o w hb (bs_one _ (by omega)) hG hS (by rw [toL_bs]; exact cutQ_no hw) hget hent H
theorem ent_set : ∀ args w, (callFunc 81 args).run Tryz.prog w = .ok (.enter 81 args) w := enters_of Tryz.func81 (by kernel_rfl) rfl
theorem ent_add : ∀ args w, (callFunc 82 args).run Tryz.prog w = .ok (.enter 82 args) w := enters_of Tryz.func82 (by kernel_rfl) rfl
theorem ent_show : ∀ args w, (callFunc 91 args).run Tryz.prog w = .ok (.enter 91 args) w := enters_of Tryz.func91 (by kernel_rfl) rfl
end Go.Proofs.YtmondgcehgmamaaGreatDoor

namespace Go.Proofs.YtmondgcehgmamaaGreatDoor
set_option linter.unusedSimpArgs false
set_option linter.unusedVariables false
open Go.RowKit Go.Sort

theorem itoa_c (n : Int) (w : World) (h0 : -9223372036854775808 ≤ n) (h1 : n ≤ 9223372036854775807) (hG : Gx w) : Calls Tryz.prog 34 #[.int .i64 n] w fun e w' => e = .returned (.string (bs (Lib.itoa n))) ∧ Below w.heap.size w w' :=
  (Tryz.strconv_Itoa n h0 h1 w hG.pow).mono fun e w' ⟨he, q, os, hw⟩ => ⟨he, by
    rw [hw]
    exact ⟨rfl, rfl, rfl, by simp [grow], fun k hk => by
      show (w.heap ++ os)[k]? = w.heap[k]?
      rw [Array.getElem?_append, if_pos hk]⟩⟩
theorem write_c (B b : Nat) (l : List UInt8) (s : ByteArray) (w : World) (h : Lib.IsBuilderF 49 5 B b (Lib.byteCells l) w) (hlen : l.length + s.size ≤ 140737488355328) (hBw : B ≤ w.heap.size) :
    Calls Tryz.prog 32 #[.pointer (some ⟨b, 0, none⟩), .string s] w fun e w' => e = .returned (.tuple #[.int .i64 s.size, .nilIface]) ∧ Lib.IsBuilderF 49 5 B b (Lib.byteCells (l ++ toL s)) w' ∧ Below B w w' ∧ Lib.OthersKept 5 (some b) w w' :=
  (Any.Builder_WriteString_k (P := Tryz.prog) (ρ := Tryz.lays156_ren) { Tryz.lays156 with } Tryz.Builder_Extra_156 B b (Lib.byteCells l) s w h (by rw [Lib.byteCells_length]; exact hlen) hBw).mono fun e w' ⟨he, h1, h2, h3⟩ =>
    ⟨he, by rw [Lib.byteCells_append]; exact .inr h1, h2, h3⟩
theorem builder_grw {T e : TypeId} {B b s : Nat} {xs : List Value} {w w' : World} (h : Lib.IsBuilderF T e B b xs w) (hg : Grw s w w') (hs : s < B) : Lib.IsBuilderF T e B b xs w' := by
  have key : ∀ p, Lib.BuilderAtF T e B b p xs w → Lib.BuilderAtF T e B b p xs w' := by
    rintro p ⟨hB, v, hb, hown, hne⟩
    refine ⟨hB, v, ?_, hown.kept hg ?_, hne⟩
    · rw [hg.block b (Array.getElem?_eq_some_iff.1 hb).1 (by simp; omega)]; exact hb
    · cases hv : v.ownBlock with
      | none => exact .inl rfl
      | some g =>
        have := (hown.lt g hv).1
        exact .inr (by simp; omega)
  exact h.imp (key _) (key _)
def allO (out : Nat → ByteArray) : Nat → List UInt8
  | 0 => []
  | k + 1 => allO out k ++ (toL (out k) ++ [10])
theorem allO_len {out : Nat → ByteArray} {n : Nat} (h : ∀ k, k < n → (out k).size ≤ 1073741824) : ∀ k, k ≤ n → (allO out k).length ≤ k * 1073741825
  | 0, _ => by simp [allO]
  | k + 1, hk => by
    have h1 := allO_len h k (by omega)
    have h2 := h k (by omega)
    rw [← toL_len] at h2
    simp only [allO, List.length_append, List.length_cons, List.length_nil]
    omega
def endL (n : Nat) : List UInt8 := [100, 105, 103, 105, 116, 115, 32] ++ (Lib.itoa n ++ [10])
theorem decD_len : ∀ u : Nat, (Lib.decDigits u).length ≤ u + 1 := by
  intro u
  induction u using Nat.strongRecOn with
  | _ u ih =>
    rw [Lib.decDigits]
    by_cases h : u < 10
    · rw [dif_pos h]; simp
    · rw [dif_neg h]
      have := ih (u / 10) (by omega)
      simp only [List.length_append, List.length_cons, List.length_nil]
      omega
theorem itoa_nat (u : Nat) : Lib.itoa (u : Int) = Lib.decDigits u := by
  unfold Lib.itoa
  rw [if_neg (by omega), Int.toNat_natCast]
theorem sess_below {n0 B : Nat} {d c : ByteArray} {w w' : World} (h : Sess n0 d c w) (hb : Below B w w') (hn : n0 < B) : Sess n0 d c w' := h.same (hb.block n0 hn)
def ExRel (n0 : Nat) (L : List ByteArray) (st : Nat → ByteArray × ByteArray) (out : Nat → ByteArray) (w : World) (m : Nat) (i : Value) (wr : World) : Prop :=
  ∃ k : Nat, k + m + 1 = L.length ∧ i = .int .i64 k ∧ Below w.heap.size w wr ∧ Gx wr ∧ Sess n0 (st k).1 (st k).2 wr ∧ Lib.IsBuilderF 49 5 (n0 + 1) (n0 + 1) (Lib.byteCells (allO out k)) wr ∧
    wr.heap[n0 + 2]? = some (.cells (L.map Value.string).toArray 9 (0, 0)) ∧ n0 + 2 < wr.heap.size
set_option maxRecDepth 100000 in
set_option maxHeartbeats 1000000 in
theorem execute_run (text : ByteArray) (hs : text.size ≤ 500) (n : Nat) (st : Nat → ByteArray × ByteArray) (out : Nat → ByteArray) (hst : st 0 = (⟨#[48]⟩, ⟨#[108]⟩)) (hn : (toL text).count 10 = n)
    (hout : ∀ k, k < n → (out k).size ≤ 1073741824) (hd : (st n).1.size ≤ 1073741824)
    (H : ∀ k, k < n → ∀ b w', 10 ≤ b → Gx w' → Sess b (st k).1 (st k).2 w' → Calls Tryz.prog 33 #[.pointer (some ⟨b, 0, none⟩), .string (bs ((cutsQ 10 (toL text)).getD k []))] w' (AnsPost b (out k) (st (k + 1)).1 (st (k + 1)).2 w'))
    (w : World) (hG : Gx w) : Calls Tryz.prog 11 #[.string text] w fun e w' => e = .returned (.string (bs (allO out n ++ endL (st n).1.size))) ∧ Below w.heap.size w w' := by
  have HG := Lib.hid hG
  have HH := Lib.hid H
  have hbig := hG.big
  obtain ⟨m0, hm0⟩ := hG.mlen
  have HA := Lib.hid (allO_len hout)
  have hn5 : n ≤ 500 := by rw [← hn, ← toL_len] at *; exact Nat.le_trans List.count_le_length hs
  clear hG H
  go_enter Tryz.func11, Tryz.ntmps11
  go_wp2_with fail
  generalize hW : World.alloc _ _ = W1
  obtain ⟨n0, hn0⟩ : ∃ n0, w.heap.size = n0 := ⟨_, rfl⟩
  have hB1 : Below w.heap.size w W1 := by rw [← hW]; (first | ((repeat' with_reducible first | assumption | exact Below.refl _ _ | apply Blw.alloc | apply Blw.drew | apply Blw.drewN | (refine Blw.after ?_ (by assumption)) | (refine Blw.set ?_ (by first | (dsimp only; omega) | (simp; omega)) _)); done) | (repeat' (first | assumption | exact Below.refl _ _ | apply Blw.alloc | apply Blw.drew | apply Blw.drewN | (refine Blw.after ?_ (by assumption)) | (refine Blw.set ?_ (by first | (dsimp only; omega) | (simp; done) | (simp; omega)) _))))
  have hsz1 : W1.heap.size = n0 + 2 := by rw [← hW, ← hn0]; simp
  have HS1 := Lib.hid (show Sess n0 ⟨#[48]⟩ ⟨#[108]⟩ W1 from ⟨by rw [← hW, ← hn0]; clear hW hB1; go_simp, by rw [← hW, ← hn0]; clear hW hB1; go_simp, by rw [← hW, ← hn0]; clear hW hB1; go_simp, by rw [← hW, ← hn0]; clear hW hB1; go_simp⟩)
  have HBu1 := Lib.hid (show Lib.IsBuilderF 49 5 (n0 + 1) (n0 + 1) (Lib.byteCells []) W1 from by
    have h := Lib.fresh_isBuilder 49 5 (w.alloc (Obj.cells #[Value.string ⟨#[48]⟩, Value.string ⟨#[108]⟩] 46))
    rw [hW] at h
    have e : (w.alloc (Obj.cells #[Value.string ⟨#[48]⟩, Value.string ⟨#[108]⟩] 46)).heap.size = n0 + 1 := by rw [← hn0]; simp
    rw [e] at h
    exact .of h)
  have HG1 := Lib.hid (HG.out.below hB1)
  have hm1 := keepcell hB1 hm0
  have HB1 := Lib.hid hB1
  clear hW hB1
  have hSp := Tryz.strings_Split text ⟨#[10]⟩ m0 W1 (by omega) hm1 (by decide)
  rw [splitB_Q, countB_Q, hn, hsz1] at hSp
  have hcl : (cutsQ 10 (toL text)).length = n + 1 := by rw [cutsQ_len, hn]
  refine hSp.mono ?_
  rintro e W2 ⟨rfl, hW2⟩
  obtain ⟨Ls, hLs⟩ : ∃ Ls, Ls = (cutsQ 10 (toL text)).map bs := ⟨_, rfl⟩
  have hLl : Ls.length = n + 1 := by rw [hLs, List.length_map, hcl]
  have HLk := Lib.hid (show ∀ k, k < n → Ls[k]? = some (bs ((cutsQ 10 (toL text)).getD k [])) from fun k hk => by
    rw [hLs, List.getElem?_map, List.getD_eq_getElem?_getD, List.getElem?_eq_getElem (by omega)]; rfl)
  rw [← hLs] at hW2
  have hb2 : Below W1.heap.size W1 W2 := by rw [hW2]; exact (Below.refl _ _).alloc (Nat.le_refl _) _
  have hR : ExRel n0 Ls st out w n (.int .i64 ((0 : Nat) : Int)) W2 := ⟨0, by omega, rfl, HB1.out.trans (hb2.mono HB1.out.size), HG1.out.below hb2, by rw [hst]; exact HS1.out.keep hb2, builder_grw HBu1.out (grw_below (b := n0) hb2) (by omega), by rw [hW2, ← hsz1]; exact heap_alloc_new _ _, by rw [hW2]; simp [hsz1]⟩
  have HR := Lib.hid hR
  clear hR hSp hb2 hW2 hLs hcl hm1 HS1 HBu1 HG1 HB1 hm0 HG hsz1
  go_wp2_with fail
  go_loopg [20] n (fun m i wr => ExRel n0 Ls st out w m i wr)
  case atStart => exact HR.out
  case round =>
    clear HR
    obtain ⟨k, hk, rfl, hB, hGr, hSs, hBu, hP, hsz⟩ := hrel
    have HK := Lib.hid hk
    have HB := Lib.hid hB
    have HGr := Lib.hid hGr
    have HSs := Lib.hid hSs
    have HBu := Lib.hid hBu
    have HP := Lib.hid hP
    have hbig2 : 10 ≤ wr.heap.size := hGr.big
    clear hk hB hGr hBu
    by_cases hlt : k < n
    · have hx : wr.cell? ⟨n0 + 2, k, none⟩ = some (.string (bs ((cutsQ 10 (toL text)).getD k []))) := by
        have h1 := HLk.out k hlt
        have h2 : (Ls.map Value.string).toArray[k]? = some (.string (bs ((cutsQ 10 (toL text)).getD k []))) := by simp [h1]
        simp only [World.cell?, hP]
        exact h2
      have hsz' : ¬ (9223372036854775807 < (out k).size + 1) := by have := hout k hlt; omega
      have hso := hout k hlt
      clear hP hSs
      have HC := Lib.hid (HH.out k hlt n0 wr (by omega) HGr.out HSs.out)
      generalize bs ((cutsQ 10 (toL text)).getD k []) = line at hx HC
      go_wp2_with fail
      refine HC.out.mono ?_
      rintro e w3 ⟨rfl, hS3, hg3⟩
      have HB3 := Lib.hid (HB.out.trans ((grw_below_to hg3 (B := w.heap.size) (by omega) HB.out.size)))
      have HG3 := Lib.hid (HGr.out.grw (by omega) hg3)
      have HS3 := Lib.hid hS3
      have HBu3 := Lib.hid (builder_grw HBu.out hg3 (by omega))
      have HP3 := Lib.hid ((hg3.block (n0 + 2) hsz (by simp)).trans HP.out)
      have hs3 : n0 + 2 < w3.heap.size := Nat.lt_of_lt_of_le hsz hg3.size
      clear hS3 hg3
      go_wp2_with fail
      obtain ⟨Y, hY⟩ : ∃ Y, out k ++ (⟨#[10]⟩ : ByteArray) = Y := ⟨_, rfl⟩
      have hYL : toL Y = toL (out k) ++ [10] := by rw [← hY]; simp [toL, ByteArray.data_append]
      have hlen : (allO out k).length + Y.size ≤ 140737488355328 := by
        have h1 := HA.out k (by omega)
        have h2 : Y.size = (out k).size + 1 := by rw [← toL_len, hYL, List.length_append, toL_len]; rfl
        omega
      rw [hY]
      have HYL := Lib.hid hYL
      have HW := write_c (n0 + 1) (n0 + 1) (allO out k) Y w3 HBu3.out hlen (by omega)
      clear hYL hlen hY
      refine HW.mono ?_
      clear HW
      rintro e w4 ⟨rfl, hBu4, hB4, hO4⟩
      have hP4 := hO4 _ _ HP3.out (by simp) (fun cs fz e => by injection e with _ e2 _; exact absurd e2 (by decide))
      have HR4 := Lib.hid (show ExRel n0 Ls st out w (gk - 1) (.int .i64 ((k + 1 : Nat) : Int)) w4 from
        ⟨k + 1, by have := HK.out; omega, rfl, HB3.out.trans (hB4.mono (by omega)), HG3.out.keep (hB4.mono (by omega)), sess_below HS3.out hB4 (by omega), by
          rw [HYL.out] at hBu4; exact hBu4, hP4, Nat.lt_of_lt_of_le hs3 hB4.size⟩)
      have hgk : 0 < gk := by have := HK.out; omega
      clear hBu4 hB4 hO4 hP4
      go_wp2_with fail
      go_roundg (gk - 1)
      case measure => omega
      case rel => exact HR4.out
    · have hkn : k = n := by have := HK.out; omega
      subst hkn
      obtain ⟨c0, c1, z0, z1⟩ := hSs
      clear hP
      generalize hD : (st k).1.size = D at *
      go_wp2_with fail
      refine (itoa_c D wr (by omega) (by omega) HGr.out).mono ?_
      rintro e w3 ⟨rfl, hb3⟩
      have hlen : (bs (Lib.itoa (D : Int))).size ≤ D + 1 := by rw [itoa_nat, ← toL_len, toL_bs]; exact decD_len D
      have HE := Lib.hid (show endL D = [100, 105, 103, 105, 116, 115, 32] ++ (toL (bs (Lib.itoa (D : Int))) ++ [10]) by rw [toL_bs]; rfl)
      have HB3 := Lib.hid (HB.out.trans (hb3.mono HB.out.size))
      have HBu3 := Lib.hid (builder_grw HBu.out (grw_below (b := n0) hb3) (by omega))
      have hs3 : n0 + 2 < w3.heap.size := Nat.lt_of_lt_of_le hsz hb3.size
      clear hb3 c0 c1 z0 z1
      generalize bs (Lib.itoa (D : Int)) = X at *
      have hx1 : ¬ (9223372036854775807 < 7 + X.size) := by omega
      have hx2 : ¬ (9223372036854775807 < 7 + X.size + 1) := by omega
      go_wp2_with fail
      obtain ⟨Y, hY⟩ : ∃ Y, (⟨#[100, 105, 103, 105, 116, 115, 32]⟩ : ByteArray) ++ X ++ (⟨#[10]⟩ : ByteArray) = Y := ⟨_, rfl⟩
      have hYL : toL Y = endL D := by rw [HE.out, ← hY]; simp [toL, ByteArray.data_append]
      have hlY : (allO out k).length + Y.size ≤ 140737488355328 := by
        have h1 := HA.out k (by omega)
        have h2 : Y.size = X.size + 8 := by rw [← toL_len, hYL, HE.out, List.length_append, List.length_append, toL_len]; simp; omega
        omega
      rw [hY]
      have HW := write_c (n0 + 1) (n0 + 1) (allO out k) Y w3 HBu3.out hlY (by omega)
      rw [hYL] at HW
      clear hYL hlY hY HE
      refine HW.mono ?_
      clear HW
      rintro e w4 ⟨rfl, hBu4, hB4, -⟩
      have HB4 := Lib.hid (HB3.out.trans (hB4.mono (by omega)))
      have HW := Tryz.Builder_String_any_k (n0 + 1) (n0 + 1) _ w4 hBu4 (by have := hB4.size; omega)
      clear hBu4 hB4
      have HZ := Lib.hid (show bs (allO out k ++ endL (st k).1.size) = bs (allO out k ++ endL D) by rw [hD])
      obtain ⟨Z, hZ⟩ : ∃ Z, allO out k ++ endL D = Z := ⟨_, rfl⟩
      rw [hZ] at HW
      have HZ2 := Lib.hid hZ
      clear hZ
      go_wp2_with fail
      refine HW.mono ?_
      clear HW
      rintro e w5 ⟨rfl, -, hB5, -⟩
      have HB5 := Lib.hid (HB4.out.trans (hB5.mono (by omega)))
      clear hB5
      go_wp2_with fail
      go_ret
      exact ⟨by rw [HZ.out, HZ2.out]; rfl, HB5.out⟩
end Go.Proofs.YtmondgcehgmamaaGreatDoor

namespace Go.Proofs.YtmondgcehgmamaaGreatDoor
set_option linter.unusedSimpArgs false
set_option linter.unusedVariables false
open Go.RowKit Go.Sort

theorem u8_in (a : Int) (h : 0 ≤ a ∧ a < 256) : IntKind.u8.wrap a = a := by
  rw [IntKind.wrap_u8]; omega
theorem u8_nat {c : Nat} (h : c < 256) : (UInt8.ofNat c).toNat = c := by simp [UInt8.toNat_ofNat']; omega
theorem oneAt (W : World) (b c : Nat) (h : c < 256) (hb : W.cell? ⟨b, 0, none⟩ = some (.int .u8 (c : Nat))) : (convert 22 9 (.slice (some ⟨b, 0, none⟩) 1 1)).run Tryz.prog W = .ok (.string (bs [UInt8.ofNat c])) W :=
  run_convert_bytes_back (P := Tryz.prog) W 22 9 5 ⟨b, 0, none⟩ 1 [UInt8.ofNat c] Tryz.underlying22 Tryz.underlying5 Tryz.underlying9 (fun j hj => by
    have : j = 0 := by simp at hj; omega
    subst this
    simpa [Addr.add, u8_nat h] using hb)
theorem oneC (W : World) (c : Nat) (h : c < 256) : (convert 22 9 (.slice (some ⟨W.heap.size, 0, none⟩) 1 1)).run Tryz.prog (W.alloc (.cells #[.int .u8 (c : Nat)] 5)) = .ok (.string (bs [UInt8.ofNat c])) (W.alloc (.cells #[.int .u8 (c : Nat)] 5)) :=
  oneAt _ _ c h (by go_simp)

set_option maxRecDepth 100000 in
set_option maxHeartbeats 2000000 in
theorem digits_c : ∀ (n : Nat) (w : World), n ≤ 9223372036854775807 → Calls Tryz.prog 18 #[.int .i64 (n : Int)] w fun e w' => e = .returned (.string (bs (Lib.decDigits n))) ∧ Below w.heap.size w w' := by
  intro n
  induction n using Nat.strongRecOn with
  | _ n ih =>
    intro w hn
    by_cases h10 : n < 10
    · have e0 : bs (Lib.decDigits n) = bs [UInt8.ofNat (48 + n)] := by rw [Lib.decDigits, dif_pos h10]
      have hc := fun w => oneC w (48 + n) (by omega)
      have a1 : IntKind.i64.wrap (48 + (n : Int)) = ((48 + n : Nat) : Int) := by rw [IntWalk.i64_in _ (by omega)]; omega
      have a2 : IntKind.u8.wrap ((48 + n : Nat) : Int) = ((48 + n : Nat) : Int) := u8_in _ (by omega)
      have a3 : (n : Int) < 10 := by omega
      have HE := Lib.hid e0
      clear e0 ih
      generalize bs [UInt8.ofNat (48 + n)] = Y at *
      generalize ((48 + n : Nat) : Int) = c at *
      go_enter Tryz.func18, Tryz.ntmps18
      go_wp2_with fail
      go_ret
      exact ⟨by rw [HE.out]; rfl, by (first | ((repeat' with_reducible first | assumption | exact Below.refl _ _ | apply Blw.alloc | apply Blw.drew | apply Blw.drewN | (refine Blw.after ?_ (by assumption)) | (refine Blw.set ?_ (by first | (dsimp only; omega) | (simp; omega)) _)); done) | (repeat' (first | assumption | exact Below.refl _ _ | apply Blw.alloc | apply Blw.drew | apply Blw.drewN | (refine Blw.after ?_ (by assumption)) | (refine Blw.set ?_ (by first | (dsimp only; omega) | (simp; done) | (simp; omega)) _))))⟩
    · have e0 : bs (Lib.decDigits n) = bs (Lib.decDigits (n / 10)) ++ bs [UInt8.ofNat (48 + n % 10)] := by rw [Lib.decDigits, dif_neg h10, bs_app]
      have HI := Lib.hid (fun w => ih (n / 10) (by omega) w (by omega))
      have hc := fun w => oneC w (48 + n % 10) (by omega)
      have HC := Lib.hid (fun (W : World) (b : Nat) hb => oneAt W b (48 + n % 10) (by omega) hb)
      have hlenX : (bs (Lib.decDigits (n / 10))).size ≤ n / 10 + 1 := by rw [← toL_len, toL_bs]; exact decD_len _
      have hlenY : (bs [UInt8.ofNat (48 + n % 10)]).size = 1 := rfl
      have q1 : (n : Int).tdiv 10 = ((n / 10 : Nat) : Int) := by rw [Int.tdiv_eq_ediv_of_nonneg (by omega)]; omega
      have q3 : IntKind.i64.wrap ((n / 10 : Nat) : Int) = ((n / 10 : Nat) : Int) := IntWalk.i64_in _ (by omega)
      have q2 : IntKind.i64.wrap ((n : Int).tdiv 10) = ((n / 10 : Nat) : Int) := by rw [q1]; exact IntWalk.i64_in _ (by omega)
      have r1 : (n : Int).tmod 10 = ((n % 10 : Nat) : Int) := by rw [Int.tmod_eq_emod_of_nonneg (by omega)]; omega
      have a1 : IntKind.i64.wrap (48 + ((n % 10 : Nat) : Int)) = ((48 + n % 10 : Nat) : Int) := by rw [IntWalk.i64_in _ (by omega)]; omega
      have a2 : IntKind.u8.wrap ((48 + n % 10 : Nat) : Int) = ((48 + n % 10 : Nat) : Int) := u8_in _ (by omega)
      have HE := Lib.hid e0
      clear e0 ih
      generalize bs [UInt8.ofNat (48 + n % 10)] = Y at *
      generalize bs (Lib.decDigits (n / 10)) = X at *
      have hsz : ¬ (9223372036854775807 < X.size + Y.size) := by omega
      generalize hcc : ((48 + n % 10 : Nat) : Int) = c at *
      generalize hq : ((n / 10 : Nat) : Int) = q at *
      generalize hr : ((n % 10 : Nat) : Int) = r at *
      clear hcc hq hr hlenX hlenY
      go_enter Tryz.func18, Tryz.ntmps18
      go_upto_region 5 with fail
      have hd : Below w.heap.size w w.drew := (Below.refl _ _).drew
      refine wp_region_held_drew (S := fun w' => Below w.heap.size w w') (by kernel_rfl) hd ?_
      intro hS0
      generalize w.drew = V0 at *
      clear hd
      refine wpAnyH_take (i := 0) (v := ?_) rfl (by kernel_rfl) (by kernel_rfl) (by kernel_rfl) (fun _ _ _ h => h) (Or.inl ⟨by rfl, ?_⟩) hS0 ?_
      case refine_1 => exact .int .i64 (n : Int)
      · intro wq hSw; go_simp
      refine wpAnyH_take (i := 1) (v := ?_) rfl (by kernel_rfl) (by kernel_rfl) (by kernel_rfl) (fun _ _ _ h => h) (Or.inl ⟨by rfl, ?_⟩) hS0 ?_
      case refine_1 => exact .int .i64 q
      · intro wq hSw; go_simp
      refine wpAnyH_take (i := 3) (v := ?_) rfl (by kernel_rfl) (by kernel_rfl) (by kernel_rfl) (fun _ _ _ h => h) (Or.inl ⟨by rfl, ?_⟩) hS0 ?_
      case refine_1 => exact .int .i64 (n : Int)
      · intro wq hSw; go_simp
      refine wpAnyH_take (i := 4) (v := ?_) rfl (by kernel_rfl) (by kernel_rfl) (by kernel_rfl) (fun _ _ _ h => h) (Or.inl ⟨by rfl, ?_⟩) hS0 ?_
      case refine_1 => exact .int .i64 r
      · intro wq hSw; go_simp
      refine wpAnyH_take (i := 5) (v := ?_) rfl (by kernel_rfl) (by kernel_rfl) (by kernel_rfl) (fun _ _ _ h => h) (Or.inl ⟨by rfl, ?_⟩) hS0 ?_
      case refine_1 => exact .int .i64 c
      · intro wq hSw; go_simp
      refine wpAnyH_take (i := 6) (v := ?_) rfl (by kernel_rfl) (by kernel_rfl) (by kernel_rfl) (fun _ _ _ h => h) (Or.inl ⟨by rfl, ?_⟩) hS0 ?_
      case refine_1 => exact .int .u8 c
      · intro wq hSw; go_simp
      refine wpAnyH_ready (rs := [2, 7]) (by kernel_rfl) (by simp) ?_
      refine AllReadyH.cons rfl (fun K hK => ?_) (AllReadyH.cons rfl (fun K hK => ?_) AllReadyH.nil)
      · rw [if_pos ?hw]
        case hw => kernel_rfl
        go_wp2_with fail
        refine (HI.out _).mono ?_
        rintro e wA ⟨rfl, hbA⟩
        have hA := Blw.after hS0 hbA
        refine hK.out _ _ hA ?_
        clear hK K hbA hS0
        intro _
        refine wpAnyH_ready (rs := [7]) (by kernel_rfl) (by simp) ?_
        refine AllReadyH.cons rfl (fun K hK => ?_) AllReadyH.nil
        rw [if_pos ?hw]
        case hw => kernel_rfl
        go_wp2_with fail
        have hA2 := Blw.alloc hA (.cells #[.int .u8 c] 5)
        refine hK.out _ _ hA2 ?_
        clear hK K
        intro _
        refine wpAnyH_ready (rs := [8]) (by kernel_rfl) (by simp) ?_
        refine AllReadyH.cons rfl (fun K hK => ?_) AllReadyH.nil
        rw [if_pos ?hw]
        case hw => kernel_rfl
        go_simp
        refine hK.out _ _ hA2 ?_
        clear hK K
        intro hS1
        refine wpAnyH_ready (rs := [9]) (by kernel_rfl) (by simp) ?_
        refine AllReadyH.cons rfl (fun K hK => ?_) AllReadyH.nil
        rw [if_pos ?hw]
        case hw => kernel_rfl
        go_simp
        refine hK.out _ _ hA2 ?_
        clear hK K
        intro _
        refine wpAnyH_ready (rs := [10]) (by kernel_rfl) (by simp) ?_
        refine AllReadyH.cons rfl (fun K hK => ?_) AllReadyH.nil
        rw [if_pos ?hw]
        case hw => kernel_rfl
        go_simp
        refine hK.out _ _ hA2 ?_
        clear hK K
        intro _
        refine wpAnyH_done (by kernel_rfl) ?_ _
        go_wp2_with fail
        go_ret
        exact ⟨by rw [HE.out]; rfl, hA2⟩
      · rw [if_pos ?hw]
        case hw => kernel_rfl
        go_wp2_with fail
        have hA := Blw.alloc hS0 (.cells #[.int .u8 c] 5)
        have hcell : (V0.alloc (.cells #[.int .u8 c] 5)).cell? ⟨V0.heap.size, 0, none⟩ = some (.int .u8 c) := by go_simp
        have hcv := hc V0
        refine hK.out _ _ hA ?_
        clear hK K hS0
        intro _
        generalize V0.alloc (.cells #[.int .u8 c] 5) = V1 at *
        generalize V0.heap.size = b0 at *
        clear hc
        refine wpAnyH_ready (rs := [2, 8]) (by kernel_rfl) (by simp) ?_
        refine AllReadyH.cons rfl (fun K hK => ?_) (AllReadyH.cons rfl (fun K hK => ?_) AllReadyH.nil)
        · rw [if_pos ?hw]
          case hw => kernel_rfl
          go_wp2_with fail
          refine (HI.out _).mono ?_
          rintro e wA ⟨rfl, hbA⟩
          have hA2 := Blw.after hA hbA
          have hcv2 := HC.out wA b0 (keepcell hbA hcell)
          refine hK.out _ _ hA2 ?_
          clear hK K hbA
          intro _
          refine wpAnyH_ready (rs := [8]) (by kernel_rfl) (by simp) ?_
          refine AllReadyH.cons rfl (fun K hK => ?_) AllReadyH.nil
          rw [if_pos ?hw]
          case hw => kernel_rfl
          go_simp
          refine hK.out _ _ hA2 ?_
          clear hK K
          intro _
          refine wpAnyH_ready (rs := [9]) (by kernel_rfl) (by simp) ?_
          refine AllReadyH.cons rfl (fun K hK => ?_) AllReadyH.nil
          rw [if_pos ?hw]
          case hw => kernel_rfl
          go_simp
          refine hK.out _ _ hA2 ?_
          clear hK K
          intro _
          refine wpAnyH_ready (rs := [10]) (by kernel_rfl) (by simp) ?_
          refine AllReadyH.cons rfl (fun K hK => ?_) AllReadyH.nil
          rw [if_pos ?hw]
          case hw => kernel_rfl
          go_simp
          refine hK.out _ _ hA2 ?_
          clear hK K
          intro _
          refine wpAnyH_done (by kernel_rfl) ?_ _
          go_wp2_with fail
          go_ret
          exact ⟨by rw [HE.out]; rfl, hA2⟩
        · rw [if_pos ?hw]
          case hw => kernel_rfl
          go_simp
          refine hK.out _ _ hA ?_
          clear hK K
          intro _
          refine wpAnyH_ready (rs := [2]) (by kernel_rfl) (by simp) ?_
          refine AllReadyH.cons rfl (fun K hK => ?_) AllReadyH.nil
          rw [if_pos ?hw]
          case hw => kernel_rfl
          go_wp2_with fail
          refine (HI.out _).mono ?_
          rintro e wA ⟨rfl, hbA⟩
          have hA2 := Blw.after hA hbA
          refine hK.out _ _ hA2 ?_
          clear hK K hbA
          intro _
          refine wpAnyH_ready (rs := [9]) (by kernel_rfl) (by simp) ?_
          refine AllReadyH.cons rfl (fun K hK => ?_) AllReadyH.nil
          rw [if_pos ?hw]
          case hw => kernel_rfl
          go_simp
          refine hK.out _ _ hA2 ?_
          clear hK K
          intro _
          refine wpAnyH_ready (rs := [10]) (by kernel_rfl) (by simp) ?_
          refine AllReadyH.cons rfl (fun K hK => ?_) AllReadyH.nil
          rw [if_pos ?hw]
          case hw => kernel_rfl
          go_simp
          refine hK.out _ _ hA2 ?_
          clear hK K
          intro _
          refine wpAnyH_done (by kernel_rfl) ?_ _
          go_wp2_with fail
          go_ret
          exact ⟨by rw [HE.out]; rfl, hA2⟩
set_option maxRecDepth 100000 in
set_option maxHeartbeats 2000000 in
theorem dec_c : ∀ (n : Nat) (w : World), n ≤ 9223372036854775807 → Calls Tryz.prog 37 #[.int .i64 (n : Int)] w fun e w' => e = .returned (.string (bs (Lib.decDigits n))) ∧ Below w.heap.size w w' := by
  intro n
  induction n using Nat.strongRecOn with
  | _ n ih =>
    intro w hn
    by_cases h10 : n < 10
    · have e0 : bs (Lib.decDigits n) = bs [UInt8.ofNat (48 + n)] := by rw [Lib.decDigits, dif_pos h10]
      have hc := fun w => oneC w (48 + n) (by omega)
      have a1 : IntKind.i64.wrap (48 + (n : Int)) = ((48 + n : Nat) : Int) := by rw [IntWalk.i64_in _ (by omega)]; omega
      have a2 : IntKind.u8.wrap ((48 + n : Nat) : Int) = ((48 + n : Nat) : Int) := u8_in _ (by omega)
      have a3 : (n : Int) < 10 := by omega
      have HE := Lib.hid e0
      clear e0 ih
      generalize bs [UInt8.ofNat (48 + n)] = Y at *
      generalize ((48 + n : Nat) : Int) = c at *
      go_enter Tryz.func37, Tryz.ntmps37
      go_wp2_with fail
      go_ret
      exact ⟨by rw [HE.out]; rfl, by (first | ((repeat' with_reducible first | assumption | exact Below.refl _ _ | apply Blw.alloc | apply Blw.drew | apply Blw.drewN | (refine Blw.after ?_ (by assumption)) | (refine Blw.set ?_ (by first | (dsimp only; omega) | (simp; omega)) _)); done) | (repeat' (first | assumption | exact Below.refl _ _ | apply Blw.alloc | apply Blw.drew | apply Blw.drewN | (refine Blw.after ?_ (by assumption)) | (refine Blw.set ?_ (by first | (dsimp only; omega) | (simp; done) | (simp; omega)) _))))⟩
    · have e0 : bs (Lib.decDigits n) = bs (Lib.decDigits (n / 10)) ++ bs [UInt8.ofNat (48 + n % 10)] := by rw [Lib.decDigits, dif_neg h10, bs_app]
      have HI := Lib.hid (fun w => ih (n / 10) (by omega) w (by omega))
      have hc := fun w => oneC w (48 + n % 10) (by omega)
      have HC := Lib.hid (fun (W : World) (b : Nat) hb => oneAt W b (48 + n % 10) (by omega) hb)
      have hlenX : (bs (Lib.decDigits (n / 10))).size ≤ n / 10 + 1 := by rw [← toL_len, toL_bs]; exact decD_len _
      have hlenY : (bs [UInt8.ofNat (48 + n % 10)]).size = 1 := rfl
      have q1 : (n : Int).tdiv 10 = ((n / 10 : Nat) : Int) := by rw [Int.tdiv_eq_ediv_of_nonneg (by omega)]; omega
      have q3 : IntKind.i64.wrap ((n / 10 : Nat) : Int) = ((n / 10 : Nat) : Int) := IntWalk.i64_in _ (by omega)
      have q2 : IntKind.i64.wrap ((n : Int).tdiv 10) = ((n / 10 : Nat) : Int) := by rw [q1]; exact IntWalk.i64_in _ (by omega)
      have r1 : (n : Int).tmod 10 = ((n % 10 : Nat) : Int) := by rw [Int.tmod_eq_emod_of_nonneg (by omega)]; omega
      have a1 : IntKind.i64.wrap (48 + ((n % 10 : Nat) : Int)) = ((48 + n % 10 : Nat) : Int) := by rw [IntWalk.i64_in _ (by omega)]; omega
      have a2 : IntKind.u8.wrap ((48 + n % 10 : Nat) : Int) = ((48 + n % 10 : Nat) : Int) := u8_in _ (by omega)
      have HE := Lib.hid e0
      clear e0 ih
      generalize bs [UInt8.ofNat (48 + n % 10)] = Y at *
      generalize bs (Lib.decDigits (n / 10)) = X at *
      have hsz : ¬ (9223372036854775807 < X.size + Y.size) := by omega
      generalize hcc : ((48 + n % 10 : Nat) : Int) = c at *
      generalize hq : ((n / 10 : Nat) : Int) = q at *
      generalize hr : ((n % 10 : Nat) : Int) = r at *
      clear hcc hq hr hlenX hlenY
      go_enter Tryz.func37, Tryz.ntmps37
      go_upto_region 7 with fail
      have hd : Below w.heap.size w w.drew := (Below.refl _ _).drew
      refine wp_region_held_drew (S := fun w' => Below w.heap.size w w') (by kernel_rfl) hd ?_
      intro hS0
      generalize w.drew = V0 at *
      clear hd
      refine wpAnyH_take (i := 0) (v := ?_) rfl (by kernel_rfl) (by kernel_rfl) (by kernel_rfl) (fun _ _ _ h => h) (Or.inl ⟨by rfl, ?_⟩) hS0 ?_
      case refine_1 => exact .int .i64 (n : Int)
      · intro wq hSw; go_simp
      refine wpAnyH_take (i := 1) (v := ?_) rfl (by kernel_rfl) (by kernel_rfl) (by kernel_rfl) (fun _ _ _ h => h) (Or.inl ⟨by rfl, ?_⟩) hS0 ?_
      case refine_1 => exact .int .i64 q
      · intro wq hSw; go_simp
      refine wpAnyH_take (i := 3) (v := ?_) rfl (by kernel_rfl) (by kernel_rfl) (by kernel_rfl) (fun _ _ _ h => h) (Or.inl ⟨by rfl, ?_⟩) hS0 ?_
      case refine_1 => exact .int .i64 (n : Int)
      · intro wq hSw; go_simp
      refine wpAnyH_take (i := 4) (v := ?_) rfl (by kernel_rfl) (by kernel_rfl) (by kernel_rfl) (fun _ _ _ h => h) (Or.inl ⟨by rfl, ?_⟩) hS0 ?_
      case refine_1 => exact .int .i64 r
      · intro wq hSw; go_simp
      refine wpAnyH_take (i := 5) (v := ?_) rfl (by kernel_rfl) (by kernel_rfl) (by kernel_rfl) (fun _ _ _ h => h) (Or.inl ⟨by rfl, ?_⟩) hS0 ?_
      case refine_1 => exact .int .i64 c
      · intro wq hSw; go_simp
      refine wpAnyH_take (i := 6) (v := ?_) rfl (by kernel_rfl) (by kernel_rfl) (by kernel_rfl) (fun _ _ _ h => h) (Or.inl ⟨by rfl, ?_⟩) hS0 ?_
      case refine_1 => exact .int .u8 c
      · intro wq hSw; go_simp
      refine wpAnyH_ready (rs := [2, 7]) (by kernel_rfl) (by simp) ?_
      refine AllReadyH.cons rfl (fun K hK => ?_) (AllReadyH.cons rfl (fun K hK => ?_) AllReadyH.nil)
      · rw [if_pos ?hw]
        case hw => kernel_rfl
        go_wp2_with fail
        refine (HI.out _).mono ?_
        rintro e wA ⟨rfl, hbA⟩
        have hA := Blw.after hS0 hbA
        refine hK.out _ _ hA ?_
        clear hK K hbA hS0
        intro _
        refine wpAnyH_ready (rs := [7]) (by kernel_rfl) (by simp) ?_
        refine AllReadyH.cons rfl (fun K hK => ?_) AllReadyH.nil
        rw [if_pos ?hw]
        case hw => kernel_rfl
        go_wp2_with fail
        have hA2 := Blw.alloc hA (.cells #[.int .u8 c] 5)
        refine hK.out _ _ hA2 ?_
        clear hK K
        intro _
        refine wpAnyH_ready (rs := [8]) (by kernel_rfl) (by simp) ?_
        refine AllReadyH.cons rfl (fun K hK => ?_) AllReadyH.nil
        rw [if_pos ?hw]
        case hw => kernel_rfl
        go_simp
        refine hK.out _ _ hA2 ?_
        clear hK K
        intro hS1
        refine wpAnyH_ready (rs := [9]) (by kernel_rfl) (by simp) ?_
        refine AllReadyH.cons rfl (fun K hK => ?_) AllReadyH.nil
        rw [if_pos ?hw]
        case hw => kernel_rfl
        go_simp
        refine hK.out _ _ hA2 ?_
        clear hK K
        intro _
        refine wpAnyH_ready (rs := [10]) (by kernel_rfl) (by simp) ?_
        refine AllReadyH.cons rfl (fun K hK => ?_) AllReadyH.nil
        rw [if_pos ?hw]
        case hw => kernel_rfl
        go_simp
        refine hK.out _ _ hA2 ?_
        clear hK K
        intro _
        refine wpAnyH_done (by kernel_rfl) ?_ _
        go_wp2_with fail
        go_ret
        exact ⟨by rw [HE.out]; rfl, hA2⟩
      · rw [if_pos ?hw]
        case hw => kernel_rfl
        go_wp2_with fail
        have hA := Blw.alloc hS0 (.cells #[.int .u8 c] 5)
        have hcell : (V0.alloc (.cells #[.int .u8 c] 5)).cell? ⟨V0.heap.size, 0, none⟩ = some (.int .u8 c) := by go_simp
        have hcv := hc V0
        refine hK.out _ _ hA ?_
        clear hK K hS0
        intro _
        generalize V0.alloc (.cells #[.int .u8 c] 5) = V1 at *
        generalize V0.heap.size = b0 at *
        clear hc
        refine wpAnyH_ready (rs := [2, 8]) (by kernel_rfl) (by simp) ?_
        refine AllReadyH.cons rfl (fun K hK => ?_) (AllReadyH.cons rfl (fun K hK => ?_) AllReadyH.nil)
        · rw [if_pos ?hw]
          case hw => kernel_rfl
          go_wp2_with fail
          refine (HI.out _).mono ?_
          rintro e wA ⟨rfl, hbA⟩
          have hA2 := Blw.after hA hbA
          have hcv2 := HC.out wA b0 (keepcell hbA hcell)
          refine hK.out _ _ hA2 ?_
          clear hK K hbA
          intro _
          refine wpAnyH_ready (rs := [8]) (by kernel_rfl) (by simp) ?_
          refine AllReadyH.cons rfl (fun K hK => ?_) AllReadyH.nil
          rw [if_pos ?hw]
          case hw => kernel_rfl
          go_simp
          refine hK.out _ _ hA2 ?_
          clear hK K
          intro _
          refine wpAnyH_ready (rs := [9]) (by kernel_rfl) (by simp) ?_
          refine AllReadyH.cons rfl (fun K hK => ?_) AllReadyH.nil
          rw [if_pos ?hw]
          case hw => kernel_rfl
          go_simp
          refine hK.out _ _ hA2 ?_
          clear hK K
          intro _
          refine wpAnyH_ready (rs := [10]) (by kernel_rfl) (by simp) ?_
          refine AllReadyH.cons rfl (fun K hK => ?_) AllReadyH.nil
          rw [if_pos ?hw]
          case hw => kernel_rfl
          go_simp
          refine hK.out _ _ hA2 ?_
          clear hK K
          intro _
          refine wpAnyH_done (by kernel_rfl) ?_ _
          go_wp2_with fail
          go_ret
          exact ⟨by rw [HE.out]; rfl, hA2⟩
        · rw [if_pos ?hw]
          case hw => kernel_rfl
          go_simp
          refine hK.out _ _ hA ?_
          clear hK K
          intro _
          refine wpAnyH_ready (rs := [2]) (by kernel_rfl) (by simp) ?_
          refine AllReadyH.cons rfl (fun K hK => ?_) AllReadyH.nil
          rw [if_pos ?hw]
          case hw => kernel_rfl
          go_wp2_with fail
          refine (HI.out _).mono ?_
          rintro e wA ⟨rfl, hbA⟩
          have hA2 := Blw.after hA hbA
          refine hK.out _ _ hA2 ?_
          clear hK K hbA
          intro _
          refine wpAnyH_ready (rs := [9]) (by kernel_rfl) (by simp) ?_
          refine AllReadyH.cons rfl (fun K hK => ?_) AllReadyH.nil
          rw [if_pos ?hw]
          case hw => kernel_rfl
          go_simp
          refine hK.out _ _ hA2 ?_
          clear hK K
          intro _
          refine wpAnyH_ready (rs := [10]) (by kernel_rfl) (by simp) ?_
          refine AllReadyH.cons rfl (fun K hK => ?_) AllReadyH.nil
          rw [if_pos ?hw]
          case hw => kernel_rfl
          go_simp
          refine hK.out _ _ hA2 ?_
          clear hK K
          intro _
          refine wpAnyH_done (by kernel_rfl) ?_ _
          go_wp2_with fail
          go_ret
          exact ⟨by rw [HE.out]; rfl, hA2⟩
end Go.Proofs.YtmondgcehgmamaaGreatDoor

namespace Go.Proofs.YtmondgcehgmamaaGreatDoor
set_option linter.unusedSimpArgs false
set_option linter.unusedVariables false
open Go.ChangeShapes Go.WideShapes Go.ChangeAt Go.RowKit Go.Joins

theorem own : ownKnob Tryz.prog.godebug = none := by kernel_rfl
theorem cellsI : Tryz.prog.cellsOf 3 = 1 := by kernel_rfl
end Go.Proofs.YtmondgcehgmamaaGreatDoor

namespace Go.Proofs.YtmondgcehgmamaaGreatDoor
set_option linter.unusedSimpArgs false
set_option linter.unusedVariables false
open Go.ChangeShapes Go.WideShapes Go.ChangeAt Go.RowKit Go.Joins

theorem handed_shaped {H : Type} {enc : TypeId × Value → H} {a : Assume} {C : Checked} {os : Os} {f : FuncId} {fn : Func} {s : ChangeSpec} {conds : List PathCond} {apart fresh handsOn again : Bool} {X : World → Array Value → Prop}
    (hX : ∀ (w w' : World) (args : Array Value), w.heap = w'.heap → X w args → X w' args)
    (own : ownKnob C.prog.godebug = none) (started : os.Started) (noInit : C.prog.inits.idxOf? f = none) (hfn : C.prog.funcs[f]? = some fn)
    (witness : ∃ (w : World) (tape : Tape) (i : Input), w.os = os ∧ (w.forCall tape i).Shaped C.prog ∧ i.vars = [] ∧ Input.okWide C.prog (w.forCall tape i) .any w.heap.size f i ∧
      ((s.pre enc C.prog fn conds apart (w.forCall tape i).memory i.args ∧ X (w.forCall tape i).memory i.args) ∧ sizedMet enc C.prog fn (OpenSpec.ofChange s) apart (w.forCall tape i).memory i.args) ∧ a.holds C.prog (lone (Frame.enter C.prog f i.args .normal) [] (w.forCall tape i)))
    (contract : ∀ (W : World) (base : Nat) (args : Array Value) (ds gs : List (DataW H)) (before : List MemPlace),
      (∀ (j : Nat) t v, fn.params[j]? = some t → args[j]? = some v → Value.okWide C.prog W .any base t v) →
      DataW.Whole enc C.prog fn.params.toList s.vars apart W args.toList ds gs before →
      conds.all (PathCond.test C.prog ⟨fn.params.toList, ds, s.plain.varTypes C.prog, gs⟩) = true →
      (DataW.weightsEach C.prog (fn.params.toList ++ s.plain.varTypes C.prog) (ds ++ gs)).all (· ≤ reachBytes) = true → W.ShapedOpen C.prog → X W args →
      a.holds C.prog (lone (Frame.enter C.prog f args .normal) [] W) →
      Calls C.prog f args W fun e W' => ∃ v, e = .returned v ∧ s.post enc C.prog fn apart fresh handsOn again W args v W') :
    ReturnsInHanded a C os f .any (fun w args => (s.pre enc C.prog fn conds apart w args ∧ X w args) ∧ sizedMet enc C.prog fn (OpenSpec.ofChange s) apart w args) (s.post enc C.prog fn apart fresh handsOn again) := by
  refine returnsInHanded_of_calls own started noInit witness ?_
  intro w tape i _ hsh _ hok hpre hholds
  obtain ⟨_, _, _, fn', hfn', _, _, _, _, hval⟩ := hok
  have e : fn' = fn := Option.some.inj (hfn'.symm.trans hfn)
  subst e
  obtain ⟨⟨⟨ds, gs, before, hw, hc⟩, hx⟩, hz⟩ := hpre
  have hw' := DataW.Whole.of_heap (w' := w.forCall tape i) (by rfl) hw
  refine (contract (w.forCall tape i) w.heap.size i.args ds gs before hval hw' hc (hz.weights hw) hsh (hX _ _ _ (by rfl) hx) hholds).mono fun e W' ⟨v, he, hp⟩ => ?_
  subst he
  exact ChangeSpec.post_blind hp

theorem iface_of_trod {H : Type} {enc : TypeId × Value → H} {P : Program} {W : World} {base : Nat} {sp : Nat → Bool} {held : Bool} {fuel : Nat} {t : TypeId} {ms : Array (String × TypeId)} {l : List Value} {nm : String} {d : DataW H} {q : List MemPlace}
    (hi : P.underlying t = some (.interface ms)) (h : DataW.trod enc P W base sp held fuel t l = some (.iface nm d, q)) : ∃ u v, l = [.iface u v] := by
  cases fuel with
  | zero => simp [DataW.trod] at h
  | succ n =>
    match l, h with
    | [], h => simp [DataW.trod, hi] at h
    | [v], h => cases v <;> first | exact ⟨_, _, rfl⟩ | (exfalso; simp [DataW.trod, hi] at h; done)
    | _ :: _ :: _, h => simp [DataW.trod, hi] at h

end Go.Proofs.YtmondgcehgmamaaGreatDoor

namespace Go.Proofs.YtmondgcehgmamaaGreatDoor
set_option linter.unusedSimpArgs false
set_option linter.unusedVariables false
open Go.ChangeShapes Go.WideShapes Go.ChangeAt Go.RowKit Go.Joins


def rowData (r : Nat) : DataW Unit := .agg [.agg [.lit (.int .i64 (rowX r)), .lit (.int .i64 (rowY r))], .lit (.string (rowS r)), .agg [.lit (.int .i64 (rowN r 0 : Nat)), .lit (.int .i64 (rowN r 1 : Nat)), .lit (.int .i64 (rowN r 2 : Nat))]]
theorem adder_data : (Rows.laid_loop_example_dragonnumbers_impl_adder : DataW Unit) = .agg ((List.range 15).map rowData) := by kernel_rfl
theorem cellsRow : Tryz.prog.cellsOf 102 = 6 := by kernel_rfl
theorem cellsGa : Tryz.prog.cellsOf 99 = 2 := by kernel_rfl
theorem cellsIn : Tryz.prog.cellsOf 3 = 1 := by kernel_rfl
theorem cellsSt : Tryz.prog.cellsOf 9 = 1 := by kernel_rfl
theorem cellsN : Tryz.prog.cellsOf 100 = 3 := by kernel_rfl
theorem adderAt : Tryz.prog.globalNamed "loop.example/dragonnumbers/impl.adder" = some 0 := by kernel_rfl
theorem adderType : (Tryz.prog.globals[0]?).map (·.type) = some 103 := by kernel_rfl

theorem tab_of_read {W : World} {fuel : Nat} {cs : Array Value} {p : List MemPlace} {enc : TypeId × Value → Unit} {spare : Nat → Bool} {held : Bool} (hv : W.var? Tryz.prog "loop.example/dragonnumbers/impl.adder" = some cs)
    (h : DataW.trod enc Tryz.prog W 0 spare held fuel 103 cs.toList = some (Rows.laid_loop_example_dragonnumbers_impl_adder, p)) : Tab W := by
  rw [adder_data] at h
  have hat : ∀ (i : Nat) (v : Value), cs.toList[i]? = some v → W.cell? ⟨0, i, none⟩ = some v := fun i v hi => by
    rw [World.var?_cell adderAt hv i]; simpa using hi
  have key : ∀ r, r < 15 → W.cell? ⟨0, r * 6, none⟩ = some (.int .i64 (rowX r)) ∧ W.cell? ⟨0, r * 6 + 1, none⟩ = some (.int .i64 (rowY r)) ∧ W.cell? ⟨0, r * 6 + 2, none⟩ = some (.string (bs (rowS r))) ∧ ∀ b, b < 3 → W.cell? ⟨0, r * 6 + 3 + b, none⟩ = some (.int .i64 (rowN r b : Nat)) := by
    intro r hr
    obtain ⟨m, q, h1⟩ := rd_array Tryz.underlying103 h (i := r) (d := rowData r) hr (by simp [hr])
    rw [cellsRow] at h1
    obtain ⟨m1, q1, h2⟩ := rd_struct Tryz.underlying102 h1 (i := 0) (ft := 99) (fo := 0) rfl rfl rfl rfl cellsGa
    obtain ⟨m2, q2, h3⟩ := rd_struct Tryz.underlying102 h1 (i := 1) (ft := 9) (fo := 2) rfl rfl rfl rfl cellsSt
    obtain ⟨m3, q3, h4⟩ := rd_struct Tryz.underlying102 h1 (i := 2) (ft := 100) (fo := 3) rfl rfl rfl rfl cellsN
    obtain ⟨m4, q4, h5⟩ := rd_struct Tryz.underlying99 h2 (i := 0) (ft := 3) (fo := 0) rfl rfl rfl rfl cellsIn
    obtain ⟨m5, q5, h6⟩ := rd_struct Tryz.underlying99 h2 (i := 1) (ft := 3) (fo := 1) rfl rfl rfl rfl cellsIn
    have a0 := rd_int Tryz.underlying3 h5
    have a1 := rd_int Tryz.underlying3 h6
    have a2 := rd_str Tryz.underlying9 h3
    rw [drop_take _ _ _ _ _ (by decide)] at a0 a1
    refine ⟨hat _ _ ?_, hat _ _ ?_, hat _ _ ?_, ?_⟩
    · simpa using at_of_one a0 (by decide)
    · simpa using at_of_one a1 (by decide)
    · simpa using at_of_one a2 (by decide)
    · intro b hb
      obtain ⟨m6, q6, h7⟩ := rd_array Tryz.underlying100 h4 (i := b) (d := .lit (.int .i64 (rowN r b : Nat))) hb (by match b, hb with | 0, _ => rfl | 1, _ => rfl | 2, _ => rfl)
      rw [cellsIn, Nat.mul_one] at h7
      have a3 := rd_int Tryz.underlying3 h7
      rw [drop_take _ _ _ _ _ (by omega)] at a3
      exact hat _ _ (by rw [Nat.add_assoc]; exact at_of_one a3 (by omega))
  exact ⟨World.block_lt_of_cell? W _ (key 0 (by omega)).1, key⟩

/-- the table stands second on the list -/
theorem tab_second {W : World} {x : String × DataW Unit} {r : List (String × DataW Unit)} (h : laidMetH Tryz.prog (x :: ("loop.example/dragonnumbers/impl.adder", Rows.laid_loop_example_dragonnumbers_impl_adder) :: r) W) (hp : ∀ W, laidMetH Tryz.prog (x :: ("loop.example/dragonnumbers/impl.adder", Rows.laid_loop_example_dragonnumbers_impl_adder) :: r) W = laidMet Tryz.prog (x :: ("loop.example/dragonnumbers/impl.adder", Rows.laid_loop_example_dragonnumbers_impl_adder) :: r) W) : Tab W := by
  rw [hp] at h
  have h2 := h.tail
  obtain ⟨ps, ⟨g, t, cs, fuel, p, q, hg, ht, hv, hd, _, _⟩, _, _⟩ := h2
  obtain rfl := Option.some.inj (adderAt.symm.trans hg)
  obtain rfl := Option.some.inj (adderType.symm.trans ht)
  exact tab_of_read hv hd
theorem laidOutD : laidOutB Tryz.prog = true := by kernel_rfl
/-- the table reads behind the call as ahead of it -/
theorem vars_shut {H : Type} {enc : TypeId × Value → H} {W W' : World} {g : Nat} {t : TypeId} {cs : Array Value} {fuel : Nat} {d : DataW H} {p : List MemPlace} (hg : Tryz.prog.globalNamed "loop.example/dragonnumbers/impl.adder" = some g) (ht : (Tryz.prog.globals[g]?).map (·.type) = some t)
    (hv : W.var? Tryz.prog "loop.example/dragonnumbers/impl.adder" = some cs) (hd : DataW.trod enc Tryz.prog W 0 (fun _ => true) true fuel t cs.toList = some (d, p)) (hlt : ∀ x ∈ p, x.block < W.heap.size) (hT : Tab W) (hB : Below W.heap.size W W') :
    DataW.TrodVars enc Tryz.prog W' (fun b => decide (b < W.heap.size)) ["loop.example/dragonnumbers/impl.adder"] [d] (MemPlace.row ⟨g, 0, none⟩ cs.size ++ p) := by
  obtain rfl := Option.some.inj (adderAt.symm.trans hg)
  obtain rfl := Option.some.inj (adderType.symm.trans ht)
  have hr : Tryz.prog.readableRec 103 = true := by kernel_rfl
  have hd' := DataW.trod_stays (w' := W') (sp' := fun b => decide (b < W.heap.size)) (kids_book laidOutD hr) (book_sized hr) (fun h => by cases h) ⟨of_decide_eq_true (by kernel_rfl), book_self _⟩ hd (fun x hx => hB.same (hlt x hx)) (fun x hx => by simpa using hlt x hx)
  exact trodVars_mk1 hg ht (var?_below hB hg hT.1 hv) hd'
end Go.Proofs.YtmondgcehgmamaaGreatDoor

namespace Go.Proofs.YtmondgcehgmamaaGreatDoor
set_option linter.unusedSimpArgs false
set_option linter.unusedVariables false
open Go.RowKit

def NextPost (s : ByteArray) (w : World) (e : Ending) (w' : World) : Prop := ∃ l, e = .returned (resD l) ∧ (vldB s = true → Good l (idxF (toL s) + 1)) ∧ (vldB s = false → l = []) ∧ Below w.heap.size w w'
theorem resD_nil : resD [] = .tuple #[.string ⟨#[]⟩, .bool false] := rfl
def NKRel (s : ByteArray) (w : World) (m : Nat) (kv : Value) (wr : World) : Prop :=
  ∃ k : Nat, k = m ∧ k ≤ s.size ∧ kv = .int .i64 k ∧ wr = w ∧ ∀ j, k ≤ j → j < s.size → (toL s)[j]? = some 49
def NZRel (s : ByteArray) (w : World) (k : Nat) (m : Nat) (zv iv : Value) (wr : World) : Prop :=
  ∃ i : Nat, i + m = s.size ∧ k ≤ i ∧ iv = .int .i64 i ∧ wr = w ∧ zv = .string (bs (List.replicate (i - k) 48))


theorem toL_take (s : ByteArray) (k : Nat) : s.extract 0 k = bs ((toL s).take k) := by
  apply toL_ext
  rw [toL_bs, ← bs_toL s]
  show toL ((ByteArray.mk (toL s).toArray).extract 0 k) = _
  rw [ByteArray.extract_mk]
  simp [toL, bs]
set_option maxRecDepth 100000 in
set_option maxHeartbeats 4000000 in
theorem sDigitsNext_c (s : ByteArray) (w : World) : Calls Tryz.prog 98 #[.string s] w (NextPost s w) := by
  rcases Bool.eq_false_or_eq_true (vldB s) with hv | hv
  · have HV := Lib.hid hv
    obtain ⟨l1, l50⟩ := vldB_len hv
    go_enter Tryz.func98, Tryz.ntmps98
    go_wp2_with (first | (go_at_call 40; refine (sDigitsValid_c _ _).mono ?_; rintro e w1 ⟨rfl, rfl⟩))
    clear hv
    have S0 := Lib.hid (show NKRel s w s.size (.int .i64 s.size) w from ⟨s.size, rfl, Nat.le_refl _, rfl, rfl, fun j h1 h2 => by omega⟩)
    go_loopg [4] s.size (fun m kv wr => NKRel s w m kv wr)
    case atStart => exact S0.out
    case round =>
      clear S0
      obtain ⟨k, rfl, hk, rfl, rfl, h1⟩ := hrel
      have H1 := Lib.hid h1
      clear h1
      by_cases hgo : 0 < k ∧ (s[k - 1]!).toNat = 49
      · obtain ⟨k0, k9⟩ := hgo
        have hlt : k - 1 < s.size := by omega
        have e9 : s[k - 1].toNat = 49 := by rw [getElem!_pos s (k - 1) hlt] at k9; exact k9
        have a1 : ((s[k - 1].toNat : Int) == 49) = true := by simp [e9]
        have e1 : ((k : Int) - 1).toNat = k - 1 := by omega
        have HS := Lib.hid (show ∀ j, k - 1 ≤ j → j < s.size → (toL s)[j]? = some 49 from fun j h2 h3 => by
          by_cases h4 : j = k - 1
          · rw [h4, toL_get s (k - 1) hlt]; congr 1; exact UInt8.toNat_inj.1 (by rw [e9]; rfl)
          · exact H1.out j (by omega) h3)
        clear e9 k9
        go_wp2
        go_roundg (k - 1)
        case measure => omega
        case rel => exact ⟨k - 1, rfl, by omega, by congr 1; omega, rfl, HS.out⟩
      · have h0 : 1 ≤ k → (toL s)[k - 1]? = some 48 := by
          intro hk1
          have hlt : k - 1 < s.size := by omega
          rw [toL_get s (k - 1) hlt]
          congr 1
          have := vldB_at HV.out (k - 1) hlt
          have h9 : s[k - 1].toNat ≠ 49 := by
            intro e; apply hgo; refine ⟨by omega, ?_⟩; rw [getElem!_pos s (k - 1) hlt]; exact e
          exact UInt8.toNat_inj.1 (by rw [show s[k - 1].toNat = 48 by omega]; rfl)
        have HG := Lib.hid (next_good (s := toL s) (k := k) HV.out (by rw [toL_len]; exact hk) (fun j h2 h3 => H1.out j h2 (by rw [toL_len] at h3; exact h3)) h0)
        have hc : k = 0 ∨ 0 < k ∧ ∃ h : k - 1 < s.size, ((s[k - 1].toNat : Int) == 49) = false := by
          by_cases hk0 : k = 0
          · exact Or.inl hk0
          · refine Or.inr ⟨by omega, by omega, ?_⟩
            have := h0 (by omega)
            rw [toL_get s (k - 1) (by omega)] at this
            simp only [Option.some.injEq] at this
            rw [this]; rfl
        clear hgo h0
        have SZ := Lib.hid (show NZRel s wr k (s.size - k) (.string ⟨#[]⟩) (.int .i64 k) wr from ⟨k, by omega, Nat.le_refl _, rfl, rfl, by rw [Nat.sub_self]; rfl⟩)
        obtain ⟨wo, rfl⟩ : ∃ wo : World, wo = wr := ⟨_, rfl⟩
        rcases hc with rfl | ⟨hk0, hlt, a1⟩
        · go_wp2_with fail
          go_loopg [5, 6] (s.size - 0) (fun m zv iv wr => NZRel s wo 0 m zv iv wr)
          case atStart => exact SZ.out
          case round =>
            clear SZ
            obtain ⟨i, hi, hki, rfl, rfl, rfl⟩ := hrel
            have hsz : (bs (List.replicate (i - 0) 48)).size ≤ 200 := by rw [bs_sz, List.length_replicate]; omega
            by_cases hil : i < s.size
            · have HQ := Lib.hid (show bs (List.replicate (i - 0) 48) ++ ⟨#[48]⟩ = bs (List.replicate (i + 1 - 0) 48) by
                rw [show (⟨#[48]⟩ : ByteArray) = bs [48] from rfl, bs_cat, ← List.replicate_succ' (n := i - 0), show i - 0 + 1 = i + 1 - 0 by omega])
              generalize bs (List.replicate (i - 0) 48) = T at *
              go_wp2
              go_roundg (gk - 1)
              case measure => omega
              case rel => exact ⟨i + 1, by omega, by omega, by go_num, rfl, by rw [← HQ.out]⟩
            · obtain rfl : i = s.size := by omega
              have HR := Lib.hid (show (⟨#[49]⟩ : ByteArray) ++ bs (List.replicate (s.size - 0) 48) = bs (nextR (toL s) 0) by
                rw [show (⟨#[49]⟩ : ByteArray) = bs [49] from rfl, bs_cat]; unfold nextR; rw [toL_len]; simp)
              generalize bs (List.replicate (s.size - 0) 48) = T at *
              go_wp2_with (first | (go_at_call 42; fail))
              rw [HR.out]
              refine (l2Done_c _ _).mono ?_
              rintro e w' ⟨rfl, rfl⟩
              rw [toL_bs]
              go_wp2
              go_ret2
              exact ⟨nextR (toL s) 0, rfl, fun _ => HG.out, fun h => absurd (HV.out.symm.trans h) (by simp), by (first | ((repeat' with_reducible first | assumption | exact Below.refl _ _ | apply Blw.alloc | apply Blw.drew | apply Blw.drewN | (refine Blw.after ?_ (by assumption)) | (refine Blw.set ?_ (by first | (dsimp only; omega) | (simp; omega)) _)); done) | (repeat' (first | assumption | exact Below.refl _ _ | apply Blw.alloc | apply Blw.drew | apply Blw.drewN | (refine Blw.after ?_ (by assumption)) | (refine Blw.set ?_ (by first | (dsimp only; omega) | (simp; done) | (simp; omega)) _))))⟩
        · have e1 : ((k : Int) - 1).toNat = k - 1 := by omega
          go_wp2_with fail
          go_loopg [5, 6] (s.size - k) (fun m zv iv wr => NZRel s wo k m zv iv wr)
          case atStart => exact SZ.out
          case round =>
            clear SZ
            obtain ⟨i, hi, hki, rfl, rfl, rfl⟩ := hrel
            have hsz : (bs (List.replicate (i - k) 48)).size ≤ 200 := by rw [bs_sz, List.length_replicate]; omega
            by_cases hil : i < s.size
            · have HQ := Lib.hid (show bs (List.replicate (i - k) 48) ++ ⟨#[48]⟩ = bs (List.replicate (i + 1 - k) 48) by
                rw [show (⟨#[48]⟩ : ByteArray) = bs [48] from rfl, bs_cat, ← List.replicate_succ' (n := i - k), show i - k + 1 = i + 1 - k by omega])
              generalize bs (List.replicate (i - k) 48) = T at *
              go_wp2
              go_roundg (gk - 1)
              case measure => omega
              case rel => exact ⟨i + 1, by omega, by omega, by go_num, rfl, by rw [← HQ.out]⟩
            · obtain rfl : i = s.size := by omega
              have HR := Lib.hid (show s.extract 0 (k - 1) ++ ⟨#[49]⟩ ++ bs (List.replicate (s.size - k) 48) = bs (nextR (toL s) k) by
                rw [toL_take, show (⟨#[49]⟩ : ByteArray) = bs [49] from rfl, bs_cat, bs_cat]; unfold nextR; rw [toL_len])
              have hex : (s.extract 0 (k - 1)).size ≤ 200 := by rw [toL_take, bs_sz, List.length_take, toL_len]; omega
              generalize bs (List.replicate (s.size - k) 48) = T at *
              go_wp2_with (first | (go_at_call 42; fail))
              rw [HR.out]
              refine (l2Done_c _ _).mono ?_
              rintro e w' ⟨rfl, rfl⟩
              rw [toL_bs]
              go_wp2
              go_ret2
              exact ⟨nextR (toL s) k, rfl, fun _ => HG.out, fun h => absurd (HV.out.symm.trans h) (by simp), by (first | ((repeat' with_reducible first | assumption | exact Below.refl _ _ | apply Blw.alloc | apply Blw.drew | apply Blw.drewN | (refine Blw.after ?_ (by assumption)) | (refine Blw.set ?_ (by first | (dsimp only; omega) | (simp; omega)) _)); done) | (repeat' (first | assumption | exact Below.refl _ _ | apply Blw.alloc | apply Blw.drew | apply Blw.drewN | (refine Blw.after ?_ (by assumption)) | (refine Blw.set ?_ (by first | (dsimp only; omega) | (simp; done) | (simp; omega)) _))))⟩
  · have HV := Lib.hid hv
    go_enter Tryz.func98, Tryz.ntmps98
    go_wp2_with (first | (go_at_call 40; refine (sDigitsValid_c _ _).mono ?_; rintro e w1 ⟨rfl, rfl⟩))
    go_ret2
    exact ⟨[], rfl, fun h => absurd (HV.out.symm.trans h) (by simp), fun _ => rfl, by (first | ((repeat' with_reducible first | assumption | exact Below.refl _ _ | apply Blw.alloc | apply Blw.drew | apply Blw.drewN | (refine Blw.after ?_ (by assumption)) | (refine Blw.set ?_ (by first | (dsimp only; omega) | (simp; omega)) _)); done) | (repeat' (first | assumption | exact Below.refl _ _ | apply Blw.alloc | apply Blw.drew | apply Blw.drewN | (refine Blw.after ?_ (by assumption)) | (refine Blw.set ?_ (by first | (dsimp only; omega) | (simp; done) | (simp; omega)) _))))⟩
end Go.Proofs.YtmondgcehgmamaaGreatDoor

namespace Go.Proofs.YtmondgcehgmamaaGreatDoor
set_option linter.unusedSimpArgs false
set_option linter.unusedVariables false
open Go.RowKit

def FmPost (v : Int) (w : World) (e : Ending) (w' : World) : Prop := ∃ l, e = .returned (.string (bs l)) ∧ Good l v ∧ Below w.heap.size w w'
set_option maxRecDepth 100000 in
theorem fmtIn_c (n : Nat) (w : World) (hn : 1 ≤ n) (hn2 : n ≤ 2251799813685247) (hT : Two w) (h6 : 7 < w.heap.size) : Calls Tryz.prog 96 #[.int .i64 n, .int .i64 2] w (FmPost n w) := by
  have HT := Lib.hid hT
  clear hT
  go_enter Tryz.func96, Tryz.ntmps96
  go_wp2_with (go_at_call 149; rw [show decide ((n : Int) < 0) = false from decide_eq_false (by omega)]; refine (formatBits_c n _ hn hn2 HT.out h6).mono ?_; rintro e w' ⟨l, rfl, hg, hb⟩; have HG := Lib.hid hg; clear hg)
  go_ret
  exact ⟨l, rfl, HG.out, hb⟩
theorem fmt_c (v : Int) (w : World) (hn : 1 ≤ v) (hn2 : v ≤ 2251799813685247) (hT : Two w) (h6 : 7 < w.heap.size) : Calls Tryz.prog 184 #[.int .i64 v, .int .i64 2] w (FmPost v w) := by
  obtain ⟨n, rfl⟩ : ∃ n : Nat, v = (n : Int) := ⟨v.toNat, by omega⟩
  have HT := Lib.hid hT
  clear hT
  have h1 : 1 ≤ n := by omega
  have h2 : n ≤ 2251799813685247 := by omega
  go_enter Tryz.func184, Tryz.ntmps184
  go_wp2_with (go_at_call 96; refine (fmtIn_c n _ h1 h2 HT.out h6).mono ?_; rintro e w' ⟨l, rfl, hg, hb⟩; have HG := Lib.hid hg; clear hg)
  go_ret
  exact ⟨l, rfl, HG.out, hb⟩

theorem resD_yes {l : List UInt8} {v : Int} (h : Good l v) (hl : l.length ≤ 50) : resD l = .tuple #[.string (bs l), .bool true] := by
  obtain ⟨b, _, g⟩ := h
  have hs : strip l = toL (bs l) := by rw [toL_bs]; exact strip_keep (by cases l with | nil => simp at g | cons a r => simp at g ⊢; rw [g]; decide)
  refine resD_t hs ?_
  show vldL (toL (bs l)) = true
  rw [toL_bs, vldL_iff]
  cases l with
  | nil => simp at g
  | cons a r => refine ⟨by simp, hl, Or.inr ?_, b⟩; simp at g ⊢; rw [g]; decide
theorem resD_over {l : List UInt8} {v : Int} (h : Good l v) (hl : 50 < l.length) : resD l = .tuple #[.string ⟨#[]⟩, .bool false] := by
  obtain ⟨b, _, g⟩ := h
  have hs : strip l = toL (bs l) := by rw [toL_bs]; exact strip_keep (by cases l with | nil => simp at g | cons a r => simp at g ⊢; rw [g]; decide)
  refine resD_f hs ?_
  show vldL (toL (bs l)) = false
  rw [toL_bs, ← Bool.not_eq_true, vldL_iff]
  rintro ⟨_, h2, _⟩
  omega

set_option maxHeartbeats 2000000 in
theorem iDigitsNext_c (s : ByteArray) (w : World) (hT : Two w) (h6 : 7 < w.heap.size) : Calls Tryz.prog 135 #[.string s] w (NextPost s w) := by
  have HT := Lib.hid hT
  clear hT
  rcases Bool.eq_false_or_eq_true (vldB s) with hv | hv
  · have HV := Lib.hid hv
    obtain ⟨c1, c2⟩ := idx_at hv s.size
    rw [take_allB s s.size (Nat.le_refl _)] at c1 c2
    go_enter Tryz.func135, Tryz.ntmps135
    go_wp2_with (first | (go_at_call 66; refine (iDigitsValid_c _ _).mono ?_; rintro e w1 ⟨rfl, hb⟩; obtain ⟨hc, hf⟩ := bcell hb; have hz := bsize hb; have hs := hb.size; try simp at hs) | (go_at_call 185; refine (binary_c _ _ HV.out).mono ?_; rintro e w1 ⟨rfl, hb⟩; obtain ⟨hc, hf⟩ := bcell hb; have hz := bsize hb; have hs := hb.size; try simp at hs) | (go_at_call 184; refine (fmt_c _ _ (by omega) (by omega) (HT.out.keep h6 (by (first | ((repeat' with_reducible first | assumption | exact Below.refl _ _ | apply Blw.alloc | apply Blw.drew | apply Blw.drewN | (refine Blw.after ?_ (by assumption)) | (refine Blw.set ?_ (by first | (dsimp only; omega) | (simp; omega)) _)); done) | (repeat' (first | assumption | exact Below.refl _ _ | apply Blw.alloc | apply Blw.drew | apply Blw.drewN | (refine Blw.after ?_ (by assumption)) | (refine Blw.set ?_ (by first | (dsimp only; omega) | (simp; done) | (simp; omega)) _)))))) (by omega)).mono ?_; rintro e w3 ⟨l, rfl, hg, hb3⟩; have HG := Lib.hid hg; clear hg; have hsz := bs_sz l; by_cases h50 : l.length ≤ 50))
    · go_ret2
      exact ⟨l, by rw [resD_yes HG.out h50]; rfl, fun _ => HG.out, fun h => absurd (HV.out.symm.trans h) (by simp), by (first | ((repeat' with_reducible first | assumption | exact Below.refl _ _ | apply Blw.alloc | apply Blw.drew | apply Blw.drewN | (refine Blw.after ?_ (by assumption)) | (refine Blw.set ?_ (by first | (dsimp only; omega) | (simp; omega)) _)); done) | (repeat' (first | assumption | exact Below.refl _ _ | apply Blw.alloc | apply Blw.drew | apply Blw.drewN | (refine Blw.after ?_ (by assumption)) | (refine Blw.set ?_ (by first | (dsimp only; omega) | (simp; done) | (simp; omega)) _))))⟩
    · go_ret2
      exact ⟨l, by rw [resD_over HG.out (by omega)]; rfl, fun _ => HG.out, fun h => absurd (HV.out.symm.trans h) (by simp), by (first | ((repeat' with_reducible first | assumption | exact Below.refl _ _ | apply Blw.alloc | apply Blw.drew | apply Blw.drewN | (refine Blw.after ?_ (by assumption)) | (refine Blw.set ?_ (by first | (dsimp only; omega) | (simp; omega)) _)); done) | (repeat' (first | assumption | exact Below.refl _ _ | apply Blw.alloc | apply Blw.drew | apply Blw.drewN | (refine Blw.after ?_ (by assumption)) | (refine Blw.set ?_ (by first | (dsimp only; omega) | (simp; done) | (simp; omega)) _))))⟩
  · have HV := Lib.hid hv
    go_enter Tryz.func135, Tryz.ntmps135
    go_wp2_with (first | (go_at_call 66; refine (iDigitsValid_c _ _).mono ?_; rintro e w1 ⟨rfl, hb⟩; obtain ⟨hc, hf⟩ := bcell hb; have hz := bsize hb; have hs := hb.size; try simp at hs))
    go_ret2
    exact ⟨[], rfl, fun h => absurd (HV.out.symm.trans h) (by simp), fun _ => rfl, by (first | ((repeat' with_reducible first | assumption | exact Below.refl _ _ | apply Blw.alloc | apply Blw.drew | apply Blw.drewN | (refine Blw.after ?_ (by assumption)) | (refine Blw.set ?_ (by first | (dsimp only; omega) | (simp; omega)) _)); done) | (repeat' (first | assumption | exact Below.refl _ _ | apply Blw.alloc | apply Blw.drew | apply Blw.drewN | (refine Blw.after ?_ (by assumption)) | (refine Blw.set ?_ (by first | (dsimp only; omega) | (simp; done) | (simp; omega)) _))))⟩
theorem Next_same {s : ByteArray} {l m : List UInt8} (h1 : vldB s = true → Good l (idxF (toL s) + 1)) (h2 : vldB s = false → l = []) (k1 : vldB s = true → Good m (idxF (toL s) + 1)) (k2 : vldB s = false → m = []) : l = m := by
  rcases Bool.eq_false_or_eq_true (vldB s) with hv | hv
  · exact good_unique _ _ _ (h1 hv) (k1 hv)
  · rw [h2 hv, k2 hv]
end Go.Proofs.YtmondgcehgmamaaGreatDoor

namespace Go.Proofs.YtmondgcehgmamaaGreatDoor
set_option linter.unusedSimpArgs false
set_option linter.unusedVariables false
open Go.ChangeShapes Go.WideShapes Go.ChangeAt Go.RowKit Go.Joins

set_option maxRecDepth 10000 in
theorem two_second {W : World} {x : String × DataW Unit} {r : List (String × DataW Unit)} (h : laidMetH Tryz.prog (x :: ("math/bits.deBruijn64tab", Rows.laid_math_bits_deBruijn64tab) :: r) W) (hp : ∀ W, laidMetH Tryz.prog (x :: ("math/bits.deBruijn64tab", Rows.laid_math_bits_deBruijn64tab) :: r) W = laidMet Tryz.prog (x :: ("math/bits.deBruijn64tab", Rows.laid_math_bits_deBruijn64tab) :: r) W) : Two W := by
  rw [hp] at h
  have h2 := h.tail
  obtain ⟨ps, ⟨g, t, cs, fuel, p, q, hg, ht, hv, hd, _, _⟩, _, _⟩ := h2
  obtain rfl := Option.some.inj (d64At.symm.trans hg)
  obtain rfl := Option.some.inj (d64Type.symm.trans ht)
  have hds : ∃ ds, (Rows.laid_math_bits_deBruijn64tab : DataW Unit) = .agg ds ∧ ds[1]? = some (.lit (.int .u8 1)) := ⟨_, rfl, rfl⟩
  obtain ⟨ds, e, e1⟩ := hds
  rw [e] at hd
  obtain ⟨m, q, h1⟩ := rd_array Tryz.underlying245 hd (i := 1) (by decide) e1
  rw [cellsU8] at h1
  have a := rd_int Tryz.underlying5 h1
  have a1 : cs.toList[1]? = some (.int .u8 1) := by
    have e : ((cs.toList.drop (1 * 1)).take 1)[0]? = some (.int .u8 1) := by rw [a]; rfl
    rw [List.getElem?_take, if_pos (by omega), List.getElem?_drop] at e
    simpa using e
  have hat : ∀ (i : Nat) (v : Value), cs.toList[i]? = some v → W.cell? ⟨7, i, none⟩ = some v := fun i v hi => by
    rw [World.var?_cell d64At hv i]; simpa using hi
  exact hat 1 _ a1
theorem Two.pos {w : World} (h : Two w) : 7 < w.heap.size := World.block_lt_of_cell? w _ h
end Go.Proofs.YtmondgcehgmamaaGreatDoor

namespace Go.Proofs.YtmondgcehgmamaaGreatDoor
set_option linter.unusedSimpArgs false
set_option linter.unusedVariables false
open Go.ChangeShapes Go.WideShapes Go.ChangeAt Go.RowKit Go.Joins

theorem gif_of_laid {n nm : String} {d : DataW Unit} {r : List (String × DataW Unit)} {W : World} {g : Nat} {ti : TypeId} {ms : Array (String × TypeId)} (h : laidMet Tryz.prog ((n, .iface nm d) :: r) W)
    (hg : Tryz.prog.globalNamed n = some g) (ht : (Tryz.prog.globals[g]?).map (·.type) = some ti) (hi : Tryz.prog.underlying ti = some (.interface ms)) : GIf g W := by
  obtain ⟨ps, ⟨g0, t0, cs, f0, p0, q0, hg0, ht0, hv, hd, _, _⟩, _, _⟩ := h
  obtain rfl := Option.some.inj (hg.symm.trans hg0)
  obtain rfl := Option.some.inj (ht.symm.trans ht0)
  obtain ⟨u, v, e⟩ := iface_of_trod hi hd
  refine ⟨.iface u v, ?_, .inr ⟨u, v, rfl⟩⟩
  rw [World.var?_cell hg hv 0]
  have : cs.toList[0]? = some (.iface u v) := by rw [e]; rfl
  simpa using this
set_option maxRecDepth 10000 in
theorem gx_laid {W : World} {x0 x3 : String × DataW Unit} {r : List (String × DataW Unit)}
    (hS : W.ShapedOpen Tryz.prog) (hL : laidMet Tryz.prog (x0 :: ("math/bits.deBruijn64tab", Rows.laid_math_bits_deBruijn64tab) :: ("internal/strconv.uint64pow10", Rows.laid_internal_strconv_uint64pow10) :: x3 :: ("strconv.ErrRange", Rows.laid_strconv_ErrRange) :: ("strconv.ErrSyntax", Rows.laid_strconv_ErrSyntax) :: ("loop.example/dragonnumbers/impl.adder", Rows.laid_loop_example_dragonnumbers_impl_adder) :: r) W)
    (h2 : Two W) (hT : Tz W) : Gx W := by
  have h4 := hL.tail.tail.tail.tail
  have hr : GIf 9 W := gif_of_laid h4 (by kernel_rfl) (ti := 53) (by kernel_rfl) Tryz.underlying53
  have hy : GIf 8 W := gif_of_laid h4.tail (by kernel_rfl) (ti := 53) (by kernel_rfl) Tryz.underlying53
  have ha := h4.tail.tail
  refine ⟨?_, h2, hT, ?_, hy, hr, ?_, ?_⟩
  · obtain ⟨ps, ⟨g, t, cs, fuel, p, q, hg, ht, hv, hd, _, _⟩, _, _⟩ := ha
    obtain rfl := Option.some.inj (adderAt.symm.trans hg)
    obtain rfl := Option.some.inj (adderType.symm.trans ht)
    exact tab_of_read hv hd
  · exact cell_of_shapedOpen_int (P := Tryz.prog) (g := 2) (t := 3) (zero := #[.int .i64 0]) hS (of_decide_eq_true (by kernel_rfl)) (by kernel_rfl) rfl (by kernel_rfl) (by kernel_rfl) Tryz.underlying3
  · exact Lib.tabIs_of_head (g := 3) (n := 20) (by kernel_rfl) (by kernel_rfl) Tryz.underlying205 Tryz.underlying157 (by kernel_rfl) (by kernel_rfl) hL.tail.tail
  · obtain ⟨ev, h, _⟩ := hr
    exact World.block_lt_of_cell? W _ h
end Go.Proofs.YtmondgcehgmamaaGreatDoor

namespace Go.Proofs.YtmondgcehgmamaaGreatDoor
set_option linter.unusedSimpArgs false
set_option linter.unusedVariables false
open Go.RowKit

/-- the bytes of a slice lie in w -/
def Bytes (sv : Value) (len : Nat) (w : World) : Prop :=
  ∃ a cap, sv = .slice a len cap ∧ (len = 0 ∨ ∃ b off, a = some ⟨b, off, none⟩ ∧ ∀ i, i < len → ∃ z : Int, w.cell? ⟨b, off + i, none⟩ = some (.int .u8 z) ∧ 0 ≤ z ∧ z ≤ 255)

/-- the reader in block rb stands at p -/
def Rd (rb : Nat) (sv : Value) (p : Int) (w : World) : Prop :=
  w.cell? ⟨rb, 0, none⟩ = some sv ∧ w.cell? ⟨rb, 1, none⟩ = some (.int .i64 p) ∧ w.frozen? ⟨rb, 0, none⟩ = false ∧ w.frozen? ⟨rb, 1, none⟩ = false

theorem xor_i64_nat (a b : Nat) (ha : a < 9223372036854775808) (hb : b < 9223372036854775808) : bits .xor .i64 (a : Int) (b : Int) = ((a ^^^ b : Nat) : Int) := by
  have hx : a ^^^ b < 2 ^ 63 := Nat.xor_lt_two_pow (by omega) (by omega)
  have h1 : (BitVec.ofInt 64 (a : Int)).toNat = a := by
    rw [BitVec.ofInt_natCast, BitVec.toNat_ofNat]; exact Nat.mod_eq_of_lt (by omega)
  have h2 : (BitVec.ofInt 64 (b : Int)).toNat = b := by
    rw [BitVec.ofInt_natCast, BitVec.toNat_ofNat]; exact Nat.mod_eq_of_lt (by omega)
  show IntKind.i64.wrap ((BitVec.ofInt 64 (a : Int) ^^^ BitVec.ofInt 64 (b : Int)).toNat : Int) = _
  rw [BitVec.toNat_xor, h1, h2, IntKind.wrap_i64]
  omega
theorem xor_i64_pos {a b : Int} (ha : 0 ≤ a ∧ a ≤ 1000000000000) (hb : 0 ≤ b ∧ b ≤ 1000000000000) : 0 ≤ bits .xor .i64 a b := by
  obtain ⟨x, rfl⟩ := Int.eq_ofNat_of_zero_le ha.1
  obtain ⟨y, rfl⟩ := Int.eq_ofNat_of_zero_le hb.1
  rw [xor_i64_nat x y (by omega) (by omega)]
  omega
theorem tmod_pick {x n : Int} (hx : 0 ≤ x) (hn : 1 ≤ n) : 0 ≤ x.tmod n ∧ x.tmod n < n := by
  rw [Int.tmod_eq_emod_of_nonneg hx]
  exact ⟨Int.emod_nonneg _ (by omega), Int.emod_lt_of_pos _ (by omega)⟩

/-- what a pick does: a number below n; block rb alone has changed, and there the place -/
def Picked (n : Int) (rb : Nat) (p : Int) (w : World) (e : Ending) (w' : World) : Prop :=
  ∃ (k : Int) (m : Nat), 0 ≤ k ∧ (k < n ∨ k = 0) ∧ e = .returned (.int .i64 k) ∧ w' = (w.setCell ⟨rb, 1, none⟩ (.int .i64 (p + 1))).drewN m

set_option maxHeartbeats 2000000 in
theorem pick_none (rb : Nat) (a : Option Addr) (cap : Nat) (p n : Int) (w : World) (h : Rd rb (.slice a 0 cap) p w) (hp : 0 ≤ p ∧ p ≤ 1000000) (hn : 1 ≤ n) :
    Calls Tryz.prog 28 #[.pointer (some ⟨rb, 0, none⟩), .int .i64 n] w (Picked n rb p w) := by
  obtain ⟨c0, c1, f0, f1⟩ := h
  obtain ⟨p1, p2⟩ := hp
  go_enter Tryz.func28, Tryz.ntmps28
  go_wp2
  go_ret
  exact ⟨0, 0, by omega, Or.inr rfl, rfl, rfl⟩

set_option maxHeartbeats 2000000 in
theorem pick_in (rb b off len cap : Nat) (p n z : Int) (w : World) (h : Rd rb (.slice (some ⟨b, off, none⟩) len cap) p w) (hp : 0 ≤ p ∧ p < len) (hl : len ≤ 2000) (hn : 1 ≤ n) (hn2 : n ≤ 1000000) (hb : b ≠ rb)
    (hz : w.cell? ⟨b, off + p.toNat, none⟩ = some (.int .u8 z)) (hz1 : 0 ≤ z) (hz2 : z ≤ 255) :
    Calls Tryz.prog 28 #[.pointer (some ⟨rb, 0, none⟩), .int .i64 n] w (Picked n rb p w) := by
  obtain ⟨c0, c1, f0, f1⟩ := h
  obtain ⟨p1, p2⟩ := hp
  have hlen : ((len : Int) == 0) = false := by simp; omega
  go_enter Tryz.func28, Tryz.ntmps28
  go_wp2
  go_ret
  have e1 := Int.emod_nonneg z (show n ≠ 0 by omega)
  have e2 := Int.emod_lt_of_pos z (show 0 < n by omega)
  exact ⟨z % n, 0, e1, Or.inl e2, rfl, rfl⟩

set_option maxHeartbeats 4000000 in
theorem pick_out (rb b off len cap : Nat) (p n z1 z2 : Int) (w : World) (h : Rd rb (.slice (some ⟨b, off, none⟩) len cap) p w) (hp : (len : Int) ≤ p ∧ p ≤ 1000000) (hl : len ≤ 2000) (hl0 : 1 ≤ len) (hn : 1 ≤ n) (hn2 : n ≤ 1000000) (hb : b ≠ rb)
    (hz : w.cell? ⟨b, off + (p % (len : Int)).toNat, none⟩ = some (.int .u8 z1)) (hz1 : 0 ≤ z1 ∧ z1 ≤ 255)
    (hy : w.cell? ⟨b, off + ((p * 7 + 3) % (len : Int)).toNat, none⟩ = some (.int .u8 z2)) (hy1 : 0 ≤ z2 ∧ z2 ≤ 255) :
    Calls Tryz.prog 28 #[.pointer (some ⟨rb, 0, none⟩), .int .i64 n] w (Picked n rb p w) := by
  obtain ⟨c0, c1, f0, f1⟩ := h
  obtain ⟨p1, p2⟩ := hp
  obtain ⟨y1, y2⟩ := hz1
  obtain ⟨y3, y4⟩ := hy1
  have hlen : ((len : Int) == 0) = false := by simp; omega
  have a1 := Int.emod_nonneg p (show (len : Int) ≠ 0 by omega)
  have a2 := Int.emod_lt_of_pos p (show 0 < (len : Int) by omega)
  have a3 := Int.emod_nonneg (p * 7 + 3) (show (len : Int) ≠ 0 by omega)
  have a4 := Int.emod_lt_of_pos (p * 7 + 3) (show 0 < (len : Int) by omega)
  have a5 : 0 ≤ p / (len : Int) := Int.ediv_nonneg (by omega) (by omega)
  have a6 : p / (len : Int) ≤ p := Int.ediv_le_self _ (by omega)
  go_enter Tryz.func28, Tryz.ntmps28
  go_wp2
  go_quiet (fail)
  go_wp2
  go_ret
  have t := tmod_pick (x := bits .xor .i64 (z1 * 131 + z2 * 1117 + p * 29 + p / (len : Int) * 53) ((z1 * 131 + z2 * 1117 + p * 29 + p / (len : Int) * 53) / 64)) (n := n) (xor_i64_pos ⟨by omega, by omega⟩ ⟨by omega, by omega⟩) hn
  exact ⟨_, _, t.1, Or.inl t.2, rfl, rfl⟩

/-- the bytes that the reader reads, in the world in which they lay; block rb is another -/
def Src (sv : Value) (rb : Nat) (w : World) : Prop :=
  ∃ (a : Option Addr) (len cap : Nat), sv = .slice a len cap ∧ len ≤ 2000 ∧ (len = 0 ∨ ∃ b off, a = some ⟨b, off, none⟩ ∧ b ≠ rb ∧ ∀ i, i < len → ∃ z : Int, w.cell? ⟨b, off + i, none⟩ = some (.int .u8 z) ∧ 0 ≤ z ∧ z ≤ 255)

theorem pick_c (rb : Nat) (sv : Value) (p n : Int) (w : World) (hs : Src sv rb w) (h : Rd rb sv p w) (hp : 0 ≤ p ∧ p ≤ 1000000) (hn : 1 ≤ n ∧ n ≤ 1000000) :
    Calls Tryz.prog 28 #[.pointer (some ⟨rb, 0, none⟩), .int .i64 n] w (Picked n rb p w) := by
  obtain ⟨a, len, cap, rfl, hl, hs⟩ := hs
  by_cases h0 : len = 0
  · subst h0
    exact pick_none rb a cap p n w h hp hn.1
  · have hpos : 0 < (len : Int) := Int.natCast_pos.2 (Nat.pos_of_ne_zero h0)
    have a0 : (len : Int) ≠ 0 := Int.ne_of_gt hpos
    have a1 := Int.emod_nonneg p a0
    have a2 := Int.emod_lt_of_pos p hpos
    have a3 := Int.emod_nonneg (p * 7 + 3) a0
    have a4 := Int.emod_lt_of_pos (p * 7 + 3) hpos
    have i1 : (p % (len : Int)).toNat < len := by clear hs; omega
    have i2 : ((p * 7 + 3) % (len : Int)).toNat < len := by clear hs; omega
    have i3 : 1 ≤ len := Nat.pos_of_ne_zero h0
    have i4 : p < len → p.toNat < len := by clear hs; intro h; omega
    obtain ⟨b, off, rfl, hb, hz⟩ := hs.resolve_left h0
    by_cases hlt : p < len
    · obtain ⟨z, z1, z2, z3⟩ := hz p.toNat (i4 hlt)
      exact pick_in rb b off len cap p n z w h ⟨hp.1, hlt⟩ hl hn.1 hn.2 hb z1 z2 z3
    · obtain ⟨z, z1, z2, z3⟩ := hz (p % (len : Int)).toNat i1
      obtain ⟨y, y1, y2, y3⟩ := hz ((p * 7 + 3) % (len : Int)).toNat i2
      exact pick_out rb b off len cap p n z y w h ⟨Int.not_lt.1 hlt, hp.2⟩ hl i3 hn.1 hn.2 hb z1 ⟨z2, z3⟩ y1 ⟨y2, y3⟩

/-- block rb alone may have changed, and new blocks may be there -/
def Moved (rb : Nat) (w w' : World) : Prop :=
  w.heap.size ≤ w'.heap.size ∧ (∀ b o, b < w.heap.size → b ≠ rb → w'.cell? ⟨b, o, none⟩ = w.cell? ⟨b, o, none⟩) ∧ (∀ b o, b < w.heap.size → b ≠ rb → w'.frozen? ⟨b, o, none⟩ = w.frozen? ⟨b, o, none⟩) ∧
    ∀ W0 : World, Below W0.heap.size W0 w → W0.heap.size ≤ rb → Below W0.heap.size W0 w'
theorem Moved.refl (rb : Nat) (w : World) : Moved rb w w := ⟨Nat.le_refl _, fun _ _ _ _ => rfl, fun _ _ _ _ => rfl, fun _ h _ => h⟩
theorem Moved.trans {rb : Nat} {w w1 w2 : World} (h : Moved rb w w1) (k : Moved rb w1 w2) : Moved rb w w2 :=
  ⟨Nat.le_trans h.1 k.1, fun b o hb hn => (k.2.1 b o (Nat.lt_of_lt_of_le hb h.1) hn).trans (h.2.1 b o hb hn), fun b o hb hn => (k.2.2.1 b o (Nat.lt_of_lt_of_le hb h.1) hn).trans (h.2.2.1 b o hb hn), fun W0 h0 hr => k.2.2.2 W0 (h.2.2.2 W0 h0 hr) hr⟩
theorem Moved.below {rb : Nat} {w w1 w2 : World} (h : Moved rb w w1) (k : Below w1.heap.size w1 w2) : Moved rb w w2 :=
  ⟨Nat.le_trans h.1 k.size, fun b o hb hn => (k.cell (p := ⟨b, o, none⟩) (Nat.lt_of_lt_of_le hb h.1)).trans (h.2.1 b o hb hn), fun b o hb hn => (k.frozen (p := ⟨b, o, none⟩) (Nat.lt_of_lt_of_le hb h.1)).trans (h.2.2.1 b o hb hn),
    fun W0 h0 hr => Blw.after (h.2.2.2 W0 h0 hr) k⟩
theorem Moved.set {rb : Nat} {w w1 : World} (h : Moved rb w w1) {a : Addr} (ha : w.heap.size ≤ a.block) (hr : rb < w.heap.size) (u : Value) : Moved rb w (w1.setCell a u) :=
  ⟨by simpa [World.setCell] using h.1, fun b o hb hn => (World.cell?_of_block (w := w1) (a := ⟨b, o, none⟩) (Below.heap_setCell _ _ _ _ (by show b ≠ a.block; omega))).trans (h.2.1 b o hb hn),
    fun b o hb hn => (World.frozen?_of_block (w := w1) (a := ⟨b, o, none⟩) (Below.heap_setCell _ _ _ _ (by show b ≠ a.block; omega))).trans (h.2.2.1 b o hb hn), fun W0 h0 hr0 => Blw.set (h.2.2.2 W0 h0 hr0) (by omega) u⟩
theorem Moved.alloc {rb : Nat} {w w1 : World} (h : Moved rb w w1) (o : Obj) : Moved rb w (w1.alloc o) := h.below ((Below.refl _ _).alloc (Nat.le_refl _) _)
theorem Moved.drewN {rb : Nat} {w w1 : World} (m : Nat) (h : Moved rb w w1) : Moved rb w (w1.drewN m) := h.below (Blw.drewN m (Below.refl _ _))
theorem Moved.drew {rb : Nat} {w w1 : World} (h : Moved rb w w1) : Moved rb w w1.drew := h.below (Below.refl _ _).drew

theorem Rd.keep {rb : Nat} {sv : Value} {p : Int} {w w' : World} (h : Rd rb sv p w) (hb : Below w.heap.size w w') : Rd rb sv p w' := by
  obtain ⟨c0, c1, f0, f1⟩ := h
  have hl := World.block_lt_of_cell? w _ c0
  exact ⟨keepcell hb c0, keepcell hb c1, ((bcell hb).2 _ _ hl).trans f0, ((bcell hb).2 _ _ hl).trans f1⟩
theorem Src.keep {rb : Nat} {sv : Value} {w w' : World} (h : Src sv rb w) (hb : Below w.heap.size w w') : Src sv rb w' := by
  obtain ⟨a, len, cap, rfl, hl, hs⟩ := h
  refine ⟨a, len, cap, rfl, hl, hs.imp id ?_⟩
  rintro ⟨b, off, rfl, hn, hz⟩
  refine ⟨b, off, rfl, hn, fun i hi => ?_⟩
  obtain ⟨z, z1, z2⟩ := hz i hi
  exact ⟨z, keepcell hb z1, z2⟩

/-- what a pick leaves: the reader one place on, and block rb alone changed -/
def Drawn (X : Value → Prop) (q : Int) (rb : Nat) (sv : Value) (p : Int) (w : World) (e : Ending) (w' : World) : Prop :=
  ∃ (v : Value) (p' : Int), X v ∧ e = .returned v ∧ p ≤ p' ∧ p' ≤ p + q ∧ Rd rb sv p' w' ∧ Src sv rb w' ∧ Moved rb w w'
def IntTo (n : Int) (v : Value) : Prop := ∃ k : Int, v = .int .i64 k ∧ 0 ≤ k ∧ (k < n ∨ k = 0)

theorem pick_d (rb : Nat) (sv : Value) (p n : Int) (w : World) (hs : Src sv rb w) (h : Rd rb sv p w) (hp : 0 ≤ p ∧ p ≤ 1000000) (hn : 1 ≤ n ∧ n ≤ 1000000) :
    Calls Tryz.prog 28 #[.pointer (some ⟨rb, 0, none⟩), .int .i64 n] w (Drawn (IntTo n) 1 rb sv p w) := by
  refine (pick_c rb sv p n w hs h hp hn).mono fun e w' hP => ?_
  obtain ⟨k, m, h1, h2, rfl, rfl⟩ := hP
  have hc : ∀ b o, b ≠ rb → ((w.setCell ⟨rb, 1, none⟩ (.int .i64 (p + 1))).drewN m).cell? ⟨b, o, none⟩ = w.cell? ⟨b, o, none⟩ := fun b o hb => World.cell?_of_block (w := w) (a := ⟨b, o, none⟩) (Below.heap_setCell _ _ _ _ hb)
  have hf : ∀ b o, b ≠ rb → ((w.setCell ⟨rb, 1, none⟩ (.int .i64 (p + 1))).drewN m).frozen? ⟨b, o, none⟩ = w.frozen? ⟨b, o, none⟩ := fun b o hb => World.frozen?_of_block (w := w) (a := ⟨b, o, none⟩) (Below.heap_setCell _ _ _ _ hb)
  obtain ⟨c0, c1, f0, f1⟩ := h
  refine ⟨_, p + 1, ⟨k, rfl, h1, h2⟩, rfl, by omega, by omega, ⟨by go_simp, by go_simp, by go_simp, by go_simp⟩, ?_, by simp [World.drewN, World.setCell], fun b o _ hb => hc b o hb, fun b o _ hb => hf b o hb, fun W0 hb h0 => Blw.drewN _ (Blw.set hb h0 _)⟩
  obtain ⟨a, len, cap, rfl, hl, hs⟩ := hs
  refine ⟨a, len, cap, rfl, hl, hs.imp id ?_⟩
  rintro ⟨b, off, rfl, hb, hz⟩
  exact ⟨b, off, rfl, hb, fun i hi => by rw [hc _ _ hb]; exact hz i hi⟩

/-- the law's argument: a list of bytes that lies in w -/
def Code (v : Value) (w : World) : Prop :=
  ∃ (a : Option Addr) (len cap : Nat), v = .slice a len cap ∧ len ≤ cap ∧ len ≤ 1048576 ∧ (len = 0 ∨ ∃ b off, a = some ⟨b, off, none⟩ ∧ ∀ i, i < len → ∃ z : Int, w.cell? ⟨b, off + i, none⟩ = some (.int .u8 z) ∧ 0 ≤ z ∧ z ≤ 255)
theorem Code.keep {v : Value} {w w' : World} (h : Code v w) (hb : Below w.heap.size w w') : Code v w' := by
  obtain ⟨a, len, cap, rfl, h1, h2, h3⟩ := h
  refine ⟨a, len, cap, rfl, h1, h2, h3.imp id ?_⟩
  rintro ⟨b, off, rfl, hz⟩
  refine ⟨b, off, rfl, fun i hi => ?_⟩
  obtain ⟨z, z1, z2⟩ := hz i hi
  exact ⟨z, keepcell hb z1, z2⟩
/-- what l6Open gives: a reader at the beginning, in a new block -/
def Opened (w : World) (e : Ending) (w' : World) : Prop :=
  ∃ sv, e = .returned (.pointer (some ⟨w.heap.size, 0, none⟩)) ∧ Rd w.heap.size sv 0 w' ∧ Src sv w.heap.size w' ∧ w'.heap.size = w.heap.size + 1 ∧ Below w.heap.size w w'
theorem l6Open_c (v : Value) (w : World) (h : Code v w) : Calls Tryz.prog 27 #[v] w (Opened w) := by
  obtain ⟨a, len, cap, rfl, h1, h2, h3⟩ := h
  by_cases h0 : len = 0
  · subst h0
    go_enter Tryz.func27, Tryz.ntmps27
    go_wp2
    go_ret
    refine ⟨.slice a 0 cap, rfl, ⟨by go_simp, by go_simp, by rw [frozen?_alloc_cells]; simp [World.frozen?], by rw [frozen?_alloc_cells]; simp [World.frozen?]⟩, ⟨a, 0, cap, rfl, by omega, Or.inl rfl⟩, by simp, (Below.refl _ _).alloc (Nat.le_refl _) _⟩
  · obtain ⟨b, off, rfl, hz⟩ := h3.resolve_left h0
    have hl : b < w.heap.size := by
      obtain ⟨z, z1, -⟩ := hz 0 (by omega)
      exact World.block_lt_of_cell? w _ z1
    have HZ := Lib.hid hz
    clear hz
    have key : ∀ n, n ≤ len → ∀ i, i < n → ∃ z : Int, (w.alloc (.cells #[.slice (some ⟨b, off, none⟩) n cap, .int .i64 0] 76)).cell? ⟨b, off + i, none⟩ = some (.int .u8 z) ∧ 0 ≤ z ∧ z ≤ 255 := by
      intro n hn i hi
      obtain ⟨z, z1, z2⟩ := HZ.out i (by omega)
      exact ⟨z, keepcell ((Below.refl _ _).alloc (Nat.le_refl _) _) z1, z2⟩
    by_cases hb : 2000 < len
    · go_enter Tryz.func27, Tryz.ntmps27
      go_wp2
      go_ret
      exact ⟨.slice (some ⟨b, off, none⟩) 2000 cap, rfl, ⟨by go_simp, by go_simp, by rw [frozen?_alloc_cells]; simp [World.frozen?], by rw [frozen?_alloc_cells]; simp [World.frozen?]⟩, ⟨_, 2000, cap, rfl, by omega, Or.inr ⟨b, off, rfl, by omega, key 2000 (by omega)⟩⟩, by simp, (Below.refl _ _).alloc (Nat.le_refl _) _⟩
    · go_enter Tryz.func27, Tryz.ntmps27
      go_wp2
      go_ret
      exact ⟨.slice (some ⟨b, off, none⟩) len cap, rfl, ⟨by go_simp, by go_simp, by rw [frozen?_alloc_cells]; simp [World.frozen?], by rw [frozen?_alloc_cells]; simp [World.frozen?]⟩, ⟨_, len, cap, rfl, by omega, Or.inr ⟨b, off, rfl, by omega, key len (by omega)⟩⟩, by simp, (Below.refl _ _).alloc (Nat.le_refl _) _⟩

theorem Moved.cell {rb : Nat} {w w' : World} (h : Moved rb w w') {b o : Nat} {v : Value} (hb : b < w.heap.size) (hn : b ≠ rb) (hv : w.cell? ⟨b, o, none⟩ = some v) : w'.cell? ⟨b, o, none⟩ = some v := (h.2.1 b o hb hn).trans hv
theorem Moved.froz {rb : Nat} {w w' : World} (h : Moved rb w w') {b o : Nat} {v : Bool} (hb : b < w.heap.size) (hn : b ≠ rb) (hv : w.frozen? ⟨b, o, none⟩ = v) : w'.frozen? ⟨b, o, none⟩ = v := (h.2.2.1 b o hb hn).trans hv
theorem Src.moved {sv : Value} {rb : Nat} {w w' : World} (h : Src sv rb w) (k : Moved rb w w') : Src sv rb w' := by
  obtain ⟨a, len, cap, rfl, hl, hs⟩ := h
  refine ⟨a, len, cap, rfl, hl, hs.imp id ?_⟩
  rintro ⟨b, off, rfl, hn, hz⟩
  refine ⟨b, off, rfl, hn, fun i hi => ?_⟩
  obtain ⟨z, z1, z2⟩ := hz i hi
  exact ⟨z, k.cell (World.block_lt_of_cell? w _ z1) hn z1, z2⟩
theorem Rd.set {rb : Nat} {sv : Value} {p : Int} {w : World} (h : Rd rb sv p w) {a : Addr} (ha : a.block ≠ rb) (u : Value) : Rd rb sv p (w.setCell a u) := by
  have hc : ∀ o, (w.setCell a u).cell? ⟨rb, o, none⟩ = w.cell? ⟨rb, o, none⟩ := fun o => World.cell?_of_block (w := w) (a := ⟨rb, o, none⟩) (Below.heap_setCell _ _ _ _ (Ne.symm ha))
  have hf : ∀ o, (w.setCell a u).frozen? ⟨rb, o, none⟩ = w.frozen? ⟨rb, o, none⟩ := fun o => World.frozen?_of_block (w := w) (a := ⟨rb, o, none⟩) (Below.heap_setCell _ _ _ _ (Ne.symm ha))
  exact ⟨(hc 0).trans h.1, (hc 1).trans h.2.1, (hf 0).trans h.2.2.1, (hf 1).trans h.2.2.2⟩

/-- some Gauss, a little wider than the model's bound -/
def GaussV (v : Value) : Prop := ∃ x y : Int, v = .agg #[.int .i64 x, .int .i64 y] ∧ (-1000001 ≤ x ∧ x ≤ 1000001) ∧ (-1000001 ≤ y ∧ y ≤ 1000001)
end Go.Proofs.YtmondgcehgmamaaGreatDoor

namespace Go.Proofs.YtmondgcehgmamaaGreatDoor
set_option linter.unusedSimpArgs false
set_option linter.unusedVariables false
open Go.RowKit

/-- what a draw of one Gauss leaves -/
def One (w : World) (e : Ending) (w' : World) : Prop :=
  ∃ x y : Int, e = .returned (.agg #[.int .i64 x, .int .i64 y]) ∧ (-1000001 ≤ x ∧ x ≤ 1000001) ∧ (-1000001 ≤ y ∧ y ≤ 1000001) ∧ Below w.heap.size w w'

end Go.Proofs.YtmondgcehgmamaaGreatDoor

namespace Go.Proofs.YtmondgcehgmamaaGreatDoor
set_option linter.unusedSimpArgs false
set_option linter.unusedVariables false
open Go.RowKit

def StrTo (K : Nat) (v : Value) : Prop := ∃ t : ByteArray, v = .string t ∧ t.size ≤ K
def Strs (K b n : Nat) (w : World) : Prop := ∀ i, i < n → ∃ t : ByteArray, w.cell? ⟨b, i, none⟩ = some (.string t) ∧ t.size ≤ K
theorem Moved.strs {rb K b n : Nat} {w w' : World} (h : Moved rb w w') (hb : b ≠ rb) (k : Strs K b n w) : Strs K b n w' := fun i hi => by
  obtain ⟨t, h1, h2⟩ := k i hi
  exact ⟨t, h.cell (World.block_lt_of_cell? w _ h1) hb h1, h2⟩
set_option maxHeartbeats 1000000 in
theorem of_c (rb : Nat) (sv : Value) (p : Int) (K b n cap : Nat) (w : World) (hs : Src sv rb w) (h : Rd rb sv p w) (hp : 0 ≤ p ∧ p ≤ 1000000) (hn : 1 ≤ n ∧ n ≤ 1000) (hb : b ≠ rb) (hK : Strs K b n w) :
    Calls Tryz.prog 53 #[.pointer (some ⟨rb, 0, none⟩), .slice (some ⟨b, 0, none⟩) n cap] w (Drawn (StrTo K) 1 rb sv p w) := by
  go_enter Tryz.func53, Tryz.ntmps53
  go_wp2_with fail
  refine (pick_d rb sv p n w hs h hp ⟨by omega, by omega⟩).mono ?_
  rintro e W1 ⟨v, p1, ⟨k, rfl, k0, k1⟩, rfl, q0, q1, h1, -, m1⟩
  obtain ⟨j, rfl⟩ : ∃ j : Nat, k = (j : Int) := ⟨k.toNat, by omega⟩
  have hj : j < n := by omega
  obtain ⟨t, ht, ht2⟩ := m1.strs hb hK j hj
  go_wp2_with fail
  go_ret
  exact ⟨_, p1, ⟨t, rfl, ht2⟩, rfl, q0, q1, h1, hs.moved m1, m1⟩

theorem strs2 (w : World) (t : TypeId) : Strs 2 w.heap.size 2 (w.alloc (.cells #[.string ⟨#[48]⟩, .string ⟨#[49]⟩] t)) := by
  intro i hi
  match i, hi with
  | 0, _ => exact ⟨⟨#[48]⟩, by go_simp, by decide⟩
  | 1, _ => exact ⟨⟨#[49]⟩, by go_simp, by decide⟩
theorem strs7 (w : World) (t : TypeId) : Strs 2 w.heap.size 7 (w.alloc (.cells #[.string ⟨#[]⟩, .string ⟨#[48]⟩, .string ⟨#[48, 49]⟩, .string ⟨#[50]⟩, .string ⟨#[49, 32]⟩, .string ⟨#[48, 48]⟩, .string ⟨#[45, 49]⟩] t)) := by
  intro i hi
  match i, hi with
  | 0, _ => exact ⟨⟨#[]⟩, by go_simp, by decide⟩
  | 1, _ => exact ⟨⟨#[48]⟩, by go_simp, by decide⟩
  | 2, _ => exact ⟨⟨#[48, 49]⟩, by go_simp, by decide⟩
  | 3, _ => exact ⟨⟨#[50]⟩, by go_simp, by decide⟩
  | 4, _ => exact ⟨⟨#[49, 32]⟩, by go_simp, by decide⟩
  | 5, _ => exact ⟨⟨#[48, 48]⟩, by go_simp, by decide⟩
  | 6, _ => exact ⟨⟨#[45, 49]⟩, by go_simp, by decide⟩
def DrawRel (rb : Nat) (sv : Value) (p : Int) (n : Nat) (w : World) (m : Nat) (tv iv : Value) (wr : World) : Prop :=
  ∃ (i : Nat) (t : ByteArray) (p' : Int), i + m = n ∧ iv = .int .i64 i ∧ tv = .string t ∧ t.size ≤ 1 + 2 * i ∧ p ≤ p' ∧ p' ≤ p + i ∧ Rd rb sv p' wr ∧ Moved rb w wr
set_option maxHeartbeats 4000000 in
theorem l91Digits_c (rb : Nat) (sv : Value) (p most : Int) (w : World) (hs : Src sv rb w) (h : Rd rb sv p w) (hp : 0 ≤ p ∧ p ≤ 1000) (hm : 1 ≤ most ∧ most ≤ 100) :
    Calls Tryz.prog 54 #[.pointer (some ⟨rb, 0, none⟩), .int .i64 most] w (Drawn (StrTo 400) 110 rb sv p w) := by
  have hrb : rb < w.heap.size := World.block_lt_of_cell? w _ h.1
  go_enter Tryz.func54, Tryz.ntmps54
  go_wp2_with fail
  refine (pick_d rb sv p most w hs h ⟨by omega, by omega⟩ ⟨by omega, by omega⟩).mono ?_
  rintro e W1 ⟨v, p1, ⟨k, rfl, k0, k1⟩, rfl, q0, q1, h1, -, m1⟩
  obtain ⟨n, rfl⟩ : ∃ n : Nat, k = (n : Int) := ⟨k.toNat, by omega⟩
  have hn : n ≤ 100 := by omega
  have S0 := Lib.hid (show DrawRel rb sv p1 n W1 n (.string ⟨#[49]⟩) (.int .i64 0) W1 from ⟨0, ⟨#[49]⟩, p1, by omega, rfl, rfl, by decide, by omega, by omega, h1, Moved.refl _ _⟩)
  have HS := Lib.hid hs
  have M1 := Lib.hid m1
  clear h h1 m1 hs
  go_wp2_with fail
  go_loopg [5, 7] n (fun m tv iv wr => DrawRel rb sv p1 n W1 m tv iv wr)
  case atStart => exact S0.out
  case round =>
    clear S0
    obtain ⟨i, t, p2, hi, rfl, rfl, ht, r0, r1, h2, m2⟩ := hrel
    have M2 := Lib.hid (M1.out.trans m2)
    have m2' := Lib.hid m2
    have H2 := Lib.hid h2
    have z2 : rb < wr.heap.size := Nat.lt_of_lt_of_le hrb M2.out.1
    clear m2 h2
    by_cases hin : i < n
    · go_wp2_with fail
      have m0 := (Moved.refl rb wr).alloc (.cells #[.string ⟨#[48]⟩, .string ⟨#[49]⟩] 9)
      have hk := (Below.refl wr.heap.size wr).alloc (Nat.le_refl _) (.cells #[.string ⟨#[48]⟩, .string ⟨#[49]⟩] 9)
      have z0 : wr.heap.size ≠ rb := Nat.ne_of_gt z2
      refine (of_c rb sv p2 2 wr.heap.size 2 2 _ ((HS.out.moved M2.out).moved m0) (H2.out.keep hk) ⟨by omega, by omega⟩ ⟨by omega, by omega⟩ z0 (strs2 wr _)).mono ?_
      rintro e W3 ⟨v, p3, ⟨u, rfl, hu⟩, rfl, s0, s1, h3, -, m3⟩
      have M3 := Lib.hid (m2'.out.trans (m0.trans m3))
      have HT := Lib.hid (show (t ++ u).size ≤ 1 + 2 * (i + 1) by rw [ByteArray.size_append]; omega)
      have H3 := Lib.hid h3
      clear m0 hk z0 h3 m3
      go_wp2_with fail
      go_roundg (gk - 1)
      case measure => omega
      case rel => exact ⟨i + 1, t ++ u, p3, by omega, by go_num, rfl, HT.out, by omega, by omega, H3.out, M3.out⟩
    · go_wp2_with fail
      refine (pick_d rb sv p2 20 wr (HS.out.moved M2.out) H2.out ⟨by omega, by omega⟩ ⟨by omega, by omega⟩).mono ?_
      rintro e W3 ⟨v, p3, ⟨c, rfl, c0, c1⟩, rfl, s0, s1, h3, -, m3⟩
      have M3 := Lib.hid (M2.out.trans m3)
      have H3 := Lib.hid h3
      have z3 : rb < W3.heap.size := Nat.lt_of_lt_of_le hrb M3.out.1
      clear h3 m3
      have fin : ∀ (t : ByteArray) (w' : World) (p' : Int), t.size ≤ 400 → p ≤ p' → p' ≤ p + 110 → Rd rb sv p' w' → Moved rb w w' → Drawn (StrTo 400) 110 rb sv p w (.returned (.string t)) w' :=
        fun t w' p' ht hp1 hp2 hr hm => ⟨_, p', ⟨t, rfl, ht⟩, rfl, hp1, hp2, hr, HS.out.moved hm, hm⟩
      by_cases e0 : c = 0
      · subst e0
        go_wp2_with fail
        have hk := (Below.refl W3.heap.size W3).alloc (Nat.le_refl _) (.cells #[.string ⟨#[]⟩, .string ⟨#[48]⟩, .string ⟨#[48, 49]⟩, .string ⟨#[50]⟩, .string ⟨#[49, 32]⟩, .string ⟨#[48, 48]⟩, .string ⟨#[45, 49]⟩] 9)
        have m0 := (Moved.refl rb W3).below hk
        have z0 : W3.heap.size ≠ rb := Nat.ne_of_gt z3
        refine (of_c rb sv p3 2 W3.heap.size 7 7 _ ((HS.out.moved M3.out).moved m0) (H3.out.keep hk) ⟨by omega, by omega⟩ ⟨by omega, by omega⟩ z0 (strs7 W3 _)).mono ?_
        rintro e W4 ⟨v, p4, ⟨u, rfl, hu⟩, rfl, y0, y1, h4, -, m4⟩
        have M4 := Lib.hid (M3.out.trans (m0.trans m4))
        have H4 := Lib.hid h4
        clear m0 hk z0 h4 m4
        go_wp2_with fail
        go_ret
        exact fin u _ p4 (by omega) (by omega) (by omega) H4.out M4.out
      by_cases e1 : c = 1
      · subst e1
        go_wp2_with fail
        go_ret
        exact fin _ _ p3 (by decide) (by omega) (by omega) H3.out M3.out
      by_cases e2 : c = 2
      · subst e2
        go_wp2_with fail
        go_ret
        exact fin _ _ p3 (by decide) (by omega) (by omega) H3.out M3.out
      · go_wp2_with fail
        go_ret
        exact fin t _ p3 (by omega) (by omega) (by omega) H3.out M3.out

/-- what a draw of one text leaves -/
def OneText (w : World) (e : Ending) (w' : World) : Prop := ∃ t : ByteArray, e = .returned (.string t) ∧ t.size ≤ 400 ∧ Below w.heap.size w w'
end Go.Proofs.YtmondgcehgmamaaGreatDoor

namespace Go.Proofs.YtmondgcehgmamaaGreatDoor
set_option linter.unusedSimpArgs false
set_option linter.unusedVariables false
open Go.RowKit

/-- what a draw of two texts leaves -/
def TwoTxt (w : World) (e : Ending) (w' : World) : Prop := ∃ t u : ByteArray, e = .returned (.tuple #[.string t, .string u]) ∧ t.size ≤ 400 ∧ u.size ≤ 400 ∧ Below w.heap.size w w'
set_option maxHeartbeats 1000000 in
theorem l91Pair_c (v : Value) (w : World) (h : Code v w) : Calls Tryz.prog 38 #[v] w (TwoTxt w) := by
  go_enter Tryz.func38, Tryz.ntmps38
  go_wp2_with fail
  refine (l6Open_c v w h).mono ?_
  rintro e W1 ⟨sv, rfl, hr, hs, hz, hb⟩
  go_wp2_with fail
  refine (pick_d w.heap.size sv 0 12 W1 hs hr ⟨by omega, by omega⟩ ⟨by omega, by omega⟩).mono ?_
  rintro e W2 ⟨v, p1, ⟨k, rfl, k0, k1⟩, rfl, q0, q1, h1, hs1, m1⟩
  have hk : k / 11 = 0 ∨ k / 11 = 1 := by omega
  rcases hk with hk | hk
  all_goals
    go_wp2_with fail
    refine (l91Digits_c w.heap.size sv p1 _ W2 hs1 h1 ⟨by omega, by omega⟩ ⟨by omega, by omega⟩).mono ?_
    rintro e W3 ⟨v', p2, ⟨t, rfl, ht⟩, rfl, r0, r1, h2, hs2, m2⟩
    go_wp2_with fail
    refine (l91Digits_c w.heap.size sv p2 12 W3 hs2 h2 ⟨by omega, by omega⟩ ⟨by omega, by omega⟩).mono ?_
    rintro e W4 ⟨v', p3, ⟨u, rfl, hu⟩, rfl, -, -, -, -, m3⟩
    have hB4 : Below w.heap.size w W4 := ((m1.trans m2).trans m3).2.2.2 w hb (Nat.le_refl _)
    go_wp2_with fail
    go_ret2
    exact ⟨t, u, rfl, ht, hu, hB4⟩
theorem drawDigitsAdd_c (v : Value) (w : World) (h : Code v w) : Calls Tryz.prog 15 #[v] w (TwoTxt w) := by
  go_enter Tryz.func15, Tryz.ntmps15
  go_wp2_with fail
  refine (l91Pair_c v w h).mono ?_
  rintro e W1 ⟨t, u, rfl, ht, hu, hb⟩
  go_wp2_with fail
  go_ret2
  exact ⟨t, u, rfl, ht, hu, hb⟩
end Go.Proofs.YtmondgcehgmamaaGreatDoor

namespace Go.Proofs.YtmondgcehgmamaaGreatDoor
set_option linter.unusedSimpArgs false
set_option linter.unusedVariables false
open Go.ChangeShapes Go.WideShapes Go.ChangeAt Go.RowKit Go.Joins

theorem laidOut : laidOutB Tryz.prog = true := by kernel_rfl
theorem cellsB : Tryz.prog.cellsOf 5 = 1 := by kernel_rfl

theorem code_of {H : Type} {enc : TypeId × Value → H} {W : World} {a : Option Addr} {len cap : Nat} {d : DataW H} {p : List MemPlace}
    (h : DataW.Trod enc Tryz.prog W 0 (fun _ => true) true 22 (.slice a len cap) d p) (hl : len ≤ 1048576) : Code (.slice a len cap) W := by
  obtain ⟨fuel, hf⟩ := h
  rcases open_ints Tryz.underlying22 Tryz.underlying5 cellsB hf with ⟨hcs, hx⟩ | ⟨a', len', cap', zs, hcs, _, h1, h2, hz, hx, hcell, hwz⟩
  · simp [Value.cells] at hcs
    obtain ⟨rfl, rfl, rfl⟩ := hcs
    exact ⟨none, 0, 0, rfl, Nat.le_refl _, by omega, Or.inl rfl⟩
  · simp [Value.cells] at hcs
    obtain ⟨rfl, rfl, rfl⟩ := hcs
    simp only [if_true] at hz
    refine ⟨_, _, _, rfl, h1, hl, ?_⟩
    by_cases h0 : len = 0
    · exact Or.inl h0
    right
    obtain ⟨b, off, s⟩ := a'
    obtain rfl : s = none := by simpa [Addr.add] using World.cell?_spot (hcell 0 (by omega))
    refine ⟨b, off, rfl, fun i hi => ⟨zs.getD i 0, ?_, ?_⟩⟩
    · have h := hcell i (by omega)
      rwa [add_plain] at h
    · have hm : zs.getD i 0 ∈ zs := by
        have : zs.getD i 0 = zs[i]'(by omega) := by simp [List.getD, show i < zs.length by omega]
        rw [this]; exact List.getElem_mem _
      have hw := hwz _ hm
      have e1 : IntKind.u8.min = 0 := rfl
      have e2 : IntKind.u8.max = 255 := rfl
      simp only [Lit.wf, Bool.and_eq_true, decide_eq_true_eq] at hw
      omega
end Go.Proofs.YtmondgcehgmamaaGreatDoor

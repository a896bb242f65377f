/- Chapter 5: CurveWord, the model's side. No law is stated here. -/
import Derived.Test.YtljmmmkehieboaaCwi
import Derived.Test.YtljmmmkehieboaaReg
namespace Go.Proofs.Ytljmmmkehieboaa
set_option linter.unusedSimpArgs false
set_option linter.unusedVariables false
open Go.RowKit Ieee

theorem ltr_cases (s t : Int × Int) : (ltr s t = some 108 ∧ eqP t (-s.2, s.1) = true) ∨ (ltr s t = some 114 ∧ eqP t (-s.2, s.1) = false ∧ eqP t (s.2, -s.1) = true) ∨ (ltr s t = none ∧ eqP t (-s.2, s.1) = false ∧ eqP t (s.2, -s.1) = false) := by
  unfold ltr
  by_cases e1 : t = (-s.2, s.1)
  · left; rw [if_pos e1]; exact ⟨rfl, eqP_iff.2 e1⟩
  · have e1' : eqP t (-s.2, s.1) = false := by rw [← Bool.not_eq_true, eqP_iff]; exact e1
    by_cases e2 : t = (s.2, -s.1)
    · right; left; rw [if_neg e1, if_pos e2]; exact ⟨rfl, e1', eqP_iff.2 e2⟩
    · right; right; rw [if_neg e1, if_neg e2]; exact ⟨rfl, e1', by rw [← Bool.not_eq_true, eqP_iff]; exact e2⟩
def CwRel2 (Z : List (Int × Int)) (w : World) (m : Nat) (v i : Value) (wr : World) : Prop :=
  ∃ (k K1 K2 : Nat) (l : List UInt8), k + m + 2 = Z.length ∧ K1 = k + 1 ∧ K2 = k + 2 ∧ i = .int .i64 (K2 : Nat) ∧ ltrs Z k = some l ∧ wr.ownsRow w.heap.size 5 1 v k (l.map encB) ∧ Below w.heap.size w wr
set_option maxRecDepth 100000 in
set_option maxHeartbeats 8000000 in
theorem sCurveWord_c (a : Option Addr) (c : Nat) (L : List SZ) (w : World) (hl : L.length ≤ 1000000) (hS : ∀ q ∈ L, Bq 400 q) (h : CSl a (L.map encZ) w) : Calls Try.prog 20 #[.slice a L.length c] w fun e w' => e = .returned (cwV (cwO L)) ∧ Below w.heap.size w w' := by
  obtain ⟨i0, hi, hz0, hz1, hz2⟩ := info_parts infoB2
  have HC := Lib.hid h
  have HP := Lib.hid (sCurvePath_c a c L w hl hS h)
  clear h
  rcases Bool.eq_false_or_eq_true (pathZ L) with hp | hp
  · rw [hp] at HP
    by_cases h2 : L.length < 2
    · have H := Lib.hid (congrArg cwV (cwO_short h2))
      have x2 : ((L.length : Nat) : Int) < 2 := by omega
      clear h2
      go_enter Try.func20, Try.ntmps20
      go_wp2_with fail
      refine HP.out.mono ?_
      rintro e w1 ⟨rfl, hb⟩
      go_wp2_with fail
      go_ret2
      exact ⟨by rw [H.out]; rfl, hb⟩
    · have H := Lib.hid (congrArg cwV (cwO_yes hp (by omega)))
      have hP := pathZ_iff.1 hp
      have HZP := Lib.hid (pathP_of hP)
      have HZB := Lib.hid (val_map_bp hS)
      have hcz : CSl a ((L.map val).map encP) w := by rw [← enc_of hP]; exact HC.out
      have hzl : (L.map val).length = L.length := by rw [List.length_map]
      generalize L.map val = Z at *
      obtain ⟨g, o, rfl, hg, hcell⟩ := cs_at hcz (by omega)
      have HCL := Lib.hid hcell
      obtain ⟨n2, hn2⟩ : ∃ n2, L.length = n2 + 2 := ⟨L.length - 2, by omega⟩
      have hn3 : L.length - 2 = n2 := by omega
      rw [hn3] at H
      have x2 : ¬ ((L.length : Nat) : Int) < 2 := by omega
      have hn1m : n2 ≤ 1000000 := by omega
      have HN := Lib.hid hn2
      clear h2 hP hcz hcell hp HC hS hn3 hn2
      go_enter Try.func20, Try.ntmps20
      go_wp2_with fail
      refine HP.out.mono ?_
      rintro e w1 ⟨rfl, hb⟩
      have HB1 := Lib.hid hb
      have sz1 := hb.size
      clear hb HP
      have S0 := Lib.hid (show CwRel2 Z w n2 (.slice (some ⟨w1.heap.size, 0, none⟩) 0 0) (.int .i64 2) (w1.alloc (.cells #[] 5)) from ⟨0, 1, 2, [], by have := HN.out; omega, rfl, rfl, rfl, rfl, World.ownsRow_lit w1 #[] 0 sz1 (by unfold maxLen; omega) rfl, Blw.alloc HB1.out _⟩)
      go_wp2_with fail
      go_loopg [4, 5, 6, 7] n2 (fun m v i x y wr => CwRel2 Z w m v i wr)
      case atStart => exact S0.out
      case round =>
        clear S0
        obtain ⟨k, K1, K2, l, hk, hK1, hK2, rfl, hlt', hown, hB⟩ := hrel
        have HO := Lib.hid hown
        have HLT := Lib.hid hlt'
        have zr := hB.size
        clear hown hlt'
        by_cases hlt : k < n2
        · have hn2 := HN.out
          have k3 : k + 2 < Z.length := by omega
          have k3b : k + 1 < Z.length := by omega
          have k3c : k < Z.length := by omega
          have c0 := keepcell hB (HCL.out k k3c)
          have c1 := keepcell hB (HCL.out (k + 1) k3b)
          have c2 := keepcell hB (HCL.out (k + 2) k3)
          have HS1 := Lib.hid (fun x h => ltrs_some (Z := Z) HLT.out (c := x) h)
          have HS0 := Lib.hid (fun h => ltrs_stuck (ltrs_none (Z := Z) (k := k) h) n2 (by omega))
          have u1 := stp_unit HZP.out (k := k) k3b
          have u2 := stp_unit HZP.out (k := k + 1) k3
          have b0 := HZB.out Z[k] (List.getElem_mem k3c)
          have b1 := HZB.out Z[k + 1] (List.getElem_mem k3b)
          have b2 := HZB.out Z[k + 2] (List.getElem_mem k3)
          have s0 : Sm Z[k] := ⟨Nat.le_trans b0.1 (by omega), Nat.le_trans b0.2 (by omega)⟩
          have s1 : Sm Z[k + 1] := ⟨Nat.le_trans b1.1 (by omega), Nat.le_trans b1.2 (by omega)⟩
          have s2 : Sm Z[k + 2] := ⟨Nat.le_trans b2.1 (by omega), Nat.le_trans b2.2 (by omega)⟩
          have f1 := fun w t => run_psub (P := Try.prog) w t s1 s0
          have f2 := fun w t => run_psub (P := Try.prog) w t s2 s1
          rw [← stp_get (k := k) k3b] at f1
          rw [← stp_get (k := k + 1) k3] at f2
          have HL := ltr_cases (stpZ Z k) (stpZ Z (k + 1))
          have bs1 := unit_bp u1
          have bt1 := unit_bp u2
          clear b0 b1 b2 s0 s1 s2 u1 u2
          generalize stpZ Z k = s at *
          generalize stpZ Z (k + 1) = t at *
          generalize Z[k] = z0 at *
          generalize Z[k + 1] = z1 at *
          generalize Z[k + 2] = z2 at *
          rw [← hK1] at c1
          rw [← hK2] at c2
          have g1 := fun w => run_float_arith (P := Try.prog) w .sub 34 .f32 _ _ _ (neg_bits (a := s.1) (Nat.le_trans bs1.1 (by omega)))
          have g2 := fun w => run_float_arith (P := Try.prog) w .sub 34 .f32 _ _ _ (neg_bits (a := s.2) (Nat.le_trans bs1.2 (by omega)))
          change ∀ w, (binOp .sub _ _ (.float .f32 (px s))).run _ w = Result.ok (.float .f32 (px (-s.1, 0))) w at g1
          change ∀ w, (binOp .sub _ _ (.float .f32 (py s))).run _ w = Result.ok (.float .f32 (px (-s.2, 0))) w at g2
          have q1 := fun w T => run_ceqP (P := Try.prog) w T (d := t) (e := (-s.2, s.1)) ⟨Nat.le_trans bt1.1 (by omega), Nat.le_trans bt1.2 (by omega)⟩ (by unfold Bp at *; dsimp only; omega)
          have q2 := fun w T => run_ceqP (P := Try.prog) w T (d := t) (e := (s.2, -s.1)) ⟨Nat.le_trans bt1.1 (by omega), Nat.le_trans bt1.2 (by omega)⟩ (by unfold Bp at *; dsimp only; omega)
          change ∀ w T, (binOp .eql T (encP t) (.complex .f32 (px (-s.2, 0)) (px s))).run _ w = Result.ok (.bool (eqP t (-s.2, s.1))) w at q1
          change ∀ w T, (binOp .eql T (encP t) (.complex .f32 (py s) (px (-s.1, 0)))).run _ w = Result.ok (.bool (eqP t (s.2, -s.1))) w at q2
          generalize px (-s.2, 0) = ns2 at *
          generalize px (-s.1, 0) = ns1 at *
          have n1 : (K2 : Int) - 1 = (K1 : Nat) := by omega
          have n3 : (K2 : Int) - 2 = (k : Nat) := by omega
          have l0 : k < L.length := by omega
          have l1 : K1 < L.length := by omega
          have l2 : K2 < L.length := by omega
          have i1 : K2 ≤ 1000002 := by omega
          have HK1 := Lib.hid hK1
          have HK2 := Lib.hid hK2
          have Lg : g < wr.heap.size := World.block_lt_of_cell? wr _ c0
          clear bs1 bt1 hK1 hK2 hn2 k3 k3b k3c
          go_upto_region 7 with fail
          refine region_slots (fun _ => True) [] [(23, .is (.slice (some ⟨g, o, none⟩) L.length c)), (24, .is (.int .i64 (K2 : Nat))), (25, .is (.int .i64 (K1 : Nat))), (26, .is (.pointer (some ⟨g, o + K1, none⟩))), (27, .is (encP z1)), (28, .is (.slice (some ⟨g, o, none⟩) L.length c)), (29, .is (.int .i64 (K2 : Nat))), (30, .is (.int .i64 (k : Nat))), (31, .is (.pointer (some ⟨g, o + k, none⟩))), (32, .is (encP z0)), (33, .is (encP s))] (by kernel_rfl) (by kernel_rfl) (by kernel_rfl) (fun _ _ => trivial) (fun _ _ _ _ _ _ h => h) ?_
          simp only [Steps, List.contains_cons, List.contains_nil, Nat.reduceBEq, Nat.reduceAdd, Bool.or_false, Bool.false_or, Bool.or_true, Bool.true_or, Bool.false_eq_true, if_false, if_true]
          refine ⟨?_, ?_, ?_, ?_, ?_, ?_, ?_, ?_, ?_, ?_, ?_, ?_⟩
          · intro u w2 hH hd K hK
            simp only [setU, upd, List.map_cons, List.map_nil, List.contains_cons, List.contains_nil, Nat.reduceBEq, Nat.reduceAdd, Bool.or_false, Bool.false_or, Bool.or_true, Bool.true_or, Bool.false_eq_true, if_false, if_true, ite_true, ite_false, Nat.reduceEqDiff, beq_self_eq_true] at hK ⊢
            go_wp2_with (fail)
            exact hK _ _ (by (repeat' (first | assumption | exact Below.refl _ _ | apply Blw.alloc | apply Blw.drew | apply Blw.drewN | (refine Blw.after ?_ (by assumption)) | (refine Blw.set ?_ (by first | (dsimp only; omega) | (simp; done) | (simp; omega)) _)))) rfl
          · intro u w2 hH hd K hK
            simp only [setU, upd, List.map_cons, List.map_nil, List.contains_cons, List.contains_nil, Nat.reduceBEq, Nat.reduceAdd, Bool.or_false, Bool.false_or, Bool.or_true, Bool.true_or, Bool.false_eq_true, if_false, if_true, ite_true, ite_false, Nat.reduceEqDiff, beq_self_eq_true] at hK ⊢
            go_wp2_with (fail)
            exact hK _ _ (by (repeat' (first | assumption | exact Below.refl _ _ | apply Blw.alloc | apply Blw.drew | apply Blw.drewN | (refine Blw.after ?_ (by assumption)) | (refine Blw.set ?_ (by first | (dsimp only; omega) | (simp; done) | (simp; omega)) _)))) rfl
          · intro u w2 hH hd K hK
            have f24 : u 24 = (.int .i64 (K2 : Nat)) := hd 24 (by kernel_rfl)
            simp only [setU, upd, List.map_cons, List.map_nil, List.contains_cons, List.contains_nil, Nat.reduceBEq, Nat.reduceAdd, Bool.or_false, Bool.false_or, Bool.or_true, Bool.true_or, Bool.false_eq_true, if_false, if_true, ite_true, ite_false, Nat.reduceEqDiff, beq_self_eq_true] at hK ⊢
            rw [f24] at hK ⊢
            clear f24
            go_wp2_with (fail)
            exact hK _ _ (by (repeat' (first | assumption | exact Below.refl _ _ | apply Blw.alloc | apply Blw.drew | apply Blw.drewN | (refine Blw.after ?_ (by assumption)) | (refine Blw.set ?_ (by first | (dsimp only; omega) | (simp; done) | (simp; omega)) _)))) rfl
          · intro u w2 hH hd K hK
            have f23 : u 23 = (.slice (some ⟨g, o, none⟩) L.length c) := hd 23 (by kernel_rfl)
            have f25 : u 25 = (.int .i64 (K1 : Nat)) := hd 25 (by kernel_rfl)
            simp only [setU, upd, List.map_cons, List.map_nil, List.contains_cons, List.contains_nil, Nat.reduceBEq, Nat.reduceAdd, Bool.or_false, Bool.false_or, Bool.or_true, Bool.true_or, Bool.false_eq_true, if_false, if_true, ite_true, ite_false, Nat.reduceEqDiff, beq_self_eq_true] at hK ⊢
            rw [f23, f25] at hK ⊢
            clear f23 f25
            go_wp2_with (fail)
            exact hK _ _ (by (repeat' (first | assumption | exact Below.refl _ _ | apply Blw.alloc | apply Blw.drew | apply Blw.drewN | (refine Blw.after ?_ (by assumption)) | (refine Blw.set ?_ (by first | (dsimp only; omega) | (simp; done) | (simp; omega)) _)))) rfl
          · intro u w2 hH hd K hK
            have f26 : u 26 = (.pointer (some ⟨g, o + K1, none⟩)) := hd 26 (by kernel_rfl)
            simp only [setU, upd, List.map_cons, List.map_nil, List.contains_cons, List.contains_nil, Nat.reduceBEq, Nat.reduceAdd, Bool.or_false, Bool.false_or, Bool.or_true, Bool.true_or, Bool.false_eq_true, if_false, if_true, ite_true, ite_false, Nat.reduceEqDiff, beq_self_eq_true] at hK ⊢
            rw [f26] at hK ⊢
            clear f26
            go_wp2_with (fail)
            exact hK _ _ (by (repeat' (first | assumption | exact Below.refl _ _ | apply Blw.alloc | apply Blw.drew | apply Blw.drewN | (refine Blw.after ?_ (by assumption)) | (refine Blw.set ?_ (by first | (dsimp only; omega) | (simp; done) | (simp; omega)) _)))) rfl
          · intro u w2 hH hd K hK
            simp only [setU, upd, List.map_cons, List.map_nil, List.contains_cons, List.contains_nil, Nat.reduceBEq, Nat.reduceAdd, Bool.or_false, Bool.false_or, Bool.or_true, Bool.true_or, Bool.false_eq_true, if_false, if_true, ite_true, ite_false, Nat.reduceEqDiff, beq_self_eq_true] at hK ⊢
            go_wp2_with (fail)
            exact hK _ _ (by (repeat' (first | assumption | exact Below.refl _ _ | apply Blw.alloc | apply Blw.drew | apply Blw.drewN | (refine Blw.after ?_ (by assumption)) | (refine Blw.set ?_ (by first | (dsimp only; omega) | (simp; done) | (simp; omega)) _)))) rfl
          · intro u w2 hH hd K hK
            simp only [setU, upd, List.map_cons, List.map_nil, List.contains_cons, List.contains_nil, Nat.reduceBEq, Nat.reduceAdd, Bool.or_false, Bool.false_or, Bool.or_true, Bool.true_or, Bool.false_eq_true, if_false, if_true, ite_true, ite_false, Nat.reduceEqDiff, beq_self_eq_true] at hK ⊢
            go_wp2_with (fail)
            exact hK _ _ (by (repeat' (first | assumption | exact Below.refl _ _ | apply Blw.alloc | apply Blw.drew | apply Blw.drewN | (refine Blw.after ?_ (by assumption)) | (refine Blw.set ?_ (by first | (dsimp only; omega) | (simp; done) | (simp; omega)) _)))) rfl
          · intro u w2 hH hd K hK
            have f29 : u 29 = (.int .i64 (K2 : Nat)) := hd 29 (by kernel_rfl)
            simp only [setU, upd, List.map_cons, List.map_nil, List.contains_cons, List.contains_nil, Nat.reduceBEq, Nat.reduceAdd, Bool.or_false, Bool.false_or, Bool.or_true, Bool.true_or, Bool.false_eq_true, if_false, if_true, ite_true, ite_false, Nat.reduceEqDiff, beq_self_eq_true] at hK ⊢
            rw [f29] at hK ⊢
            clear f29
            go_wp2_with (fail)
            exact hK _ _ (by (repeat' (first | assumption | exact Below.refl _ _ | apply Blw.alloc | apply Blw.drew | apply Blw.drewN | (refine Blw.after ?_ (by assumption)) | (refine Blw.set ?_ (by first | (dsimp only; omega) | (simp; done) | (simp; omega)) _)))) rfl
          · intro u w2 hH hd K hK
            have f28 : u 28 = (.slice (some ⟨g, o, none⟩) L.length c) := hd 28 (by kernel_rfl)
            have f30 : u 30 = (.int .i64 (k : Nat)) := hd 30 (by kernel_rfl)
            simp only [setU, upd, List.map_cons, List.map_nil, List.contains_cons, List.contains_nil, Nat.reduceBEq, Nat.reduceAdd, Bool.or_false, Bool.false_or, Bool.or_true, Bool.true_or, Bool.false_eq_true, if_false, if_true, ite_true, ite_false, Nat.reduceEqDiff, beq_self_eq_true] at hK ⊢
            rw [f28, f30] at hK ⊢
            clear f28 f30
            go_wp2_with (fail)
            exact hK _ _ (by (repeat' (first | assumption | exact Below.refl _ _ | apply Blw.alloc | apply Blw.drew | apply Blw.drewN | (refine Blw.after ?_ (by assumption)) | (refine Blw.set ?_ (by first | (dsimp only; omega) | (simp; done) | (simp; omega)) _)))) rfl
          · intro u w2 hH hd K hK
            have f31 : u 31 = (.pointer (some ⟨g, o + k, none⟩)) := hd 31 (by kernel_rfl)
            simp only [setU, upd, List.map_cons, List.map_nil, List.contains_cons, List.contains_nil, Nat.reduceBEq, Nat.reduceAdd, Bool.or_false, Bool.false_or, Bool.or_true, Bool.true_or, Bool.false_eq_true, if_false, if_true, ite_true, ite_false, Nat.reduceEqDiff, beq_self_eq_true] at hK ⊢
            rw [f31] at hK ⊢
            clear f31
            go_wp2_with (fail)
            exact hK _ _ (by (repeat' (first | assumption | exact Below.refl _ _ | apply Blw.alloc | apply Blw.drew | apply Blw.drewN | (refine Blw.after ?_ (by assumption)) | (refine Blw.set ?_ (by first | (dsimp only; omega) | (simp; done) | (simp; omega)) _)))) rfl
          · intro u w2 hH hd K hK
            have f27 : u 27 = (encP z1) := hd 27 (by kernel_rfl)
            have f32 : u 32 = (encP z0) := hd 32 (by kernel_rfl)
            simp only [setU, upd, List.map_cons, List.map_nil, List.contains_cons, List.contains_nil, Nat.reduceBEq, Nat.reduceAdd, Bool.or_false, Bool.false_or, Bool.or_true, Bool.true_or, Bool.false_eq_true, if_false, if_true, ite_true, ite_false, Nat.reduceEqDiff, beq_self_eq_true] at hK ⊢
            rw [f27, f32] at hK ⊢
            clear f27 f32
            go_wp2_with (fail)
            exact hK _ _ (by (repeat' (first | assumption | exact Below.refl _ _ | apply Blw.alloc | apply Blw.drew | apply Blw.drewN | (refine Blw.after ?_ (by assumption)) | (refine Blw.set ?_ (by first | (dsimp only; omega) | (simp; done) | (simp; omega)) _)))) rfl
          intro u w2 hH hF hne
          have hH1 := hH.1
          have hH2 := hH.2.2.2
          simp only [allFacts, SlotFact.h] at hF
          obtain ⟨f23, f24, f25, f26, f27, f28, f29, f30, f31, f32, f33, -⟩ := hF
          simp only [setU, upd, List.map_cons, List.map_nil, List.contains_cons, List.contains_nil, Nat.reduceBEq, Nat.reduceAdd, Bool.or_false, Bool.false_or, Bool.or_true, Bool.true_or, Bool.false_eq_true, if_false, if_true, ite_true, ite_false, Nat.reduceEqDiff, beq_self_eq_true]
          rw [f23, f24, f25, f26, f27, f28, f29, f30, f31, f32, f33]
          clear f23 f24 f25 f26 f27 f28 f29 f30 f31 f32 f33 hne
          refine wpListS_true ?_
          go_wp2_with fail
          have hb2 : Below wr.heap.size wr w2 := by (repeat' (first | assumption | exact Below.refl _ _ | apply Blw.alloc | apply Blw.drew | apply Blw.drewN | (refine Blw.after ?_ (by assumption)) | (refine Blw.set ?_ (by first | (dsimp only; omega) | (simp; done) | (simp; omega)) _)))
          have k1 : w2.cell? ⟨g, o + K1, none⟩ = some (encP z1) := keepcell hb2 c1
          have k2 : w2.cell? ⟨g, o + K2, none⟩ = some (encP z2) := keepcell hb2 c2
          have Lg2 : g < w2.heap.size := World.block_lt_of_cell? w2 _ k1
          have HB2 := Lib.hid (Blw.after hB hb2)
          have HO2 := Lib.hid (own_below HO.out hb2)
          clear c0 c1 c2 hb2 hH hH1 hH2 HO hB zr Lg
          generalize w2 = wx at *
          refine region_slots (fun _ => True) [] [(34, .is (.slice (some ⟨g, o, none⟩) L.length c)), (35, .is (.int .i64 (K2 : Nat))), (36, .is (.pointer (some ⟨g, o + K2, none⟩))), (37, .is (encP z2)), (38, .is (.slice (some ⟨g, o, none⟩) L.length c)), (39, .is (.int .i64 (K2 : Nat))), (40, .is (.int .i64 (K1 : Nat))), (41, .is (.pointer (some ⟨g, o + K1, none⟩))), (42, .is (encP z1)), (43, .is (encP t))] (by kernel_rfl) (by kernel_rfl) (by kernel_rfl) (fun _ _ => trivial) (fun _ _ _ _ _ _ h => h) ?_
          simp only [Steps, List.contains_cons, List.contains_nil, Nat.reduceBEq, Nat.reduceAdd, Bool.or_false, Bool.false_or, Bool.or_true, Bool.true_or, Bool.false_eq_true, if_false, if_true]
          refine ⟨?_, ?_, ?_, ?_, ?_, ?_, ?_, ?_, ?_, ?_, ?_⟩
          · intro u w2 hH hd K hK
            simp only [setU, upd, List.map_cons, List.map_nil, List.contains_cons, List.contains_nil, Nat.reduceBEq, Nat.reduceAdd, Bool.or_false, Bool.false_or, Bool.or_true, Bool.true_or, Bool.false_eq_true, if_false, if_true, ite_true, ite_false, Nat.reduceEqDiff, beq_self_eq_true] at hK ⊢
            go_wp2_with (fail)
            exact hK _ _ (by (repeat' (first | assumption | exact Below.refl _ _ | apply Blw.alloc | apply Blw.drew | apply Blw.drewN | (refine Blw.after ?_ (by assumption)) | (refine Blw.set ?_ (by first | (dsimp only; omega) | (simp; done) | (simp; omega)) _)))) rfl
          · intro u w2 hH hd K hK
            simp only [setU, upd, List.map_cons, List.map_nil, List.contains_cons, List.contains_nil, Nat.reduceBEq, Nat.reduceAdd, Bool.or_false, Bool.false_or, Bool.or_true, Bool.true_or, Bool.false_eq_true, if_false, if_true, ite_true, ite_false, Nat.reduceEqDiff, beq_self_eq_true] at hK ⊢
            go_wp2_with (fail)
            exact hK _ _ (by (repeat' (first | assumption | exact Below.refl _ _ | apply Blw.alloc | apply Blw.drew | apply Blw.drewN | (refine Blw.after ?_ (by assumption)) | (refine Blw.set ?_ (by first | (dsimp only; omega) | (simp; done) | (simp; omega)) _)))) rfl
          · intro u w2 hH hd K hK
            have f34 : u 34 = (.slice (some ⟨g, o, none⟩) L.length c) := hd 34 (by kernel_rfl)
            have f35 : u 35 = (.int .i64 (K2 : Nat)) := hd 35 (by kernel_rfl)
            simp only [setU, upd, List.map_cons, List.map_nil, List.contains_cons, List.contains_nil, Nat.reduceBEq, Nat.reduceAdd, Bool.or_false, Bool.false_or, Bool.or_true, Bool.true_or, Bool.false_eq_true, if_false, if_true, ite_true, ite_false, Nat.reduceEqDiff, beq_self_eq_true] at hK ⊢
            rw [f34, f35] at hK ⊢
            clear f34 f35
            go_wp2_with (fail)
            exact hK _ _ (by (repeat' (first | assumption | exact Below.refl _ _ | apply Blw.alloc | apply Blw.drew | apply Blw.drewN | (refine Blw.after ?_ (by assumption)) | (refine Blw.set ?_ (by first | (dsimp only; omega) | (simp; done) | (simp; omega)) _)))) rfl
          · intro u w2 hH hd K hK
            have f36 : u 36 = (.pointer (some ⟨g, o + K2, none⟩)) := hd 36 (by kernel_rfl)
            simp only [setU, upd, List.map_cons, List.map_nil, List.contains_cons, List.contains_nil, Nat.reduceBEq, Nat.reduceAdd, Bool.or_false, Bool.false_or, Bool.or_true, Bool.true_or, Bool.false_eq_true, if_false, if_true, ite_true, ite_false, Nat.reduceEqDiff, beq_self_eq_true] at hK ⊢
            rw [f36] at hK ⊢
            clear f36
            go_wp2_with (fail)
            exact hK _ _ (by (repeat' (first | assumption | exact Below.refl _ _ | apply Blw.alloc | apply Blw.drew | apply Blw.drewN | (refine Blw.after ?_ (by assumption)) | (refine Blw.set ?_ (by first | (dsimp only; omega) | (simp; done) | (simp; omega)) _)))) rfl
          · intro u w2 hH hd K hK
            simp only [setU, upd, List.map_cons, List.map_nil, List.contains_cons, List.contains_nil, Nat.reduceBEq, Nat.reduceAdd, Bool.or_false, Bool.false_or, Bool.or_true, Bool.true_or, Bool.false_eq_true, if_false, if_true, ite_true, ite_false, Nat.reduceEqDiff, beq_self_eq_true] at hK ⊢
            go_wp2_with (fail)
            exact hK _ _ (by (repeat' (first | assumption | exact Below.refl _ _ | apply Blw.alloc | apply Blw.drew | apply Blw.drewN | (refine Blw.after ?_ (by assumption)) | (refine Blw.set ?_ (by first | (dsimp only; omega) | (simp; done) | (simp; omega)) _)))) rfl
          · intro u w2 hH hd K hK
            simp only [setU, upd, List.map_cons, List.map_nil, List.contains_cons, List.contains_nil, Nat.reduceBEq, Nat.reduceAdd, Bool.or_false, Bool.false_or, Bool.or_true, Bool.true_or, Bool.false_eq_true, if_false, if_true, ite_true, ite_false, Nat.reduceEqDiff, beq_self_eq_true] at hK ⊢
            go_wp2_with (fail)
            exact hK _ _ (by (repeat' (first | assumption | exact Below.refl _ _ | apply Blw.alloc | apply Blw.drew | apply Blw.drewN | (refine Blw.after ?_ (by assumption)) | (refine Blw.set ?_ (by first | (dsimp only; omega) | (simp; done) | (simp; omega)) _)))) rfl
          · intro u w2 hH hd K hK
            have f39 : u 39 = (.int .i64 (K2 : Nat)) := hd 39 (by kernel_rfl)
            simp only [setU, upd, List.map_cons, List.map_nil, List.contains_cons, List.contains_nil, Nat.reduceBEq, Nat.reduceAdd, Bool.or_false, Bool.false_or, Bool.or_true, Bool.true_or, Bool.false_eq_true, if_false, if_true, ite_true, ite_false, Nat.reduceEqDiff, beq_self_eq_true] at hK ⊢
            rw [f39] at hK ⊢
            clear f39
            go_wp2_with (fail)
            exact hK _ _ (by (repeat' (first | assumption | exact Below.refl _ _ | apply Blw.alloc | apply Blw.drew | apply Blw.drewN | (refine Blw.after ?_ (by assumption)) | (refine Blw.set ?_ (by first | (dsimp only; omega) | (simp; done) | (simp; omega)) _)))) rfl
          · intro u w2 hH hd K hK
            have f38 : u 38 = (.slice (some ⟨g, o, none⟩) L.length c) := hd 38 (by kernel_rfl)
            have f40 : u 40 = (.int .i64 (K1 : Nat)) := hd 40 (by kernel_rfl)
            simp only [setU, upd, List.map_cons, List.map_nil, List.contains_cons, List.contains_nil, Nat.reduceBEq, Nat.reduceAdd, Bool.or_false, Bool.false_or, Bool.or_true, Bool.true_or, Bool.false_eq_true, if_false, if_true, ite_true, ite_false, Nat.reduceEqDiff, beq_self_eq_true] at hK ⊢
            rw [f38, f40] at hK ⊢
            clear f38 f40
            go_wp2_with (fail)
            exact hK _ _ (by (repeat' (first | assumption | exact Below.refl _ _ | apply Blw.alloc | apply Blw.drew | apply Blw.drewN | (refine Blw.after ?_ (by assumption)) | (refine Blw.set ?_ (by first | (dsimp only; omega) | (simp; done) | (simp; omega)) _)))) rfl
          · intro u w2 hH hd K hK
            have f41 : u 41 = (.pointer (some ⟨g, o + K1, none⟩)) := hd 41 (by kernel_rfl)
            simp only [setU, upd, List.map_cons, List.map_nil, List.contains_cons, List.contains_nil, Nat.reduceBEq, Nat.reduceAdd, Bool.or_false, Bool.false_or, Bool.or_true, Bool.true_or, Bool.false_eq_true, if_false, if_true, ite_true, ite_false, Nat.reduceEqDiff, beq_self_eq_true] at hK ⊢
            rw [f41] at hK ⊢
            clear f41
            go_wp2_with (fail)
            exact hK _ _ (by (repeat' (first | assumption | exact Below.refl _ _ | apply Blw.alloc | apply Blw.drew | apply Blw.drewN | (refine Blw.after ?_ (by assumption)) | (refine Blw.set ?_ (by first | (dsimp only; omega) | (simp; done) | (simp; omega)) _)))) rfl
          · intro u w2 hH hd K hK
            have f37 : u 37 = (encP z2) := hd 37 (by kernel_rfl)
            have f42 : u 42 = (encP z1) := hd 42 (by kernel_rfl)
            simp only [setU, upd, List.map_cons, List.map_nil, List.contains_cons, List.contains_nil, Nat.reduceBEq, Nat.reduceAdd, Bool.or_false, Bool.false_or, Bool.or_true, Bool.true_or, Bool.false_eq_true, if_false, if_true, ite_true, ite_false, Nat.reduceEqDiff, beq_self_eq_true] at hK ⊢
            rw [f37, f42] at hK ⊢
            clear f37 f42
            go_wp2_with (fail)
            exact hK _ _ (by (repeat' (first | assumption | exact Below.refl _ _ | apply Blw.alloc | apply Blw.drew | apply Blw.drewN | (refine Blw.after ?_ (by assumption)) | (refine Blw.set ?_ (by first | (dsimp only; omega) | (simp; done) | (simp; omega)) _)))) rfl
          intro u w2 hH hF hne
          have hH1 := hH.1
          have hH2 := hH.2.2.2
          simp only [allFacts, SlotFact.h] at hF
          obtain ⟨f34, f35, f36, f37, f38, f39, f40, f41, f42, f43, -⟩ := hF
          simp only [setU, upd, List.map_cons, List.map_nil, List.contains_cons, List.contains_nil, Nat.reduceBEq, Nat.reduceAdd, Bool.or_false, Bool.false_or, Bool.or_true, Bool.true_or, Bool.false_eq_true, if_false, if_true, ite_true, ite_false, Nat.reduceEqDiff, beq_self_eq_true]
          rw [f34, f35, f36, f37, f38, f39, f40, f41, f42, f43]
          clear f34 f35 f36 f37 f38 f39 f40 f41 f42 f43 hne
          refine wpListS_true ?_
          have hbx : Below wx.heap.size wx w2 := by (repeat' (first | assumption | exact Below.refl _ _ | apply Blw.alloc | apply Blw.drew | apply Blw.drewN | (refine Blw.after ?_ (by assumption)) | (refine Blw.set ?_ (by first | (dsimp only; omega) | (simp; done) | (simp; omega)) _)))
          have HB3 := Lib.hid (show Below w.heap.size w w2 from Blw.after HB2.out hbx)
          have HO3 := Lib.hid (own_below HO2.out hbx)
          have z3 : w.heap.size ≤ w2.heap.size := HB3.out.size
          clear hbx HB2 HO2 k1 k2 hH hH1 hH2
          rcases HL with ⟨hl, e1⟩ | ⟨hl, e1, e2⟩ | ⟨hl, e1, e2⟩
          · have HN0 := Lib.hid (HS1.out _ hl)
            clear hl
            go_wp2_with (at_builtin; refine wpList_append_own _ rfl _ _ 22 rfl w.heap.size 5 i0 (.int .u8 0) 1 1 Try.underlying22 hi hz0 hz1 hz2 rfl (by decide) _ _ _ rfl (HO3.out.alloc _) ⟨w2.heap.size, 0, none⟩ 1 1 [encB 108] rfl rfl (cells1 _ _ _) (one1 _ rfl) (by unfold maxLen; omega) (by omega) (by simp; omega) ?_)
            intro v' W4 hown' hgrow _
            have hB4 : Below w.heap.size w W4 := Below.grown (Blw.alloc HB3.out _) hgrow (by simp; omega) (fun k hk => (HO3.out.lt k hk).1)
            have HO4 := Lib.hid hown'
            clear hgrow hown' HO3
            go_wp2_with fail
            go_roundg (gk - 1)
            case measure => omega
            case rel => exact ⟨k + 1, K1 + 1, K2 + 1, l ++ [108], by omega, by have := HK1.out; omega, by have := HK2.out; omega, by go_num, HN0.out, by rw [List.map_append]; exact HO4.out, hB4⟩
          · have HN0 := Lib.hid (HS1.out _ hl)
            clear hl
            go_wp2_with (at_builtin; refine wpList_append_own _ rfl _ _ 22 rfl w.heap.size 5 i0 (.int .u8 0) 1 1 Try.underlying22 hi hz0 hz1 hz2 rfl (by decide) _ _ _ rfl (HO3.out.alloc _) ⟨w2.heap.size, 0, none⟩ 1 1 [encB 114] rfl rfl (cells1 _ _ _) (one1 _ rfl) (by unfold maxLen; omega) (by omega) (by simp; omega) ?_)
            intro v' W4 hown' hgrow _
            have hB4 : Below w.heap.size w W4 := Below.grown (Blw.alloc HB3.out _) hgrow (by simp; omega) (fun k hk => (HO3.out.lt k hk).1)
            have HO4 := Lib.hid hown'
            clear hgrow hown' HO3
            go_wp2_with fail
            go_roundg (gk - 1)
            case measure => omega
            case rel => exact ⟨k + 1, K1 + 1, K2 + 1, l ++ [114], by omega, by have := HK1.out; omega, by have := HK2.out; omega, by go_num, HN0.out, by rw [List.map_append]; exact HO4.out, hB4⟩
          · have HN0 := Lib.hid (HS0.out hl)
            clear hl
            go_wp2_with fail
            go_ret2
            exact ⟨by rw [H.out, HN0.out]; rfl, HB3.out⟩
        · have hn2 := HN.out
          obtain rfl : k = n2 := by omega
          have hcv := conv_row HO.out
          have i2 : ¬ ((K2 : Int) < (L.length : Nat)) := by omega
          clear hK1 hK2 hn2
          go_wp2_with fail
          go_ret2
          exact ⟨by rw [H.out, HLT.out]; rfl, hB⟩
  · have H := Lib.hid (congrArg cwV (cwO_no hp))
    rw [hp] at HP
    go_enter Try.func20, Try.ntmps20
    go_wp2_with fail
    refine HP.out.mono ?_
    rintro e w1 ⟨rfl, hb⟩
    go_wp2_with fail
    go_ret2
    exact ⟨by rw [H.out]; rfl, hb⟩
end Go.Proofs.Ytljmmmkehieboaa

/- FnCurveWord: whatever the code draws, the word of a path makes it again, turned by the first step and moved by the first point. -/
import Derived.Test.YtljmmmkehieboaaDrawM
import Derived.Test.YtljmmmkehieboaaCws
import Derived.Test.YtljmmmkehieboaaTw
import Derived.Test.YtljmmmkehieboaaBaseP
import Derived.Test.YtljmmmkehieboaaSp
namespace Go.Proofs.Ytljmmmkehieboaa
set_option linter.unusedSimpArgs false
set_option linter.unusedVariables false
open Go.ChangeShapes Go.WideShapes Go.ChangeAt Go.RowKit Go.Joins

def mulP (s p : Int × Int) : Int × Int := (s.1 * p.1 - s.2 * p.2, s.1 * p.2 + s.2 * p.1)
theorem mulP_trn (s : Int × Int) (c : UInt8) (p : Int × Int) : mulP s (trn c p) = trn c (mulP s p) := by
  unfold mulP trn
  split
  · apply Prod.ext <;> dsimp only <;> rw [Int.mul_neg] <;> omega
  · apply Prod.ext <;> dsimp only <;> rw [Int.mul_neg] <;> omega
theorem mulP_add (s p q : Int × Int) : mulP s (addP p q) = addP (mulP s p) (mulP s q) := by
  unfold mulP addP
  apply Prod.ext <;> dsimp only <;> rw [Int.mul_add, Int.mul_add] <;> omega
theorem mulP_one (s : Int × Int) : mulP s (1, 0) = s := by unfold mulP; simp
theorem mulP_zero (s : Int × Int) : mulP s (0, 0) = (0, 0) := by unfold mulP; simp
theorem sgm (s t : Bool) (m n : Nat) : sg (s ^^ t) (m * n) = sg s m * sg t n := by
  cases s <;> cases t <;> simp [sg, Int.neg_mul, Int.mul_neg]
/-- the product as a number with signs -/
def cm (s p : Int × Int) : SZ :=
  let s1 := decide (s.1 < 0); let s2 := decide (s.2 < 0); let s3 := decide (p.1 < 0); let s4 := decide (p.2 < 0)
  ((sgS (s1 ^^ s3) (s.1.natAbs * p.1.natAbs) (!(s2 ^^ s4)) (s.2.natAbs * p.2.natAbs), sgN (s1 ^^ s3) (s.1.natAbs * p.1.natAbs) (!(s2 ^^ s4)) (s.2.natAbs * p.2.natAbs)),
   (sgS (s1 ^^ s4) (s.1.natAbs * p.2.natAbs) (s2 ^^ s3) (s.2.natAbs * p.1.natAbs), sgN (s1 ^^ s4) (s.1.natAbs * p.2.natAbs) (s2 ^^ s3) (s.2.natAbs * p.1.natAbs)))
theorem cm_val (s p : Int × Int) : val (cm s p) = mulP s p := by
  unfold cm val mulP
  simp only [val_sum, sg_neg, sgm, own_sg]
  rfl
theorem cm_in {s p : Int × Int} (hs : Bp 1 s) (hp : Bp 400 p) : (cm s p).1.2 ≤ 800 ∧ (cm s p).2.2 ≤ 800 := by
  have a1 := Nat.mul_le_mul hs.1 hp.1
  have a2 := Nat.mul_le_mul hs.2 hp.2
  have a3 := Nat.mul_le_mul hs.1 hp.2
  have a4 := Nat.mul_le_mul hs.2 hp.1
  unfold cm
  dsimp only
  constructor
  · refine Nat.le_trans (sgN_le _ _ _ _) ?_; omega
  · refine Nat.le_trans (sgN_le _ _ _ _) ?_; omega
theorem run_mulP {P : Program} (w : World) (t : TypeId) {s p : Int × Int} (hs : Bp 1 s) (hp : Bp 400 p) : (binOp .mul t (encP s) (encP p)).run P w = .ok (encZ (cm s p)) w :=
  run_cmul32 (P := P) w t (decide (s.1 < 0)) (decide (s.2 < 0)) (decide (p.1 < 0)) (decide (p.2 < 0)) (a := s.1.natAbs) (b := s.2.natAbs) (c := p.1.natAbs) (d := p.2.natAbs) (Nat.le_trans hs.1 (by omega)) (Nat.le_trans hs.2 (by omega)) (Nat.le_trans hp.1 (by omega)) (Nat.le_trans hp.2 (by omega))
theorem run_addZ {P : Program} (w : World) (t : TypeId) {z : Int × Int} {q : SZ} (hz : Bp 400 z) (hq : q.1.2 ≤ 800 ∧ q.2.2 ≤ 800) : (binOp .add t (encP z) (encZ q)).run P w = .ok (encP (addP z (val q))) w :=
  run_caddS (P := P) w t q.1.1 q.2.1 (Nat.le_trans hz.1 (by omega)) (Nat.le_trans hz.2 (by omega)) (by omega) (by omega)
theorem neq_run2 {z : Int × Int} (h : Bp 2000 z) (t : TypeId) (w : World) : (binOp .neq t (encP z) (encP z)).run Try.prog w = .ok (.bool false) w := by
  have h1 := ff_order (k := .f32) (a := z.1) (b := z.1) (Nat.le_trans h.1 (by omega)) (Nat.le_trans h.1 (by omega))
  have h2 := ff_order (k := .f32) (a := z.2) (b := z.2) (Nat.le_trans h.2 (by omega)) (Nat.le_trans h.2 (by omega))
  rw [Int.compare_eq_eq.2 rfl] at h1 h2
  unfold encP px py
  simp [binOp, Op.complexOp, Op.Complex.cmp, Op.floatCmp, h1, h2, asBool]
theorem ltr_some {s t : Int × Int} {c : UInt8} (h : ltr s t = some c) : wdC c = true ∧ t = trn c s := by
  unfold ltr at h
  split at h
  · next e => cases h; exact ⟨rfl, e⟩
  · split at h
    · next e => cases h; exact ⟨rfl, e⟩
    · cases h
theorem ltrs_back {Z : List (Int × Int)} {k : Nat} {l : List UInt8} (h : ltrs Z (k + 1) = some l) : ∃ l0 c, ltrs Z k = some l0 ∧ ltr (stpZ Z k) (stpZ Z (k + 1)) = some c ∧ l = l0 ++ [c] := by
  rw [ltrs_succ] at h
  cases h1 : ltrs Z k with
  | none => rw [h1] at h; cases h
  | some l0 =>
    cases h2 : ltr (stpZ Z k) (stpZ Z (k + 1)) with
    | none => rw [h1, h2] at h; cases h
    | some c => rw [h1, h2] at h; cases h; exact ⟨l0, c, rfl, rfl, rfl⟩
/-- what a path's letters tell of its points -/
theorem ltrs_pts (Z : List (Int × Int)) : ∀ k l, ltrs Z k = some l → (∀ c ∈ l, wdC c = true) ∧ stpZ Z k = mulP (stpZ Z 0) (stP l) ∧ ∀ j, j ≤ k → zg Z (j + 1) = addP (zg Z 0) (mulP (stpZ Z 0) (psP (l.take j))) := by
  intro k
  have step : ∀ j, zg Z (j + 1) = addP (zg Z j) (stpZ Z j) := fun j => by
    unfold stpZ subP addP zg
    apply Prod.ext <;> dsimp only <;> omega
  induction k with
  | zero =>
    intro l h
    rw [ltrs_zero] at h
    cases h
    refine ⟨by simp, by rw [stP_nil, mulP_one], fun j hj => ?_⟩
    obtain rfl : j = 0 := by omega
    rw [List.take_zero, psP_nil, mulP_one]; exact step 0
  | succ k ih =>
    intro l h
    obtain ⟨l0, c, h0, hc, rfl⟩ := ltrs_back h
    obtain ⟨i1, i2, i3⟩ := ih l0 h0
    obtain ⟨w1, w2⟩ := ltr_some hc
    have hl0 := ltrs_len h0
    refine ⟨fun d hd => ?_, by rw [w2, i2, stP_snoc, mulP_trn], fun j hj => ?_⟩
    · rcases List.mem_append.1 hd with hd | hd
      · exact i1 d hd
      · rw [List.mem_singleton] at hd; rw [hd]; exact w1
    · rcases Nat.lt_or_eq_of_le hj with h1 | h1
      · rw [List.take_append_of_le_length (by omega)]; exact i3 j (by omega)
      · subst h1
        have e1 := i3 k (Nat.le_refl _)
        rw [← hl0, List.take_length, hl0] at e1
        rw [step (k + 1), e1, w2, i2, show (l0 ++ [c]).take (k + 1) = l0 ++ [c] from List.take_of_length_le (by rw [List.length_append, hl0]; simp), psP_snoc, mulP_add, mulP_trn]
        unfold addP
        simp only [Int.add_assoc]
theorem cw_word {L : List SZ} {l : List UInt8} (h : cwO L = some l) : pathZ L = true ∧ 2 ≤ L.length ∧ ltrs (L.map val) (L.length - 2) = some l := by
  unfold cwO at h
  split at h
  · next e => exact ⟨e.1, e.2, h⟩
  · cases h
set_option maxRecDepth 100000 in
set_option maxHeartbeats 8000000 in
theorem lawCurveWord_c (a : Option Addr) (len cap : Nat) (w : World) (hc : len ≤ 1048576 → Code (.slice a len cap) w) : Calls Try.prog 5 #[.slice a len cap] w fun e w' => e = .returned (.bool true) ∧ Below w.heap.size w w' := by
  by_cases hl : 1048576 < len
  · go_enter Try.func5, Try.ntmps5
    go_wp2_with fail
    go_ret
    exact ⟨rfl, by (repeat' (first | assumption | exact Below.refl _ _ | apply Blw.alloc | apply Blw.drew | apply Blw.drewN | (refine Blw.after ?_ (by assumption)) | (refine Blw.set ?_ (by first | (dsimp only; omega) | (simp; done) | (simp; omega)) _)))⟩
  · have hc' := hc (by omega)
    clear hc
    go_enter Try.func5, Try.ntmps5
    go_wp2_with fail
    refine (drawCurveWord_c _ w hc').mono ?_
    rintro e W1 ⟨v, L, rfl, ho, hL, hbq, hb1⟩
    clear hc'
    have hc0 := ho
    obtain ⟨a1, c1, rfl, hcs, -⟩ := own_csl ho
    have hcap := own_cap hc0
    rw [List.length_map]
    have HC := Lib.hid hcs
    have HBQ := Lib.hid (bq_up hbq (show 200 ≤ 400 by omega))
    have HBV := Lib.hid (val_map_bp hbq)
    have HB1 := Lib.hid hb1
    clear ho hc0 hcs hb1 hbq
    go_wp2_with fail
    refine (iCurveWord_c a1 c1 L W1 (by omega) hcap HBQ.out HC.out).mono ?_
    rintro e W2 ⟨rfl, hb2⟩
    have HC2 := Lib.hid (HC.out.keep hb2)
    have HB2 := Lib.hid (Blw.after HB1.out hb2)
    have HS := Lib.hid (sCurveWord_c a1 c1 L W2 (by omega) HBQ.out HC2.out)
    clear hb2 HC HB1
    cases hx : cwO L with
    | none =>
      rw [hx] at HS
      rw [cwV_none] at HS ⊢
      go_wp2_with fail
      refine HS.out.mono ?_
      rintro e W3 ⟨rfl, hb3⟩
      have HB3 := Lib.hid (Blw.after HB2.out hb3)
      clear hb3
      go_wp2_with fail
      go_ret
      exact ⟨rfl, HB3.out⟩
    | some l =>
      rw [hx] at HS
      rw [cwV_some] at HS ⊢
      obtain ⟨hp, hn, hlt⟩ := cw_word hx
      have hP := pathZ_iff.1 hp
      obtain ⟨p1, p2, p3⟩ := ltrs_pts _ _ _ hlt
      have hll := ltrs_len hlt
      have hzl : (L.map val).length = L.length := by rw [List.length_map]
      have hcz : CSl a1 ((L.map val).map encP) W2 := by rw [← enc_of hP]; exact HC2.out
      have hst := stp_unit (pathP_of hP) (k := 0) (by omega)
      generalize L.map val = Z at *
      have hwd : wdB 1023 (bs l) = true := by
        rw [wdB_of (by rw [bsz, hll]; omega)]
        exact onlyW_good (by rw [toL_bs]; exact p1)
      have hcl : crvA (bs l) = crvL l := by rw [crvA_t hwd, toL_bs]
      have hclen : (crvL l).length = L.length := by rw [crvL_len, hll]; omega
      have hcin : ∀ z ∈ crvL l, Bp 400 z := fun z hz => by
        have := crvL_in l z hz
        unfold Bp; omega
      have HPTS := Lib.hid (show ∀ k, (hk : k < L.length) → zg Z k = addP (zg Z 0) (mulP (stpZ Z 0) (zg (crvL l) k)) from fun k hk => by
        cases k with
        | zero =>
          have e0 : zg (crvL l) 0 = (0, 0) := rfl
          rw [e0, mulP_zero]; unfold addP; simp
        | succ j =>
          have e1 : zg (crvL l) (j + 1) = psP (l.take j) := by unfold zg; rw [crvL_succ (by omega)]; rfl
          rw [e1]; exact p3 j (by omega))
      obtain ⟨g, o, rfl, hg, hcell⟩ := cs_at hcz (by omega)
      have HCL := Lib.hid hcell
      have HZB := Lib.hid (fun k => zg_in (Z := Z) (fun z hz => ⟨Nat.le_trans (HBV.out z hz).1 (by omega), Nat.le_trans (HBV.out z hz).2 (by omega)⟩) k)
      have HCB := Lib.hid (fun k => zg_in hcin k)
      have hu := unit_bp hst
      have HWD := Lib.hid hwd
      have HCC := Lib.hid hcl
      have HCLEN := Lib.hid hclen
      have HZL := Lib.hid hzl
      have hn2 : 2 ≤ L.length := hn
      have HBS := Lib.hid (bs_toL (bs l))
      clear hx hp hn hlt hP p1 p2 p3 hll hcz hcell hst hwd hcl hclen hcin hzl HC2 HBQ HBV
      generalize bs l = B at *
      generalize crvL l = Q at *
      go_wp2_with fail
      refine HS.out.mono ?_
      rintro e W3 ⟨rfl, hb3⟩
      have HB3 := Lib.hid (Blw.after HB2.out hb3)
      have HCL3 := Lib.hid (fun k hk => keepcell hb3 (HCL.out k hk))
      clear hb3 HB2 HS HCL
      go_wp2_with fail
      refine (iCurveOf_c B W3).mono ?_
      rintro e W4 ⟨v4, rfl, ho4, hb4⟩
      rw [HWD.out]
      rw [HCC.out] at ho4
      obtain ⟨a4, c4, rfl, hcs4, -⟩ := own_csl ho4
      rw [List.length_map, HCLEN.out]
      obtain ⟨gc, oc, rfl, hgc, hcellc⟩ := cs_at hcs4 (by have := HCLEN.out; omega)
      have HCQ := Lib.hid hcellc
      have HB4 := Lib.hid (Blw.after HB3.out hb4)
      have HCL4 := Lib.hid (fun k hk => keepcell hb4 (HCL3.out k hk))
      clear ho4 hcs4 hb4 hcellc HB3 HCL3 HWD HCC
      have cz0 := HCL4.out 0 (by have := HZL.out; omega)
      have cz1 := HCL4.out 1 (by have := HZL.out; omega)
      rw [Nat.add_zero] at cz0
      have b0 := HZB.out 0
      have b1 := HZB.out 1
      have f0 := fun w t => run_psub (P := Try.prog) w t (p := zg Z 1) (q := zg Z 0) ⟨Nat.le_trans b1.1 (by omega), Nat.le_trans b1.2 (by omega)⟩ ⟨Nat.le_trans b0.1 (by omega), Nat.le_trans b0.2 (by omega)⟩
      rw [← zg_get (by have := HZL.out; omega)] at cz0 cz1
      have hst : stpZ Z 0 = subP (zg Z 1) (zg Z 0) := rfl
      rw [← hst] at f0
      have Lg : g < W4.heap.size := World.block_lt_of_cell? W4 _ cz0
      have lp : 0 < L.length := by omega
      have lp1 : 1 < L.length := by omega
      clear b0 b1 hst
      generalize stpZ Z 0 = s at *
      generalize hz0 : zg Z 0 = z0 at *
      generalize zg Z 1 = z1 at *
      go_wp2_with fail
      refine region_slots (fun _ => True) [] [(52, .is (.slice (some ⟨g, o, none⟩) L.length c1)), (53, .is (.pointer (some ⟨g, o + 1, none⟩))), (54, .is (encP z1)), (55, .is (.slice (some ⟨g, o, none⟩) L.length c1)), (56, .is (.pointer (some ⟨g, o, none⟩))), (57, .is (encP z0)), (58, .is (encP s))] (by kernel_rfl) (by kernel_rfl) (by kernel_rfl) (fun _ _ => trivial) (fun _ _ _ _ _ _ h => h) ?_
      simp only [Steps, List.contains_cons, List.contains_nil, Nat.reduceBEq, Nat.reduceAdd, Bool.or_false, Bool.false_or, Bool.or_true, Bool.true_or, Bool.false_eq_true, if_false, if_true]
      refine ⟨?_, ?_, ?_, ?_, ?_, ?_, ?_, ?_⟩
      · intro u w2 hH hd K hK
        simp only [setU, upd, List.map_cons, List.map_nil, List.contains_cons, List.contains_nil, Nat.reduceBEq, Nat.reduceAdd, Bool.or_false, Bool.false_or, Bool.or_true, Bool.true_or, Bool.false_eq_true, if_false, if_true, ite_true, ite_false, Nat.reduceEqDiff, beq_self_eq_true] at hK ⊢
        go_wp2_with (fail)
        exact hK _ _ (by (repeat' (first | assumption | exact Below.refl _ _ | apply Blw.alloc | apply Blw.drew | apply Blw.drewN | (refine Blw.after ?_ (by assumption)) | (refine Blw.set ?_ (by first | (dsimp only; omega) | (simp; done) | (simp; omega)) _)))) rfl
      · intro u w2 hH hd K hK
        have f52 : u 52 = (.slice (some ⟨g, o, none⟩) L.length c1) := hd 52 (by kernel_rfl)
        simp only [setU, upd, List.map_cons, List.map_nil, List.contains_cons, List.contains_nil, Nat.reduceBEq, Nat.reduceAdd, Bool.or_false, Bool.false_or, Bool.or_true, Bool.true_or, Bool.false_eq_true, if_false, if_true, ite_true, ite_false, Nat.reduceEqDiff, beq_self_eq_true] at hK ⊢
        rw [f52] at hK ⊢
        clear f52
        go_wp2_with (fail)
        exact hK _ _ (by (repeat' (first | assumption | exact Below.refl _ _ | apply Blw.alloc | apply Blw.drew | apply Blw.drewN | (refine Blw.after ?_ (by assumption)) | (refine Blw.set ?_ (by first | (dsimp only; omega) | (simp; done) | (simp; omega)) _)))) rfl
      · intro u w2 hH hd K hK
        have f53 : u 53 = (.pointer (some ⟨g, o + 1, none⟩)) := hd 53 (by kernel_rfl)
        simp only [setU, upd, List.map_cons, List.map_nil, List.contains_cons, List.contains_nil, Nat.reduceBEq, Nat.reduceAdd, Bool.or_false, Bool.false_or, Bool.or_true, Bool.true_or, Bool.false_eq_true, if_false, if_true, ite_true, ite_false, Nat.reduceEqDiff, beq_self_eq_true] at hK ⊢
        rw [f53] at hK ⊢
        clear f53
        go_wp2_with (fail)
        exact hK _ _ (by (repeat' (first | assumption | exact Below.refl _ _ | apply Blw.alloc | apply Blw.drew | apply Blw.drewN | (refine Blw.after ?_ (by assumption)) | (refine Blw.set ?_ (by first | (dsimp only; omega) | (simp; done) | (simp; omega)) _)))) rfl
      · intro u w2 hH hd K hK
        simp only [setU, upd, List.map_cons, List.map_nil, List.contains_cons, List.contains_nil, Nat.reduceBEq, Nat.reduceAdd, Bool.or_false, Bool.false_or, Bool.or_true, Bool.true_or, Bool.false_eq_true, if_false, if_true, ite_true, ite_false, Nat.reduceEqDiff, beq_self_eq_true] at hK ⊢
        go_wp2_with (fail)
        exact hK _ _ (by (repeat' (first | assumption | exact Below.refl _ _ | apply Blw.alloc | apply Blw.drew | apply Blw.drewN | (refine Blw.after ?_ (by assumption)) | (refine Blw.set ?_ (by first | (dsimp only; omega) | (simp; done) | (simp; omega)) _)))) rfl
      · intro u w2 hH hd K hK
        have f55 : u 55 = (.slice (some ⟨g, o, none⟩) L.length c1) := hd 55 (by kernel_rfl)
        simp only [setU, upd, List.map_cons, List.map_nil, List.contains_cons, List.contains_nil, Nat.reduceBEq, Nat.reduceAdd, Bool.or_false, Bool.false_or, Bool.or_true, Bool.true_or, Bool.false_eq_true, if_false, if_true, ite_true, ite_false, Nat.reduceEqDiff, beq_self_eq_true] at hK ⊢
        rw [f55] at hK ⊢
        clear f55
        go_wp2_with (fail)
        exact hK _ _ (by (repeat' (first | assumption | exact Below.refl _ _ | apply Blw.alloc | apply Blw.drew | apply Blw.drewN | (refine Blw.after ?_ (by assumption)) | (refine Blw.set ?_ (by first | (dsimp only; omega) | (simp; done) | (simp; omega)) _)))) rfl
      · intro u w2 hH hd K hK
        have f56 : u 56 = (.pointer (some ⟨g, o, none⟩)) := hd 56 (by kernel_rfl)
        simp only [setU, upd, List.map_cons, List.map_nil, List.contains_cons, List.contains_nil, Nat.reduceBEq, Nat.reduceAdd, Bool.or_false, Bool.false_or, Bool.or_true, Bool.true_or, Bool.false_eq_true, if_false, if_true, ite_true, ite_false, Nat.reduceEqDiff, beq_self_eq_true] at hK ⊢
        rw [f56] at hK ⊢
        clear f56
        go_wp2_with (fail)
        exact hK _ _ (by (repeat' (first | assumption | exact Below.refl _ _ | apply Blw.alloc | apply Blw.drew | apply Blw.drewN | (refine Blw.after ?_ (by assumption)) | (refine Blw.set ?_ (by first | (dsimp only; omega) | (simp; done) | (simp; omega)) _)))) rfl
      · intro u w2 hH hd K hK
        have f54 : u 54 = (encP z1) := hd 54 (by kernel_rfl)
        have f57 : u 57 = (encP z0) := hd 57 (by kernel_rfl)
        simp only [setU, upd, List.map_cons, List.map_nil, List.contains_cons, List.contains_nil, Nat.reduceBEq, Nat.reduceAdd, Bool.or_false, Bool.false_or, Bool.or_true, Bool.true_or, Bool.false_eq_true, if_false, if_true, ite_true, ite_false, Nat.reduceEqDiff, beq_self_eq_true] at hK ⊢
        rw [f54, f57] at hK ⊢
        clear f54 f57
        go_wp2_with (fail)
        exact hK _ _ (by (repeat' (first | assumption | exact Below.refl _ _ | apply Blw.alloc | apply Blw.drew | apply Blw.drewN | (refine Blw.after ?_ (by assumption)) | (refine Blw.set ?_ (by first | (dsimp only; omega) | (simp; done) | (simp; omega)) _)))) rfl
      intro u w2 hH hF hne
      have hH1 := hH.1
      have hH2 := hH.2.2.2
      simp only [allFacts, SlotFact.h] at hF
      obtain ⟨f52, f53, f54, f55, f56, f57, f58, -⟩ := hF
      simp only [setU, upd, List.map_cons, List.map_nil, List.contains_cons, List.contains_nil, Nat.reduceBEq, Nat.reduceAdd, Bool.or_false, Bool.false_or, Bool.or_true, Bool.true_or, Bool.false_eq_true, if_false, if_true, ite_true, ite_false, Nat.reduceEqDiff, beq_self_eq_true]
      rw [f52, f53, f54, f55, f56, f57, f58]
      clear f52 f53 f54 f55 f56 f57 f58 hne
      refine wpListS_true ?_
      have hbx : Below W4.heap.size W4 w2 := by (repeat' (first | assumption | exact Below.refl _ _ | apply Blw.alloc | apply Blw.drew | apply Blw.drewN | (refine Blw.after ?_ (by assumption)) | (refine Blw.set ?_ (by first | (dsimp only; omega) | (simp; done) | (simp; omega)) _)))
      have HBX := Lib.hid hbx
      clear hbx hH hH1 hH2 cz0 cz1 f0 Lg
      generalize w2 = W5 at *
      go_wp2_with fail
      go_loopg [11] L.length (fun m i wr => SpRel L.length W5 m i wr)
      case atStart => exact ⟨0, by omega, rfl, Below.refl _ _⟩
      case round =>
        obtain ⟨k, hk, rfl, hB⟩ := hrel
        have hBW := Blw.after HBX.out hB
        by_cases hlt : k < L.length
        · have c0 := keepcell hBW (HCL4.out 0 (by have := HZL.out; omega))
          have ck := keepcell hBW (HCL4.out k (by have := HZL.out; omega))
          have cq := keepcell hBW (HCQ.out k (by have := HCLEN.out; omega))
          rw [← zg_get (by have := HZL.out; omega)] at c0 ck
          rw [← zg_get (by have := HCLEN.out; omega)] at cq
          rw [hz0, Nat.add_zero] at c0
          have hpt := HPTS.out k hlt
          have b0 := HZB.out 0
          have bk := HZB.out k
          have bq := HCB.out k
          rw [hz0] at b0
          have f1 := fun w t => run_mulP (P := Try.prog) w t (s := s) (p := zg Q k) hu bq
          have f2 := fun w t => run_addZ (P := Try.prog) w t (z := z0) (q := cm s (zg Q k)) b0 (cm_in hu bq)
          rw [cm_val, ← hpt] at f2
          have f3 := fun w t => neq_run2 (z := zg Z k) ⟨Nat.le_trans bk.1 (by omega), Nat.le_trans bk.2 (by omega)⟩ t w
          have Lg : g < wr.heap.size := World.block_lt_of_cell? wr _ c0
          have Lgc : gc < wr.heap.size := World.block_lt_of_cell? wr _ cq
          clear hBW hpt b0 bk bq hz0
          generalize cm s (zg Q k) = r at *
          generalize zg Q k = q at *
          generalize zg Z k = zk at *
          go_wp2_with fail
          refine region_slots (fun _ => True) [] [(71, .is (.slice (some ⟨g, o, none⟩) L.length c1)), (72, .is (.pointer (some ⟨g, o, none⟩))), (73, .is (encP z0)), (74, .is (encP s)), (75, .is (.slice (some ⟨gc, oc, none⟩) L.length c4)), (76, .is (.int .i64 (k : Nat))), (77, .is (.pointer (some ⟨gc, oc + k, none⟩))), (78, .is (encP q)), (79, .is (encZ r)), (80, .is (encP zk)), (81, .is (.slice (some ⟨g, o, none⟩) L.length c1)), (82, .is (.int .i64 (k : Nat))), (83, .is (.pointer (some ⟨g, o + k, none⟩))), (84, .is (encP zk)), (85, .is (.bool false))] (by kernel_rfl) (by kernel_rfl) (by kernel_rfl) (fun _ _ => trivial) (fun _ _ _ _ _ _ h => h) ?_
          simp only [Steps, List.contains_cons, List.contains_nil, Nat.reduceBEq, Nat.reduceAdd, Bool.or_false, Bool.false_or, Bool.or_true, Bool.true_or, Bool.false_eq_true, if_false, if_true]
          refine ⟨?_, ?_, ?_, ?_, ?_, ?_, ?_, ?_, ?_, ?_, ?_, ?_, ?_, ?_, ?_, ?_⟩
          · intro u w2 hH hd K hK
            simp only [setU, upd, List.map_cons, List.map_nil, List.contains_cons, List.contains_nil, Nat.reduceBEq, Nat.reduceAdd, Bool.or_false, Bool.false_or, Bool.or_true, Bool.true_or, Bool.false_eq_true, if_false, if_true, ite_true, ite_false, Nat.reduceEqDiff, beq_self_eq_true] at hK ⊢
            go_wp2_with (fail)
            exact hK _ _ (by (repeat' (first | assumption | exact Below.refl _ _ | apply Blw.alloc | apply Blw.drew | apply Blw.drewN | (refine Blw.after ?_ (by assumption)) | (refine Blw.set ?_ (by first | (dsimp only; omega) | (simp; done) | (simp; omega)) _)))) rfl
          · intro u w2 hH hd K hK
            have f71 : u 71 = (.slice (some ⟨g, o, none⟩) L.length c1) := hd 71 (by kernel_rfl)
            simp only [setU, upd, List.map_cons, List.map_nil, List.contains_cons, List.contains_nil, Nat.reduceBEq, Nat.reduceAdd, Bool.or_false, Bool.false_or, Bool.or_true, Bool.true_or, Bool.false_eq_true, if_false, if_true, ite_true, ite_false, Nat.reduceEqDiff, beq_self_eq_true] at hK ⊢
            rw [f71] at hK ⊢
            clear f71
            go_wp2_with (fail)
            exact hK _ _ (by (repeat' (first | assumption | exact Below.refl _ _ | apply Blw.alloc | apply Blw.drew | apply Blw.drewN | (refine Blw.after ?_ (by assumption)) | (refine Blw.set ?_ (by first | (dsimp only; omega) | (simp; done) | (simp; omega)) _)))) rfl
          · intro u w2 hH hd K hK
            have f72 : u 72 = (.pointer (some ⟨g, o, none⟩)) := hd 72 (by kernel_rfl)
            simp only [setU, upd, List.map_cons, List.map_nil, List.contains_cons, List.contains_nil, Nat.reduceBEq, Nat.reduceAdd, Bool.or_false, Bool.false_or, Bool.or_true, Bool.true_or, Bool.false_eq_true, if_false, if_true, ite_true, ite_false, Nat.reduceEqDiff, beq_self_eq_true] at hK ⊢
            rw [f72] at hK ⊢
            clear f72
            go_wp2_with (fail)
            exact hK _ _ (by (repeat' (first | assumption | exact Below.refl _ _ | apply Blw.alloc | apply Blw.drew | apply Blw.drewN | (refine Blw.after ?_ (by assumption)) | (refine Blw.set ?_ (by first | (dsimp only; omega) | (simp; done) | (simp; omega)) _)))) rfl
          · intro u w2 hH hd K hK
            simp only [setU, upd, List.map_cons, List.map_nil, List.contains_cons, List.contains_nil, Nat.reduceBEq, Nat.reduceAdd, Bool.or_false, Bool.false_or, Bool.or_true, Bool.true_or, Bool.false_eq_true, if_false, if_true, ite_true, ite_false, Nat.reduceEqDiff, beq_self_eq_true] at hK ⊢
            go_wp2_with (fail)
            exact hK _ _ (by (repeat' (first | assumption | exact Below.refl _ _ | apply Blw.alloc | apply Blw.drew | apply Blw.drewN | (refine Blw.after ?_ (by assumption)) | (refine Blw.set ?_ (by first | (dsimp only; omega) | (simp; done) | (simp; omega)) _)))) rfl
          · intro u w2 hH hd K hK
            simp only [setU, upd, List.map_cons, List.map_nil, List.contains_cons, List.contains_nil, Nat.reduceBEq, Nat.reduceAdd, Bool.or_false, Bool.false_or, Bool.or_true, Bool.true_or, Bool.false_eq_true, if_false, if_true, ite_true, ite_false, Nat.reduceEqDiff, beq_self_eq_true] at hK ⊢
            go_wp2_with (fail)
            exact hK _ _ (by (repeat' (first | assumption | exact Below.refl _ _ | apply Blw.alloc | apply Blw.drew | apply Blw.drewN | (refine Blw.after ?_ (by assumption)) | (refine Blw.set ?_ (by first | (dsimp only; omega) | (simp; done) | (simp; omega)) _)))) rfl
          · intro u w2 hH hd K hK
            simp only [setU, upd, List.map_cons, List.map_nil, List.contains_cons, List.contains_nil, Nat.reduceBEq, Nat.reduceAdd, Bool.or_false, Bool.false_or, Bool.or_true, Bool.true_or, Bool.false_eq_true, if_false, if_true, ite_true, ite_false, Nat.reduceEqDiff, beq_self_eq_true] at hK ⊢
            go_wp2_with (fail)
            exact hK _ _ (by (repeat' (first | assumption | exact Below.refl _ _ | apply Blw.alloc | apply Blw.drew | apply Blw.drewN | (refine Blw.after ?_ (by assumption)) | (refine Blw.set ?_ (by first | (dsimp only; omega) | (simp; done) | (simp; omega)) _)))) rfl
          · intro u w2 hH hd K hK
            have f75 : u 75 = (.slice (some ⟨gc, oc, none⟩) L.length c4) := hd 75 (by kernel_rfl)
            have f76 : u 76 = (.int .i64 (k : Nat)) := hd 76 (by kernel_rfl)
            simp only [setU, upd, List.map_cons, List.map_nil, List.contains_cons, List.contains_nil, Nat.reduceBEq, Nat.reduceAdd, Bool.or_false, Bool.false_or, Bool.or_true, Bool.true_or, Bool.false_eq_true, if_false, if_true, ite_true, ite_false, Nat.reduceEqDiff, beq_self_eq_true] at hK ⊢
            rw [f75, f76] at hK ⊢
            clear f75 f76
            go_wp2_with (fail)
            exact hK _ _ (by (repeat' (first | assumption | exact Below.refl _ _ | apply Blw.alloc | apply Blw.drew | apply Blw.drewN | (refine Blw.after ?_ (by assumption)) | (refine Blw.set ?_ (by first | (dsimp only; omega) | (simp; done) | (simp; omega)) _)))) rfl
          · intro u w2 hH hd K hK
            have f77 : u 77 = (.pointer (some ⟨gc, oc + k, none⟩)) := hd 77 (by kernel_rfl)
            simp only [setU, upd, List.map_cons, List.map_nil, List.contains_cons, List.contains_nil, Nat.reduceBEq, Nat.reduceAdd, Bool.or_false, Bool.false_or, Bool.or_true, Bool.true_or, Bool.false_eq_true, if_false, if_true, ite_true, ite_false, Nat.reduceEqDiff, beq_self_eq_true] at hK ⊢
            rw [f77] at hK ⊢
            clear f77
            go_wp2_with (fail)
            exact hK _ _ (by (repeat' (first | assumption | exact Below.refl _ _ | apply Blw.alloc | apply Blw.drew | apply Blw.drewN | (refine Blw.after ?_ (by assumption)) | (refine Blw.set ?_ (by first | (dsimp only; omega) | (simp; done) | (simp; omega)) _)))) rfl
          · intro u w2 hH hd K hK
            have f74 : u 74 = (encP s) := hd 74 (by kernel_rfl)
            have f78 : u 78 = (encP q) := hd 78 (by kernel_rfl)
            simp only [setU, upd, List.map_cons, List.map_nil, List.contains_cons, List.contains_nil, Nat.reduceBEq, Nat.reduceAdd, Bool.or_false, Bool.false_or, Bool.or_true, Bool.true_or, Bool.false_eq_true, if_false, if_true, ite_true, ite_false, Nat.reduceEqDiff, beq_self_eq_true] at hK ⊢
            rw [f74, f78] at hK ⊢
            clear f74 f78
            go_wp2_with (fail)
            exact hK _ _ (by (repeat' (first | assumption | exact Below.refl _ _ | apply Blw.alloc | apply Blw.drew | apply Blw.drewN | (refine Blw.after ?_ (by assumption)) | (refine Blw.set ?_ (by first | (dsimp only; omega) | (simp; done) | (simp; omega)) _)))) rfl
          · intro u w2 hH hd K hK
            have f73 : u 73 = (encP z0) := hd 73 (by kernel_rfl)
            have f79 : u 79 = (encZ r) := hd 79 (by kernel_rfl)
            simp only [setU, upd, List.map_cons, List.map_nil, List.contains_cons, List.contains_nil, Nat.reduceBEq, Nat.reduceAdd, Bool.or_false, Bool.false_or, Bool.or_true, Bool.true_or, Bool.false_eq_true, if_false, if_true, ite_true, ite_false, Nat.reduceEqDiff, beq_self_eq_true] at hK ⊢
            rw [f73, f79] at hK ⊢
            clear f73 f79
            go_wp2_with (fail)
            exact hK _ _ (by (repeat' (first | assumption | exact Below.refl _ _ | apply Blw.alloc | apply Blw.drew | apply Blw.drewN | (refine Blw.after ?_ (by assumption)) | (refine Blw.set ?_ (by first | (dsimp only; omega) | (simp; done) | (simp; omega)) _)))) rfl
          · intro u w2 hH hd K hK
            simp only [setU, upd, List.map_cons, List.map_nil, List.contains_cons, List.contains_nil, Nat.reduceBEq, Nat.reduceAdd, Bool.or_false, Bool.false_or, Bool.or_true, Bool.true_or, Bool.false_eq_true, if_false, if_true, ite_true, ite_false, Nat.reduceEqDiff, beq_self_eq_true] at hK ⊢
            go_wp2_with (fail)
            exact hK _ _ (by (repeat' (first | assumption | exact Below.refl _ _ | apply Blw.alloc | apply Blw.drew | apply Blw.drewN | (refine Blw.after ?_ (by assumption)) | (refine Blw.set ?_ (by first | (dsimp only; omega) | (simp; done) | (simp; omega)) _)))) rfl
          · intro u w2 hH hd K hK
            simp only [setU, upd, List.map_cons, List.map_nil, List.contains_cons, List.contains_nil, Nat.reduceBEq, Nat.reduceAdd, Bool.or_false, Bool.false_or, Bool.or_true, Bool.true_or, Bool.false_eq_true, if_false, if_true, ite_true, ite_false, Nat.reduceEqDiff, beq_self_eq_true] at hK ⊢
            go_wp2_with (fail)
            exact hK _ _ (by (repeat' (first | assumption | exact Below.refl _ _ | apply Blw.alloc | apply Blw.drew | apply Blw.drewN | (refine Blw.after ?_ (by assumption)) | (refine Blw.set ?_ (by first | (dsimp only; omega) | (simp; done) | (simp; omega)) _)))) rfl
          · intro u w2 hH hd K hK
            have f81 : u 81 = (.slice (some ⟨g, o, none⟩) L.length c1) := hd 81 (by kernel_rfl)
            have f82 : u 82 = (.int .i64 (k : Nat)) := hd 82 (by kernel_rfl)
            simp only [setU, upd, List.map_cons, List.map_nil, List.contains_cons, List.contains_nil, Nat.reduceBEq, Nat.reduceAdd, Bool.or_false, Bool.false_or, Bool.or_true, Bool.true_or, Bool.false_eq_true, if_false, if_true, ite_true, ite_false, Nat.reduceEqDiff, beq_self_eq_true] at hK ⊢
            rw [f81, f82] at hK ⊢
            clear f81 f82
            go_wp2_with (fail)
            exact hK _ _ (by (repeat' (first | assumption | exact Below.refl _ _ | apply Blw.alloc | apply Blw.drew | apply Blw.drewN | (refine Blw.after ?_ (by assumption)) | (refine Blw.set ?_ (by first | (dsimp only; omega) | (simp; done) | (simp; omega)) _)))) rfl
          · intro u w2 hH hd K hK
            have f83 : u 83 = (.pointer (some ⟨g, o + k, none⟩)) := hd 83 (by kernel_rfl)
            simp only [setU, upd, List.map_cons, List.map_nil, List.contains_cons, List.contains_nil, Nat.reduceBEq, Nat.reduceAdd, Bool.or_false, Bool.false_or, Bool.or_true, Bool.true_or, Bool.false_eq_true, if_false, if_true, ite_true, ite_false, Nat.reduceEqDiff, beq_self_eq_true] at hK ⊢
            rw [f83] at hK ⊢
            clear f83
            go_wp2_with (fail)
            exact hK _ _ (by (repeat' (first | assumption | exact Below.refl _ _ | apply Blw.alloc | apply Blw.drew | apply Blw.drewN | (refine Blw.after ?_ (by assumption)) | (refine Blw.set ?_ (by first | (dsimp only; omega) | (simp; done) | (simp; omega)) _)))) rfl
          · intro u w2 hH hd K hK
            have f80 : u 80 = (encP zk) := hd 80 (by kernel_rfl)
            have f84 : u 84 = (encP zk) := hd 84 (by kernel_rfl)
            simp only [setU, upd, List.map_cons, List.map_nil, List.contains_cons, List.contains_nil, Nat.reduceBEq, Nat.reduceAdd, Bool.or_false, Bool.false_or, Bool.or_true, Bool.true_or, Bool.false_eq_true, if_false, if_true, ite_true, ite_false, Nat.reduceEqDiff, beq_self_eq_true] at hK ⊢
            rw [f80, f84] at hK ⊢
            clear f80 f84
            go_wp2_with (fail)
            exact hK _ _ (by (repeat' (first | assumption | exact Below.refl _ _ | apply Blw.alloc | apply Blw.drew | apply Blw.drewN | (refine Blw.after ?_ (by assumption)) | (refine Blw.set ?_ (by first | (dsimp only; omega) | (simp; done) | (simp; omega)) _)))) rfl
          intro u w2 hH hF hne
          have hH1 := hH.1
          have hH2 := hH.2.2.2
          simp only [allFacts, SlotFact.h] at hF
          obtain ⟨f71, f72, f73, f74, f75, f76, f77, f78, f79, f80, f81, f82, f83, f84, f85, -⟩ := hF
          simp only [setU, upd, List.map_cons, List.map_nil, List.contains_cons, List.contains_nil, Nat.reduceBEq, Nat.reduceAdd, Bool.or_false, Bool.false_or, Bool.or_true, Bool.true_or, Bool.false_eq_true, if_false, if_true, ite_true, ite_false, Nat.reduceEqDiff, beq_self_eq_true]
          rw [f71, f72, f73, f74, f75, f76, f77, f78, f79, f80, f81, f82, f83, f84, f85]
          clear f71 f72 f73 f74 f75 f76 f77 f78 f79 f80 f81 f82 f83 f84 f85 hne
          refine wpListS_true ?_
          go_wp2
          go_roundg (gk - 1)
          case measure => omega
          case rel => exact ⟨k + 1, by omega, by go_num, by (repeat' (first | assumption | exact Below.refl _ _ | apply Blw.alloc | apply Blw.drew | apply Blw.drewN | (refine Blw.after ?_ (by assumption)) | (refine Blw.set ?_ (by first | (dsimp only; omega) | (simp; done) | (simp; omega)) _)))⟩
        · obtain rfl : k = L.length := by omega
          have HB6 := Lib.hid (Blw.after HB4.out hBW)
          clear hBW hB
          go_wp2_with fail
          go_ret
          exact ⟨rfl, HB6.out⟩

namespace lawFnCurveWord
set_option maxRecDepth 100000 in
theorem lifted (os : Os) (started : os.Started) (H : Type) (enc : TypeId × Value → H) :
    ReturnsInHanded {} Try.checked os 5 .any (Rows.fnCurveWordSpec.pre6 enc Try.prog Try.f5 Rows.fnCurveWordRow.domain false) (Rows.fnCurveWordSpec.post enc Try.prog Try.f5 false true false false) := by
  refine returnsInHanded_of_change (C := Try.checked) own started (by kernel_rfl) Try.func5
    (ChangeSpec.witness6 (enc := enc) (C := Try.checked) false ⟨#[], #[.slice none 0 0], []⟩ 8 (by kernel_rfl) (by kernel_rfl) (by kernel_rfl) (by kernel_rfl)) ?_
  intro W base args ds gs before hval0 hW _ _
  have hval : ∀ (j : Nat) t v, Try.f5.params[j]? = some t → args[j]? = some v → Value.okWide Try.prog W .any base t v := hval0
  have hW' := hW
  obtain ⟨p, q, hA0, hV, rfl, _, _⟩ := hW
  have hA : DataW.TrodAll enc Try.prog W 0 (fun _ => true) true Try.f5.params.toList args.toList ds p := hA0
  rw [Try.params5] at hA hval
  obtain ⟨v0, vs0, d0, ds0, p0, q0, hargs, rfl, rfl, h0, r0⟩ := trodAll_cons hA
  obtain ⟨rfl, rfl, rfl⟩ := trodAll_nil r0
  obtain rfl : args = #[v0] := by cases args; simp_all
  obtain ⟨rfl, rfl⟩ := trodVars_none hV
  obtain ⟨a, len, cap, rfl⟩ := okWide_slice Try.underlying22 (hval 0 22 v0 rfl rfl)
  clear hA0 hval0
  simp only [List.append_nil] at hW'
  have hlt : ∀ x ∈ p0, x.block < W.heap.size := fun x hx => by simpa using hW'.lt x hx
  refine (lawCurveWord_c a len cap W (code_of h0)).mono fun e W' ⟨he, hg⟩ => ?_
  subst he
  have harg := Below.trod laidOut (by kernel_rfl) (of_decide_eq_true (by kernel_rfl)) h0 hg hlt
  refine ⟨_, rfl, _, _, _, [], p0, [], hW', ?_, ?_, ?_, hg.frame _, fun h => by cases h⟩
  · exact trodAll_cons_mk (shut_bool Try.underlying4 _) trodAll_mk0
  · exact trodAll_mk1 harg
  · rfl

theorem proved : Rows.FnCurveWordSaid :=
  OpenClaim.holds_of_wide 5 Try.f5 rfl rfl rfl rfl rfl rfl rfl ⟨rfl, rfl, rfl, rfl, rfl⟩ rfl rfl rfl rfl rfl (by kernel_rfl) Try.func5 (by kernel_rfl)
    (of_decide_eq_true (by kernel_rfl)) (by unfold Func.isWrapper; first | (rw [if_pos (by decide +kernel)]; kernel_rfl) | (rw [if_neg (by decide +kernel)]; exact ⟨rfl, rfl⟩))
    (fun os started H enc _ => lifted os started H enc)
end lawFnCurveWord
end Go.Proofs.Ytljmmmkehieboaa

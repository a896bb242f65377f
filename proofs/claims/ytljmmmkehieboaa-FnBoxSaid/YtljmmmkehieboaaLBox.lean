/- FnBox: whatever the code draws, all points of a path are within its box, and both sides together are less than the number of points. -/
import Derived.Test.YtljmmmkehieboaaDrawM
import Derived.Test.YtljmmmkehieboaaBxi
import Derived.Test.YtljmmmkehieboaaSp
import Derived.Test.YtljmmmkehieboaaBaseP
namespace Go.Proofs.Ytljmmmkehieboaa
set_option linter.unusedSimpArgs false
set_option linter.unusedVariables false
open Go.ChangeShapes Go.WideShapes Go.ChangeAt Go.RowKit Go.Joins

theorem ord_not_lt {a b : Int} (ha : a.natAbs ≤ 2000000) (hb : b.natAbs ≤ 2000000) (h : b ≤ a) : (FloatKind.f32.format.order (floatOfInt .f32 a) (floatOfInt .f32 b) == some Ordering.lt) = false := by
  rw [ff_order ha hb]
  rcases Int.lt_or_eq_of_le h with h | h
  · rw [Int.compare_eq_gt.2 h]; rfl
  · rw [Int.compare_eq_eq.2 h.symm]; rfl
theorem ord_not_gt {a b : Int} (ha : a.natAbs ≤ 2000000) (hb : b.natAbs ≤ 2000000) (h : a ≤ b) : (FloatKind.f32.format.order (floatOfInt .f32 a) (floatOfInt .f32 b) == some Ordering.gt) = false := by
  rw [ff_order ha hb]
  rcases Int.lt_or_eq_of_le h with h | h
  · rw [Int.compare_eq_lt.2 h]; rfl
  · rw [Int.compare_eq_eq.2 h]; rfl
def LbRel (n : Nat) (w : World) (m : Nat) (i : Value) (wr : World) : Prop := ∃ k : Nat, k + m = n ∧ i = .int .i64 k ∧ wr = w
theorem same_00 (w : World) : Calls Try.prog 30 #[.complex .f32 0 0, .complex .f32 0 0] w fun e w' => e = .returned (.bool true) ∧ w = w' := by
  rw [← enc00]; exact sameP_c (by unfold Sm; decide) w
set_option maxRecDepth 100000 in
set_option maxHeartbeats 8000000 in
theorem lawBox_c (a : Option Addr) (len cap : Nat) (w : World) (hc : len ≤ 1048576 → Code (.slice a len cap) w) : Calls Try.prog 8 #[.slice a len cap] w fun e w' => e = .returned (.bool true) ∧ Below w.heap.size w w' := by
  by_cases hl : 1048576 < len
  · go_enter Try.func8, Try.ntmps8
    go_wp2_with fail
    go_ret
    exact ⟨rfl, by (repeat' (first | assumption | exact Below.refl _ _ | apply Blw.alloc | apply Blw.drew | apply Blw.drewN | (refine Blw.after ?_ (by assumption)) | (refine Blw.set ?_ (by first | (dsimp only; omega) | (simp; done) | (simp; omega)) _)))⟩
  · have hc' := hc (by omega)
    clear hc
    go_enter Try.func8, Try.ntmps8
    go_wp2_with fail
    refine (drawCurveBox_c _ w hc').mono ?_
    rintro e W1 ⟨v, L, rfl, ho, hL, hbq, hb1⟩
    clear hc'
    obtain ⟨a1, c1, rfl, hcs, -⟩ := own_csl ho
    rw [List.length_map]
    have HC := Lib.hid hcs
    have HBQ := Lib.hid (bq_up hbq (show 200 ≤ 400 by omega))
    have HB1 := Lib.hid hb1
    clear ho hcs hb1 hbq
    go_wp2_with fail
    refine (iCurveBox_c a1 c1 L W1 (by omega) HBQ.out HC.out).mono ?_
    rintro e W2 ⟨rfl, hb2⟩
    have HC2 := Lib.hid (HC.out.keep hb2)
    have HB2 := Lib.hid (Blw.after HB1.out hb2)
    clear hb2
    rcases Bool.eq_false_or_eq_true (pathZ L) with hp | hp
    · have hV := bxV_t hp
      have hP := pathZ_iff.1 hp
      have hZP := pathP_of hP
      have hzb := val_map_bp HBQ.out
      have hzl : (L.map val).length = L.length := by rw [List.length_map]
      have HS := Lib.hid (sCurveBox_c a1 c1 L W2 (by omega) HBQ.out HC2.out)
      have hlen : 1 ≤ L.length := hP.1
      rw [hV]
      rw [hV] at HS
      have hcz : CSl a1 ((L.map val).map encP) W2 := by rw [← enc_of hP]; exact HC2.out
      clear HC HC2 HB1 hp hP hV
      generalize L.map val = Z at *
      have HIN := Lib.hid (fun j (hj : j < Z.length) => box_in Z Z.length j hj)
      have hsh := box_short hZP Z.length (by omega) (Nat.le_refl _)
      have hlo := loB_in hzb Z.length
      have hhi := hiB_in hzb Z.length
      rw [← hzl] at HS ⊢
      obtain ⟨g, o, rfl, hg, hcell⟩ := cs_at hcz (by omega)
      have HZB := Lib.hid hzb
      have HCL := Lib.hid hcell
      have hsl : Sm (loB Z Z.length) := ⟨Nat.le_trans hlo.1 (by omega), Nat.le_trans hlo.2 (by omega)⟩
      have hsh2 : Sm (hiB Z Z.length) := ⟨Nat.le_trans hhi.1 (by omega), Nat.le_trans hhi.2 (by omega)⟩
      have HS1 := Lib.hid (fun w => sameP_c hsl w)
      have HS2 := Lib.hid (fun w => sameP_c hsh2 w)
      have f1 := fun w t => run_psub (P := Try.prog) w t hsh2 hsl
      have hd1 : (subP (hiB Z Z.length) (loB Z Z.length)).1.natAbs ≤ 800 ∧ (subP (hiB Z Z.length) (loB Z Z.length)).2.natAbs ≤ 800 := by
        unfold Bp at hlo hhi
        unfold subP; dsimp only; omega
      have hd2 : (subP (hiB Z Z.length) (loB Z Z.length)).1 + (subP (hiB Z Z.length) (loB Z Z.length)).2 < (L.length : Nat) := by
        unfold subP; dsimp only; omega
      have HD := Lib.hid hlo
      have HU := Lib.hid hhi
      clear hzb hcell hsh hlo hhi hZP hcz hsl hsh2
      generalize loB Z Z.length = lo at *
      generalize hiB Z Z.length = hi at *
      generalize subP hi lo = d at *
      rw [hzl] at HS ⊢
      have f2 := fun w => run_float_arith (P := Try.prog) w .add 34 .f32 _ _ _ (ff_add (k := .f32) (a := d.1) (b := d.2) (by omega) (by omega))
      change ∀ w, (binOp .add _ (.float .f32 (px d)) (.float .f32 (py d))).run _ w = _ at f2
      have f3 := fun w => toInt_run (a := d.1 + d.2) (by omega) w
      generalize floatOfInt .f32 (d.1 + d.2) = sumw at *
      generalize d.1 + d.2 = dd at *
      go_wp2_with fail
      refine HS.out.mono ?_
      rintro e W3 ⟨rfl, hb3⟩
      have HB3 := Lib.hid (Blw.after HB2.out hb3)
      have HCL3 := Lib.hid (fun k hk => keepcell hb3 (HCL.out k hk))
      clear hb3 HB2 HS HCL
      go_wp2_with (first | (go_at_call_of 30 (encP lo); refine (HS1.out _).mono ?_; rintro e w1 ⟨rfl, rfl⟩) | (go_at_call_of 30 (encP hi); refine (HS2.out _).mono ?_; rintro e w1 ⟨rfl, rfl⟩))
      clear HS1 HS2
      go_loopg [10] Z.length (fun m i wr => LbRel Z.length W3 m i wr)
      case atStart => exact ⟨0, by omega, rfl, rfl⟩
      case round =>
        obtain ⟨k, hk, rfl, rfl⟩ := hrel
        by_cases hlt : k < Z.length
        · have ck := HCL3.out k hlt
          rw [← zg_get hlt] at ck
          have lk : k < L.length := by omega
          have hz := zg_in HZB.out k
          obtain ⟨b1, b2, b3, b4⟩ := HIN.out k hlt
          have o1 := ord_not_lt (a := (zg Z k).1) (b := lo.1) (Nat.le_trans hz.1 (by omega)) (Nat.le_trans HD.out.1 (by omega)) b1
          have o2 := ord_not_gt (a := (zg Z k).1) (b := hi.1) (Nat.le_trans hz.1 (by omega)) (Nat.le_trans HU.out.1 (by omega)) b2
          have o3 := ord_not_lt (a := (zg Z k).2) (b := lo.2) (Nat.le_trans hz.2 (by omega)) (Nat.le_trans HD.out.2 (by omega)) b3
          have o4 := ord_not_gt (a := (zg Z k).2) (b := hi.2) (Nat.le_trans hz.2 (by omega)) (Nat.le_trans HU.out.2 (by omega)) b4
          change (FloatKind.f32.format.order (px (zg Z k)) (px lo) == some Ordering.lt) = false at o1
          change (FloatKind.f32.format.order (px (zg Z k)) (px hi) == some Ordering.gt) = false at o2
          change (FloatKind.f32.format.order (py (zg Z k)) (py lo) == some Ordering.lt) = false at o3
          change (FloatKind.f32.format.order (py (zg Z k)) (py hi) == some Ordering.gt) = false at o4
          clear hz b1 b2 b3 b4 f1 f2 f3 hd1 hd2
          generalize zg Z k = z at *
          go_wp2_with fail
          go_roundg (gk - 1)
          case measure => omega
          case rel => exact ⟨k + 1, by omega, by go_num, rfl⟩
        · obtain rfl : k = Z.length := by omega
          go_wp2_with fail
          go_ret
          exact ⟨rfl, HB3.out⟩
    · have hV := bxV_f hp
      rw [hV]
      go_wp2_with fail
      refine (sCurveBox_c a1 c1 L W2 (by omega) HBQ.out HC2.out).mono ?_
      rintro e W3 ⟨rfl, hb3⟩
      rw [hV]
      have HB3 := Lib.hid (Blw.after HB2.out hb3)
      clear hb3
      go_wp2_with (first | (go_at_call 30; refine (same_00 _).mono ?_; rintro e w1 ⟨rfl, rfl⟩))
      go_ret
      exact ⟨rfl, HB3.out⟩

namespace lawFnBox
set_option maxRecDepth 100000 in
theorem lifted (os : Os) (started : os.Started) (H : Type) (enc : TypeId × Value → H) :
    ReturnsInHanded {} Try.checked os 8 .any (Rows.fnBoxSpec.pre6 enc Try.prog Try.f8 Rows.fnBoxRow.domain false) (Rows.fnBoxSpec.post enc Try.prog Try.f8 false true false false) := by
  refine returnsInHanded_of_change (C := Try.checked) own started (by kernel_rfl) Try.func8
    (ChangeSpec.witness6 (enc := enc) (C := Try.checked) false ⟨#[], #[.slice none 0 0], []⟩ 8 (by kernel_rfl) (by kernel_rfl) (by kernel_rfl) (by kernel_rfl)) ?_
  intro W base args ds gs before hval0 hW _ _
  have hval : ∀ (j : Nat) t v, Try.f8.params[j]? = some t → args[j]? = some v → Value.okWide Try.prog W .any base t v := hval0
  have hW' := hW
  obtain ⟨p, q, hA0, hV, rfl, _, _⟩ := hW
  have hA : DataW.TrodAll enc Try.prog W 0 (fun _ => true) true Try.f8.params.toList args.toList ds p := hA0
  rw [Try.params8] at hA hval
  obtain ⟨v0, vs0, d0, ds0, p0, q0, hargs, rfl, rfl, h0, r0⟩ := trodAll_cons hA
  obtain ⟨rfl, rfl, rfl⟩ := trodAll_nil r0
  obtain rfl : args = #[v0] := by cases args; simp_all
  obtain ⟨rfl, rfl⟩ := trodVars_none hV
  obtain ⟨a, len, cap, rfl⟩ := okWide_slice Try.underlying22 (hval 0 22 v0 rfl rfl)
  clear hA0 hval0
  simp only [List.append_nil] at hW'
  have hlt : ∀ x ∈ p0, x.block < W.heap.size := fun x hx => by simpa using hW'.lt x hx
  refine (lawBox_c a len cap W (code_of h0)).mono fun e W' ⟨he, hg⟩ => ?_
  subst he
  have harg := Below.trod laidOut (by kernel_rfl) (of_decide_eq_true (by kernel_rfl)) h0 hg hlt
  refine ⟨_, rfl, _, _, _, [], p0, [], hW', ?_, ?_, ?_, hg.frame _, fun h => by cases h⟩
  · exact trodAll_cons_mk (shut_bool Try.underlying4 _) trodAll_mk0
  · exact trodAll_mk1 harg
  · rfl

theorem proved : Rows.FnBoxSaid :=
  OpenClaim.holds_of_wide 8 Try.f8 rfl rfl rfl rfl rfl rfl rfl ⟨rfl, rfl, rfl, rfl, rfl⟩ rfl rfl rfl rfl rfl (by kernel_rfl) Try.func8 (by kernel_rfl)
    (of_decide_eq_true (by kernel_rfl)) (by unfold Func.isWrapper; first | (rw [if_pos (by decide +kernel)]; kernel_rfl) | (rw [if_neg (by decide +kernel)]; exact ⟨rfl, rfl⟩))
    (fun os started H enc _ => lifted os started H enc)
end lawFnBox
end Go.Proofs.Ytljmmmkehieboaa

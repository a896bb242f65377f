/- FnCurve: whatever the code draws, the curve of a word is a path from 0 to 1 at first, with 2 points more than the word has letters, and its word is the word. -/
import Derived.Test.YtljmmmkehieboaaDrawC
import Derived.Test.YtljmmmkehieboaaCa
import Derived.Test.YtljmmmkehieboaaCwi
import Derived.Test.YtljmmmkehieboaaSp
import Derived.Test.YtljmmmkehieboaaBaseP
namespace Go.Proofs.Ytljmmmkehieboaa
set_option linter.unusedSimpArgs false
set_option linter.unusedVariables false
open Go.ChangeShapes Go.WideShapes Go.ChangeAt Go.RowKit Go.Joins

theorem crv_step {l : List UInt8} {k : Nat} (h : k ≤ l.length) : stpZ (crvL l) k = stP (l.take k) := by
  have hk : k + 1 < (crvL l).length := by rw [crvL_len]; omega
  unfold stpZ
  rw [crvL_succ h]
  cases k with
  | zero => rw [crvL_zero, List.take_zero]; rfl
  | succ k =>
    rw [crvL_succ (by omega)]
    have hl : l[k]? = some l[k] := List.getElem?_eq_getElem (by omega)
    rw [take_snocL hl, psP_snoc, stP_snoc]
    unfold subP addP
    simp only [Option.getD_some]
    apply Prod.ext <;> dsimp only <;> omega
theorem sqN_trn (c : UInt8) (z : Int × Int) : sqN (trn c z) = sqN z := by
  unfold sqN trn
  split <;> dsimp only
  · rw [Int.neg_mul_neg]; omega
  · rw [Int.neg_mul_neg]; omega
theorem stP_sq (l : List UInt8) : sqN (stP l) = 1 := by
  induction l using rev_ind with
  | h0 => rfl
  | h1 l c ih => rw [stP_snoc, sqN_trn]; exact ih
theorem crv_path {l : List UInt8} (h : l.length ≤ 1023) : PathP (crvL l) := by
  refine ⟨by rw [crvL_len]; omega, by rw [crvL_len]; omega, fun j a b ha hb => ?_⟩
  have hj := (List.getElem?_eq_some_iff.1 hb).1
  rw [crvL_len] at hj
  have e := crv_step (l := l) (k := j) (by omega)
  unfold stpZ at e
  rw [ha, hb] at e
  unfold nbr
  simp only [Option.getD_some] at e
  rw [e, stP_sq]; rfl
theorem ltr_trn {c : UInt8} (hc : wdC c = true) {z : Int × Int} (hz : sqN z = 1) : ltr z (trn c z) = some c := by
  rcases unit_cases.1 hz with rfl | rfl | rfl | rfl <;> rcases wdC_or hc with rfl | rfl <;> decide
theorem crv_ltrs {l : List UInt8} (h : ∀ c ∈ l, wdC c = true) : ∀ k, k ≤ l.length → ltrs (crvL l) k = some (l.take k) := by
  intro k
  induction k with
  | zero => intro _; rw [ltrs_zero, List.take_zero]
  | succ k ih =>
    intro hk
    have hl : l[k]? = some l[k] := List.getElem?_eq_getElem (by omega)
    rw [take_snocL hl]
    refine ltrs_some (ih (by omega)) ?_
    rw [crv_step (by omega), crv_step hk, take_snocL hl, stP_snoc]
    exact ltr_trn (h _ (List.getElem_mem _)) (stP_sq _)
theorem crv_cwO {s : ByteArray} (h : wdB 1023 s = true) : cwO ((crvL (toL s)).map canQ) = some (toL s) := by
  have hp := pathZ_t (pathZ_can (crv_path (l := toL s) (by rw [toL_len]; exact wdB_len h)))
  rw [cwO_yes hp (by rw [List.length_map, crvL_len]; omega), List.map_map]
  have e : (crvL (toL s)).map (val ∘ canQ) = crvL (toL s) := by
    conv => rhs; rw [← List.map_id (crvL (toL s))]
    apply List.map_congr_left
    intro z _
    exact val_can z
  rw [e, List.length_map, crvL_len, Nat.add_sub_cancel, crv_ltrs (wdB_all h) _ (Nat.le_refl _), List.take_length]
set_option maxRecDepth 100000 in
set_option maxHeartbeats 4000000 in
theorem lawCurve_c (a : Option Addr) (len cap : Nat) (w : World) (hc : len ≤ 1048576 → Code (.slice a len cap) w) : Calls Try.prog 3 #[.slice a len cap] w fun e w' => e = .returned (.bool true) ∧ Below w.heap.size w w' := by
  by_cases hl : 1048576 < len
  · go_enter Try.func3, Try.ntmps3
    go_wp2_with fail
    go_ret
    exact ⟨rfl, by (repeat' (first | assumption | exact Below.refl _ _ | apply Blw.alloc | apply Blw.drew | apply Blw.drewN | (refine Blw.after ?_ (by assumption)) | (refine Blw.set ?_ (by first | (dsimp only; omega) | (simp; done) | (simp; omega)) _)))⟩
  · have hc' := hc (by omega)
    clear hc
    go_enter Try.func3, Try.ntmps3
    go_wp2_with fail
    refine (drawCurveOf_c _ w hc').mono ?_
    rintro e W1 ⟨s, rfl, ht, hb1⟩
    clear hc'
    have HB1 := Lib.hid hb1
    clear hb1
    go_wp2_with fail
    refine (iCurveOf_c s W1).mono ?_
    rintro e W2 ⟨v0, rfl, ho0, hb2⟩
    have hc0 := ho0
    obtain ⟨a0, c0, rfl, hg0, -⟩ := own_csl ho0
    have hcap := own_cap hc0
    rw [List.length_map]
    have HG0 := Lib.hid hg0
    have HB2 := Lib.hid (Blw.after HB1.out hb2)
    clear ho0 hc0 hg0 hb2 HB1
    go_wp2_with fail
    refine (sCurveOf_c s W2).mono ?_
    rintro e W3 ⟨v1, rfl, ho1, hb3⟩
    obtain ⟨a1, c1, rfl, hg1, -⟩ := own_csl ho1
    rw [List.length_map]
    have HG1 := Lib.hid hg1
    have HG03 := Lib.hid (HG0.out.keep hb3)
    have HB3 := Lib.hid (Blw.after HB2.out hb3)
    clear ho1 hg1 hb3 HB2 HG0
    rcases Bool.eq_false_or_eq_true (wdB 1023 s) with h | h
    · have hlen : (crvA s).length = s.size + 2 := crvA_len h
      have hin : ∀ z ∈ crvA s, Bp 128 z := fun z hz => by
        rw [crvA_t h] at hz
        have := crvL_in _ z hz
        rw [toL_len] at this
        unfold Bp; omega
      have hw := crv_cwO h
      have hp := pathZ_t (pathZ_can (crv_path (l := toL s) (by rw [toL_len]; exact wdB_len h)))
      have z0 : (crvA s)[0]? = some (0, 0) := by rw [crvA_t h]; exact crvL_zero _
      have z1 : (crvA s)[1]? = some (1, 0) := by rw [crvA_t h, crvL_succ (Nat.zero_le _), List.take_zero]; rfl
      rw [← crvA_t h] at hw hp
      generalize crvA s = Z at *
      rw [h]
      obtain ⟨g, o, rfl, hg, hcell⟩ := cs_at HG03.out (by omega)
      have HSP := Lib.hid (samePoints_c (some ⟨g, o, none⟩) a1 c0 c1 Z W3 (by omega) (fun z hz => ⟨Nat.le_trans (hin z hz).1 (by omega), Nat.le_trans (hin z hz).2 (by omega)⟩) HG03.out HG1.out)
      have hbq : ∀ q ∈ Z.map canQ, Bq 400 q := bq_up (bq_can hin) (by omega)
      have hll : (Z.map canQ).length = Z.length := List.length_map _
      have HW := Lib.hid (fun W (hB : Below W3.heap.size W3 W) => iCurveWord_c (some ⟨g, o, none⟩) c0 (Z.map canQ) W (by omega) (by omega) hbq (by rw [canQ_map]; exact HG03.out.keep hB))
      have HPt := Lib.hid (fun W (hB : Below W3.heap.size W3 W) => iCurvePath_c (some ⟨g, o, none⟩) c0 (Z.map canQ) W (by omega) hbq (by rw [canQ_map]; exact HG03.out.keep hB))
      rw [hw, hll] at HW
      rw [hp, hll] at HPt
      have k0 := hcell 0 (by omega)
      have k1 := hcell 1 (by omega)
      rw [List.getElem?_eq_getElem (by omega)] at z0 z1
      rw [Option.some.inj z0, enc00] at k0
      rw [Option.some.inj z1, enc10] at k1
      rw [Nat.add_zero] at k0
      have hs2 : bs (toL s) = s := bs_toL s
      rw [cwV_some, hs2] at HW
      have e3 : ((Z.length : Nat) : Int) = (s.size : Int) + 2 := by omega
      have q0 := fun w t => run_ceqP (P := Try.prog) w t (d := (0, 0)) (e := (0, 0)) (by unfold Bp; decide) (by unfold Bp; decide)
      have q1 := fun w t => run_ceqP (P := Try.prog) w t (d := (1, 0)) (e := (1, 0)) (by unfold Bp; decide) (by unfold Bp; decide)
      rw [enc00] at q0
      rw [enc10] at q1
      have zl : Z.length ≤ 130 := by omega
      clear hw hp hin hcell z0 z1 hbq hll hlen hs2 HG03 HG1 h
      go_wp2_with fail
      refine HSP.out.mono ?_
      rintro e W4 ⟨rfl, hb4⟩
      have HB4 := Lib.hid hb4
      have k04 := keepcell hb4 k0
      have k14 := keepcell hb4 k1
      clear hb4 k0 k1 HSP
      go_wp2_with fail
      refine (HW.out _ HB4.out).mono ?_
      rintro e W5 ⟨rfl, hb5⟩
      have HB5 := Lib.hid (Blw.after HB4.out hb5)
      have k05 := keepcell hb5 k04
      have k15 := keepcell hb5 k14
      clear hb5 k04 k14 HW HB4
      go_wp2_with fail
      refine (HPt.out _ HB5.out).mono ?_
      rintro e W6 ⟨rfl, hb6⟩
      have HB6 := Lib.hid (Blw.after HB3.out (Blw.after HB5.out hb6))
      have k06 := keepcell hb6 k05
      have k16 := keepcell hb6 k15
      clear hb6 k05 k15 HPt HB5
      go_wp2_with fail
      go_ret
      exact ⟨rfl, HB6.out⟩
    · have hA := crvA_f h
      have hlen : (crvA s).length = 0 := by rw [hA]; rfl
      rw [h]
      have HSP := Lib.hid (fun W (hB : Below W3.heap.size W3 W) => samePoints_c a0 a1 c0 c1 (crvA s) W (by omega) (fun z hz => by rw [hA] at hz; simp at hz) (HG03.out.keep hB) (HG1.out.keep hB))
      clear hA hlen HG03 HG1 h hcap
      generalize (crvA s).length = n at *
      go_wp2_with fail
      refine (HSP.out _ (Below.refl _ _)).mono ?_
      rintro e W4 ⟨rfl, hb4⟩
      have HB4 := Lib.hid hb4
      clear hb4
      go_wp2_with fail
      refine (HSP.out _ HB4.out).mono ?_
      rintro e W5 ⟨rfl, hb5⟩
      have HB5 := Lib.hid (Blw.after HB3.out (Blw.after HB4.out hb5))
      clear hb5
      go_wp2_with fail
      go_ret
      exact ⟨rfl, HB5.out⟩

namespace lawFnCurve
set_option maxRecDepth 100000 in
theorem lifted (os : Os) (started : os.Started) (H : Type) (enc : TypeId × Value → H) :
    ReturnsInHanded {} Try.checked os 3 .any (Rows.fnCurveSpec.pre6 enc Try.prog Try.f3 Rows.fnCurveRow.domain false) (Rows.fnCurveSpec.post enc Try.prog Try.f3 false true false false) := by
  refine returnsInHanded_of_change (C := Try.checked) own started (by kernel_rfl) Try.func3
    (ChangeSpec.witness6 (enc := enc) (C := Try.checked) false ⟨#[], #[.slice none 0 0], []⟩ 8 (by kernel_rfl) (by kernel_rfl) (by kernel_rfl) (by kernel_rfl)) ?_
  intro W base args ds gs before hval0 hW _ _
  have hval : ∀ (j : Nat) t v, Try.f3.params[j]? = some t → args[j]? = some v → Value.okWide Try.prog W .any base t v := hval0
  have hW' := hW
  obtain ⟨p, q, hA0, hV, rfl, _, _⟩ := hW
  have hA : DataW.TrodAll enc Try.prog W 0 (fun _ => true) true Try.f3.params.toList args.toList ds p := hA0
  rw [Try.params3] at hA hval
  obtain ⟨v0, vs0, d0, ds0, p0, q0, hargs, rfl, rfl, h0, r0⟩ := trodAll_cons hA
  obtain ⟨rfl, rfl, rfl⟩ := trodAll_nil r0
  obtain rfl : args = #[v0] := by cases args; simp_all
  obtain ⟨rfl, rfl⟩ := trodVars_none hV
  obtain ⟨a, len, cap, rfl⟩ := okWide_slice Try.underlying22 (hval 0 22 v0 rfl rfl)
  clear hA0 hval0
  simp only [List.append_nil] at hW'
  have hlt : ∀ x ∈ p0, x.block < W.heap.size := fun x hx => by simpa using hW'.lt x hx
  refine (lawCurve_c a len cap W (code_of h0)).mono fun e W' ⟨he, hg⟩ => ?_
  subst he
  have harg := Below.trod laidOut (by kernel_rfl) (of_decide_eq_true (by kernel_rfl)) h0 hg hlt
  refine ⟨_, rfl, _, _, _, [], p0, [], hW', ?_, ?_, ?_, hg.frame _, fun h => by cases h⟩
  · exact trodAll_cons_mk (shut_bool Try.underlying4 _) trodAll_mk0
  · exact trodAll_mk1 harg
  · rfl

theorem proved : Rows.FnCurveSaid :=
  OpenClaim.holds_of_wide 3 Try.f3 rfl rfl rfl rfl rfl rfl rfl ⟨rfl, rfl, rfl, rfl, rfl⟩ rfl rfl rfl rfl rfl (by kernel_rfl) Try.func3 (by kernel_rfl)
    (of_decide_eq_true (by kernel_rfl)) (by unfold Func.isWrapper; first | (rw [if_pos (by decide +kernel)]; kernel_rfl) | (rw [if_neg (by decide +kernel)]; exact ⟨rfl, rfl⟩))
    (fun os started H enc _ => lifted os started H enc)
end lawFnCurve
end Go.Proofs.Ytljmmmkehieboaa

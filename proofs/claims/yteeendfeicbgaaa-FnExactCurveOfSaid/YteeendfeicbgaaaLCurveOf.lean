/- FnExactCurveOf: for every text, the program's points and their flag are the model's, in memory of their own; no condition. -/
import Derived.Test.YteeendfeicbgaaaCa
import Derived.Test.YteeendfeicbgaaaCk
import Derived.Test.YteeendfeicbgaaaBase
namespace Go.Proofs.Yteeendfeicbgaaa
set_option linter.unusedSimpArgs false
set_option linter.unusedVariables false
open Go.ChangeShapes Go.WideShapes Go.ChangeAt Go.RowKit Go.Joins

theorem crvA_sm (s : ByteArray) : (crvA s).length ≤ 100000 ∧ ∀ z ∈ crvA s, Sm z := by
  unfold crvA
  split
  · rename_i h
    have hl := wdB_len h
    refine ⟨by rw [crvL_len, toL_len]; omega, fun z hz => ?_⟩
    have := crvL_in _ z hz
    rw [toL_len] at this
    unfold Sm
    omega
  · exact ⟨by simp, fun z hz => by simp at hz⟩
set_option maxRecDepth 100000 in
set_option maxHeartbeats 4000000 in
theorem lawCurveOf_c (s : ByteArray) (w : World) : Calls Try.prog 3 #[.string s] w fun e w' => e = .returned (.bool true) ∧ Below w.heap.size w w' := by
  by_cases hla : 1048576 < s.size
  · go_enter Try.func3, Try.ntmps3
    go_wp2_with fail
    go_ret
    exact ⟨rfl, by (repeat' (first | assumption | exact Below.refl _ _ | apply Blw.alloc | apply Blw.drew | apply Blw.drewN | (refine Blw.after ?_ (by assumption)) | (refine Blw.set ?_ (by first | (dsimp only; omega) | (simp; done) | (simp; omega)) _)))⟩
  · obtain ⟨hN, hSm⟩ := crvA_sm s
    have HSm := Lib.hid hSm
    clear hSm
    go_enter Try.func3, Try.ntmps3
    go_wp2_with fail
    refine (sCurveOf_c s w).mono ?_
    rintro e w1 ⟨v0, rfl, ho0, hb1⟩
    have HB1 := Lib.hid hb1
    obtain ⟨a0, c0, rfl, hg0, hf0⟩ := own_csl ho0
    rw [List.length_map]
    have HG0 := Lib.hid hg0
    have HF0 := Lib.hid hf0
    clear hb1 ho0 hg0 hf0
    go_wp2_with fail
    refine (iCurveOf_c s w1).mono ?_
    rintro e w2 ⟨v1, rfl, ho1, hb2⟩
    obtain ⟨a1, c1, rfl, hg1, hf1⟩ := own_csl ho1
    rw [List.length_map]
    have HG1 := Lib.hid hg1
    have HF1 := Lib.hid hf1
    have HB2 := Lib.hid hb2
    have HG02 := Lib.hid (HG0.out.keep hb2)
    clear ho1 hg1 hf1 hb2
    generalize hL : crvA s = L at *
    have HL := Lib.hid hL
    clear hL
    have hE : L.map encP = [] → L.length = 0 := fun h => by rw [List.map_eq_nil_iff] at h; rw [h]; rfl
    have HE := Lib.hid hE
    clear hE
    generalize hok : wdB 1023 s = ok at *
    have HOK := Lib.hid hok
    clear hok
    go_wp2_with fail
    refine (eqCS_c a1 a0 c1 c0 L w2 hN HSm.out HG1.out HG02.out).mono ?_
    rintro e w3 ⟨rfl, hb3⟩
    have HG13 := Lib.hid (HG1.out.keep hb3)
    have HG03 := Lib.hid (HG02.out.keep hb3)
    have HF13 := Lib.hid (show L.map encP = [] ∨ ∃ g, a1 = some ⟨g, 0, none⟩ ∧ w1.heap.size ≤ g ∧ g < w3.heap.size ∧ ∀ j, w3.frozen? ⟨g, j, none⟩ = false from HF1.out.imp id fun ⟨g, e1, e2, e3, e4⟩ => ⟨g, e1, e2, Nat.lt_of_lt_of_le e3 hb3.size, frozC_keep e3 e4 hb3⟩)
    have HB3 := Lib.hid (show Below w.heap.size w w3 from (HB1.out.trans (HB2.out.mono HB1.out.size)).trans (hb3.mono (Nat.le_trans HB1.out.size HB2.out.size)))
    have hs13 : w1.heap.size ≤ w3.heap.size := Nat.le_trans HB2.out.size hb3.size
    clear hb3
    go_wp2_with fail
    have HMC := markCA_c a1 c1 (L.map encP) w3 w1.heap.size (by rw [List.length_map]; exact hN) HG13.out HF13.out
    rw [List.length_map] at HMC
    refine HMC.mono ?_
    clear HMC
    rintro e w4 ⟨rfl, hm, g, hgB, hgr, hga⟩
    have HM := Lib.hid hm
    have HB4 := Lib.hid (show Below w.heap.size w w4 from Below.grown HB3.out hgr HB3.out.size (fun k hk => by cases hk; exact Nat.le_trans HB1.out.size hgB))
    have HG04 := Lib.hid (HG03.out.grown hgr (HF0.out.imp id fun ⟨g0, e1, e2, e3, e4⟩ => ⟨g0, e1, by omega⟩))
    clear hm hgr hga
    go_wp2_with fail
    refine (heldCS_c a1 L.length c1 w4 hN (HM.out.imp HE.out id)).mono ?_
    rintro e w4' ⟨rfl, rfl⟩
    go_wp2_with fail
    refine (iCurveOf_c s w4).mono ?_
    rintro e w5 ⟨v2, rfl, ho2, hb5⟩
    rw [HL.out] at ho2
    rw [HOK.out]
    obtain ⟨a2, c2, rfl, hg2, hf2⟩ := own_csl ho2
    rw [List.length_map]
    have HG2 := Lib.hid hg2
    have HG05 := Lib.hid (HG04.out.keep hb5)
    have HM5 := Lib.hid (show L.map encP = [] ∨ ∃ g, a1 = some ⟨g, 0, none⟩ ∧ MarkC g L.length w5 from HM.out.imp id fun ⟨g, e1, e2⟩ => ⟨g, e1, MarkC.keep e2 hb5⟩)
    have HB5 := Lib.hid (HB4.out.trans (hb5.mono HB4.out.size))
    clear ho2 hg2 hf2 hb5
    go_wp2_with fail
    refine (eqCS_c a2 a0 c2 c0 L w5 hN HSm.out HG2.out HG05.out).mono ?_
    rintro e w6 ⟨rfl, hb6⟩
    have HM6 := Lib.hid (show L.map encP = [] ∨ ∃ g, a1 = some ⟨g, 0, none⟩ ∧ MarkC g L.length w6 from HM5.out.imp id fun ⟨g, e1, e2⟩ => ⟨g, e1, MarkC.keep e2 hb6⟩)
    have HB6 := Lib.hid (HB5.out.trans (hb6.mono HB5.out.size))
    clear hb6
    go_wp2_with fail
    refine (heldCS_c a1 L.length c1 w6 hN (HM6.out.imp HE.out id)).mono ?_
    rintro e w7 ⟨rfl, rfl⟩
    go_wp2_with fail
    go_ret
    exact ⟨rfl, HB6.out⟩

namespace lawFnExactCurveOf
set_option maxRecDepth 100000 in
theorem lifted (os : Os) (started : os.Started) (H : Type) (enc : TypeId × Value → H) :
    ReturnsInHanded {} Try.checked os 3 .any (Rows.fnExactCurveOfSpec.pre6 enc Try.prog Try.f3 Rows.fnExactCurveOfRow.domain false) (Rows.fnExactCurveOfSpec.post enc Try.prog Try.f3 false true false false) := by
  refine returnsInHanded_of_change (C := Try.checked) own started (by kernel_rfl) Try.func3
    (ChangeSpec.witness6 (enc := enc) (C := Try.checked) false ⟨#[], #[.string ⟨#[]⟩], []⟩ 8 (by kernel_rfl) (by kernel_rfl) (by kernel_rfl) (by kernel_rfl)) ?_
  intro W base args ds gs before hval0 hW _ _
  have hval : ∀ (j : Nat) t v, Try.f3.params[j]? = some t → args[j]? = some v → Value.okWide Try.prog W .any base t v := hval0
  have hW' := hW
  obtain ⟨p, q, hA0, hV, rfl, _, _⟩ := hW
  have hA : DataW.TrodAll enc Try.prog W 0 (fun _ => true) true Try.f3.params.toList args.toList ds p := hA0
  rw [Try.params3] at hA hval
  obtain ⟨v0, vs0, d0, ds0, p0, q0, hargs, rfl, rfl, h0, r0⟩ := trodAll_cons hA
  obtain ⟨rfl, rfl, rfl⟩ := trodAll_nil r0
  obtain rfl : args = #[v0] := by cases args; simp_all
  obtain ⟨rfl, rfl⟩ := trodVars_none hV
  obtain ⟨a0, rfl, rfl, rfl, wa0⟩ := Go.ChangeMaps.open_string Try.underlying9 (hval 0 9 v0 rfl rfl) h0
  clear hA0 hval0
  simp only [List.append_nil] at hW'
  refine (lawCurveOf_c a0 W).mono fun e W' ⟨he, hg⟩ => ?_
  subst he
  refine ⟨_, rfl, _, _, _, [], [], [], hW', ?_, ?_, ?_, hg.frame _, fun h => by cases h⟩
  · exact trodAll_cons_mk (shut_bool Try.underlying4 _) trodAll_mk0
  · exact (trodAll_cons_mk (Go.ChangeMaps.shut_string Try.underlying9 wa0) trodAll_mk0)
  · rfl

theorem proved : Rows.FnExactCurveOfSaid :=
  OpenClaim.holds_of_wide 3 Try.f3 rfl rfl rfl rfl rfl rfl rfl ⟨rfl, rfl, rfl, rfl, rfl⟩ rfl rfl rfl rfl rfl (by kernel_rfl) Try.func3 (by kernel_rfl)
    (of_decide_eq_true (by kernel_rfl)) (by unfold Func.isWrapper; first | (rw [if_pos (by decide +kernel)]; kernel_rfl) | (rw [if_neg (by decide +kernel)]; exact ⟨rfl, rfl⟩))
    (fun os started H enc _ => lifted os started H enc)
end lawFnExactCurveOf
end Go.Proofs.Yteeendfeicbgaaa

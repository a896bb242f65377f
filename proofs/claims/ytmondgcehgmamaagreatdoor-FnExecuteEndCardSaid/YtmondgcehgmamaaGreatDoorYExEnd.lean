/- FnExecuteEnd (P66): at every code the law answers true: for creases, at least one, whose end is told, the script that lays them and asks for the end prints 'ok' and both parts; the listed variables are as the program's text lays them. -/
import Derived.SevenTiedAt
import Derived.Test.YtmondgcehgmamaaGreatDoorZ5
namespace Go.Proofs.YtmondgcehgmamaaGreatDoor
set_option linter.unusedSimpArgs false
set_option linter.unusedVariables false
open Go.ChangeShapes Go.WideShapes Go.ChangeAt Go.RowKit Go.Joins

theorem ent_crease : ∀ args w, (callFunc 86 args).run Tryz.prog w = .ok (.enter 86 args) w := enters_of Tryz.func86 (by kernel_rfl) rfl
theorem ent_end : ∀ args w, (callFunc 93 args).run Tryz.prog w = .ok (.enter 93 args) w := enters_of Tryz.func93 (by kernel_rfl) rfl
def stEnd (c : ByteArray) : Nat → ByteArray × ByteArray
  | 0 => (⟨#[48]⟩, ⟨#[108]⟩)
  | _ => (⟨#[48]⟩, c)
def outEnd (o : ByteArray) : Nat → ByteArray
  | 0 => okB
  | _ => o
theorem wd_ten {s : ByteArray} (h : wdB 10 s = true) : (10 : UInt8) ∉ toL s := fun hm => by have := wdB_all h _ hm; revert this; decide
theorem scriptEnd_c (c Y : ByteArray) (w : World) (hG : Gx w) (hc : wdB 10 c = true) (hne : (toL c).isEmpty = false)
    (hY : toL Y = [99, 114, 101, 97, 115, 101, 32] ++ toL c ++ [10, 101, 110, 100, 10]) :
    Calls Tryz.prog 11 #[.string Y] w fun e w' => e = .returned (.string (bs ([111, 107, 10] ++ toL (bothB (endP (toL c)).1 (endP (toL c)).2) ++ [10] ++ endL 1))) ∧ Below w.heap.size w w' := by
  have hk : crOk c = true := by unfold crOk; rw [hne, hc]; rfl
  have lc := wdB_len hc
  have tc := wd_ten hc
  have hsm := endP_small hc
  have hY2 : toL Y = ([99, 114, 101, 97, 115, 101] ++ 32 :: toL c) ++ 10 :: ([101, 110, 100] ++ 10 :: []) := by rw [hY]; simp
  have hn : (toL Y).count 10 = 2 := by
    have e1 := List.count_eq_zero_of_not_mem tc
    rw [hY]
    simp only [List.count_append, e1]
    decide
  have hcu : cutsQ 10 (toL Y) = [[99, 114, 101, 97, 115, 101] ++ 32 :: toL c, [101, 110, 100], []] := by
    rw [hY2, cutsQ_hit (by simp [tc]), cutsQ_hit (by decide)]; rfl
  have hsz : Y.size ≤ 500 := by rw [← toL_len, hY]; simp [toL_len]; omega
  have hO : (bothB (endP (toL c)).1 (endP (toL c)).2).size ≤ 1073741824 := by
    have h1 := itoa_len (endP (toL c)).1
    have h2 := itoa_len (endP (toL c)).2
    unfold bothB
    rw [← toL_len, toL_bs]
    simp
    omega
  have HE := Lib.hid (fun b w hG hS => end_c b (⟨#[48]⟩) c w hG hS)
  rw [hc] at HE
  simp only [if_true] at HE
  generalize bothB (endP (toL c)).1 (endP (toL c)).2 = O at *
  have h := execute_run Y hsz 2 (stEnd c) (outEnd O) rfl hn (fun k hk => by
      match k, hk with
      | 0, _ => show okB.size ≤ _; decide
      | 1, _ => exact hO) (by show (⟨#[48]⟩ : ByteArray).size ≤ _; decide) (fun k hk' b0 w' hb0 hG' hS' => by
      rw [hcu]
      match k, hk' with
      | 0, _ =>
        exact line_rest b0 _ _ _ _ _ [99, 114, 101, 97, 115, 101] (toL c) (some okB) w' hb0 (by rw [toL_len]; simp; omega) (by decide) hG' hS' rfl ent_crease (fun w1 _ hS1 => by
          have h := crease_c b0 (⟨#[48]⟩) (⟨#[108]⟩) c w1 hS1
          rw [hk] at h
          rw [bs_toL]
          exact h)
      | 1, _ =>
        exact line_alone b0 _ _ _ _ _ [101, 110, 100] (some O) w' hb0 (by simp) (by decide) hG' hS' rfl ent_end (fun w1 hG1 hS1 => HE.out b0 w1 hG1 hS1)) w hG
  refine h.mono fun e w' ⟨he, hB⟩ => ⟨?_, hB⟩
  rw [he]
  have : allO (outEnd O) 2 ++ endL (stEnd c 2).1.size = [111, 107, 10] ++ toL O ++ [10] ++ endL 1 := by
    show (([] ++ (toL okB ++ [10])) ++ (toL O ++ [10])) ++ endL 1 = _
    rw [show toL okB = [111, 107] from rfl]
    simp
  rw [this]
theorem ceq_one (w : World) (t : TypeId) : (binOp .eql t (.complex .f32 1065353216 0) (.complex .f32 1065353216 0)).run Tryz.prog w = .ok (.bool true) w := by
  have e := run_ceqS (P := Tryz.prog) w (k := .f32) t false false false false (a := 1) (b := 0) (c := 1) (d := 0) (by decide) (by decide) (by decide) (by decide)
  have h1 : sw .f32 false 1 = 1065353216 := by decide +kernel
  have h0 : sw .f32 false 0 = 0 := by decide +kernel
  rw [h1, h0] at e
  exact e
set_option maxRecDepth 100000 in
set_option maxHeartbeats 8000000 in
theorem lawExEnd_c (a : Option Addr) (len cap : Nat) (w : World) (hc : len ≤ 1048576 → Code (.slice a len cap) w) (hG : Gx w) : Calls Tryz.prog 8 #[.slice a len cap] w fun e w' => e = .returned (.bool true) ∧ Below w.heap.size w w' := by
  have HG := Lib.hid hG
  have hbig := hG.big
  clear hG
  by_cases hl : 1048576 < len
  · go_enter Tryz.func8, Tryz.ntmps8
    go_wp2_with fail
    go_ret
    exact ⟨rfl, by (first | ((repeat' with_reducible first | assumption | exact Below.refl _ _ | apply Blw.alloc | apply Blw.drew | apply Blw.drewN | (refine Blw.after ?_ (by assumption)) | (refine Blw.set ?_ (by first | (dsimp only; omega) | (simp; omega)) _)); done) | (repeat' (first | assumption | exact Below.refl _ _ | apply Blw.alloc | apply Blw.drew | apply Blw.drewN | (refine Blw.after ?_ (by assumption)) | (refine Blw.set ?_ (by first | (dsimp only; omega) | (simp; done) | (simp; omega)) _))))⟩
  · have hc' := hc (by omega)
    clear hc
    go_enter Tryz.func8, Tryz.ntmps8
    go_wp2_with fail
    refine (drawCurveEnd_c _ w hc').mono ?_
    rintro e W1 ⟨s, rfl, ht, hb1⟩
    clear hc'
    have HG1 := Lib.hid (HG.out.below hb1)
    have HB1 := Lib.hid hb1
    have HI := Lib.hid (iCurveEnd_c s W1)
    have HS := Lib.hid (fun w => sCurveEnd_c s w)
    rcases Bool.eq_false_or_eq_true (wdB 10 s) with h | h
    · rw [endV_t h] at HI HS
      have hsm := endP_small h
      have HSm := Lib.hid (fun w => same_p (E := endP (toL s)) (by omega) w)
      rcases Bool.eq_false_or_eq_true (toL s).isEmpty with he | he
      · have hr : s = ⟨#[]⟩ := toL_ext (List.isEmpty_iff.1 he)
        subst hr
        have e10 : encP (endP (toL ⟨#[]⟩)) = .complex .f32 1065353216 0 := enc10
        rw [e10] at HI HS HSm
        have hq := fun w t => ceq_one w t
        go_wp2_with fail
        refine HI.out.mono ?_
        rintro e W2 ⟨rfl, hb2⟩
        have HB2 := Lib.hid (Blw.after HB1.out hb2)
        clear hb2
        go_wp2_with fail
        refine (HS.out W2).mono ?_
        rintro e W3 ⟨rfl, hb3⟩
        have HB3 := Lib.hid (Blw.after HB2.out hb3)
        clear hb3
        go_wp2_with (go_at_call 22; refine (HSm.out _).mono ?_; rintro e w1 ⟨rfl, rfl⟩)
        go_ret
        exact ⟨rfl, HB3.out⟩
      · have e2 : s.toList.isEmpty = false := by rw [toList_toL]; exact he
        have e1 : ¬ s.toList = [] := by intro h; rw [h] at e2; simp at e2
        have HX := Lib.hid (fun Y w hG hY => scriptEnd_c s Y w hG h he hY)
        have hss := wdB_len h
        have f1 := fun w => run_convert_float_int (P := Tryz.prog) w 38 3 .f32 .i64 (px (endP (toL s))) (endP (toL s)).1 (by rw [Tryz.underlying38]; rfl) Tryz.underlying3 (toInt32 hsm.1)
        have f2 := fun w => run_convert_float_int (P := Tryz.prog) w 38 3 .f32 .i64 (py (endP (toL s))) (endP (toL s)).2 (by rw [Tryz.underlying38]; rfl) Tryz.underlying3 (toInt32 hsm.2)
        have HD1 := Lib.hid (fun w => digitsZ_c (endP (toL s)).1 w (by omega))
        have HD2 := Lib.hid (fun w => digitsZ_c (endP (toL s)).2 w (by omega))
        have l1 : (bs (Lib.itoa (endP (toL s)).1)).size ≤ 1026 := by rw [← toL_len, toL_bs]; have := itoa_len (endP (toL s)).1; omega
        have l2 : (bs (Lib.itoa (endP (toL s)).2)).size ≤ 1026 := by rw [← toL_len, toL_bs]; have := itoa_len (endP (toL s)).2; omega
        have HEq := Lib.hid (show bs ([111, 107, 10] ++ toL (bothB (endP (toL s)).1 (endP (toL s)).2) ++ [10] ++ endL 1) = (⟨#[111, 107, 10]⟩ : ByteArray) ++ bs (Lib.itoa (endP (toL s)).1) ++ (⟨#[32]⟩ : ByteArray) ++ bs (Lib.itoa (endP (toL s)).2) ++ (⟨#[10, 100, 105, 103, 105, 116, 115, 32, 49, 10]⟩ : ByteArray) by
          apply toL_ext
          rw [toL_bs]
          unfold endL bothB
          rw [show Lib.itoa ((1 : Nat) : Int) = [49] from by decide +kernel, toL_bs]
          simp [toL, ByteArray.data_append, bs])
        rw [HEq.out] at HX
        clear HEq hsm he
        rw [show encP (endP (toL s)) = .complex .f32 (px (endP (toL s))) (py (endP (toL s))) from rfl] at HI HS HSm
        generalize bs (Lib.itoa (endP (toL s)).1) = T1 at *
        generalize bs (Lib.itoa (endP (toL s)).2) = T2 at *
        generalize px (endP (toL s)) = X at *
        generalize py (endP (toL s)) = Y at *
        generalize (endP (toL s)).1 = x at *
        generalize (endP (toL s)).2 = y at *
        go_wp2_with fail
        refine HI.out.mono ?_
        rintro e W2 ⟨rfl, hb2⟩
        have HB2 := Lib.hid (Blw.after HB1.out hb2)
        have HG2 := Lib.hid (HG1.out.below hb2)
        clear hb2
        go_wp2_with fail
        refine (HS.out W2).mono ?_
        rintro e W3 ⟨rfl, hb3⟩
        have HB3 := Lib.hid (Blw.after HB2.out hb3)
        have HG3 := Lib.hid (HG2.out.below hb3)
        clear hb3
        go_wp2_with (go_at_call 22; refine (HSm.out _).mono ?_; rintro e w1 ⟨rfl, rfl⟩)
        obtain ⟨Z, hZ⟩ : ∃ Z, (⟨#[99, 114, 101, 97, 115, 101, 32]⟩ : ByteArray) ++ s ++ (⟨#[10, 101, 110, 100, 10]⟩ : ByteArray) = Z := ⟨_, rfl⟩
        have HW := HX.out Z _ HG3.out (by rw [← hZ]; simp [toL, ByteArray.data_append])
        rw [hZ]
        clear hZ
        refine HW.mono ?_
        clear HW
        rintro e W4 ⟨rfl, hb4⟩
        have HB4 := Lib.hid (Blw.after HB3.out hb4)
        clear hb4
        go_wp2_with fail
        refine (HD1.out W4).mono ?_
        rintro e W5 ⟨rfl, hb5⟩
        have HB5 := Lib.hid (Blw.after HB4.out hb5)
        clear hb5
        go_wp2_with fail
        refine (HD2.out W5).mono ?_
        rintro e W6 ⟨rfl, hb6⟩
        have HB6 := Lib.hid (Blw.after HB5.out hb6)
        clear hb6
        go_wp2_with fail
        go_ret
        exact ⟨by simp, HB6.out⟩
    · rw [endV_f h] at HI HS
      have HSm := Lib.hid (fun w => same_p (E := (0, 0)) (by decide) w)
      rw [enc00] at HSm
      go_wp2_with fail
      refine HI.out.mono ?_
      rintro e W2 ⟨rfl, hb2⟩
      have HB2 := Lib.hid (Blw.after HB1.out hb2)
      clear hb2
      go_wp2_with fail
      refine (HS.out W2).mono ?_
      rintro e W3 ⟨rfl, hb3⟩
      have HB3 := Lib.hid (Blw.after HB2.out hb3)
      clear hb3
      go_wp2_with (go_at_call 22; refine (HSm.out _).mono ?_; rintro e w1 ⟨rfl, rfl⟩)
      go_ret
      exact ⟨rfl, HB3.out⟩

namespace lawFnExecuteEnd
set_option maxRecDepth 100000 in
theorem lifted (os : Os) (started : os.Started) (H : Type) (enc : TypeId × Value → H) :
    ReturnsInHanded {} Tryz.checked os 8 .any (fun w args => (Rows.fnExecuteEndSpec.pre enc Tryz.prog Tryz.f8 Rows.fnExecuteEndRow.domain false w args ∧ laidMetH Tryz.prog Rows.fnExecuteEndRow.laid w) ∧ sizedMet enc Tryz.prog Tryz.f8 (OpenSpec.ofChange Rows.fnExecuteEndSpec) false w args)
      (Rows.fnExecuteEndSpec.post enc Tryz.prog Tryz.f8 false true false false) := by
  refine handed_shaped (C := Tryz.checked) (X := fun w _ => laidMetH Tryz.prog Rows.fnExecuteEndRow.laid w) (fun _ _ _ hh h => h.of_heap hh) own started (by kernel_rfl) Tryz.func8
    (ChangeSpec.witness_shaped (enc := enc) (C := Tryz.checked) (os := os) (X := fun w _ => laidMetH Tryz.prog Rows.fnExecuteEndRow.laid w) false (World.laidAll Tryz.prog os Rows.fnExecuteEndRow.laid) #[.slice none 0 0] 8 (World.laidAll_os _ _ _)
      (World.shaped_of_ZipB (by kernel_rfl) (by kernel_rfl)) (by kernel_rfl) (by kernel_rfl) (by kernel_rfl)
      (by rw [MakeChecks.laidMetH_plain _ _ _ (by kernel_rfl)]; exact laidMet_laidAll _ (by kernel_rfl) (by kernel_rfl))) ?_
  intro W base args ds gs before hval0 hW hc0 _ hSh hL _
  have hval : ∀ (j : Nat) t v, Tryz.f8.params[j]? = some t → args[j]? = some v → Value.okWide Tryz.prog W .any base t v := hval0
  have hW' := hW
  obtain ⟨p, q, hA0, hV, rfl, _, _⟩ := hW
  have hA : DataW.TrodAll enc Tryz.prog W 0 (fun _ => true) true Tryz.f8.params.toList args.toList ds p := hA0
  rw [Tryz.params8] at hA hval
  obtain ⟨v0, vs0, d0, ds0, p0, q0, hargs, rfl, rfl, h0, r0⟩ := trodAll_cons hA
  obtain ⟨rfl, rfl, rfl⟩ := trodAll_nil r0
  obtain rfl : args = #[v0] := by cases args; simp_all
  obtain ⟨gG, tG, csG, fuelG, dG, pG, rfl, hgG, htG, hvG, hdG, rfl⟩ := trodVars_one hV
  obtain ⟨a, len, cap, rfl⟩ := okWide_slice Tryz.underlying22 (hval 0 22 v0 rfl rfl)
  clear hA0 hval0
  simp only [List.append_nil] at hW'
  have hlt : ∀ x ∈ p0, x.block < W.heap.size := fun x hx => hW'.lt x (by simp [hx])
  have hGx : Gx W := gx_laid hSh (by rw [MakeChecks.laidMetH_plain _ _ _ (by kernel_rfl)] at hL; exact hL) (two_second hL (fun _ => MakeChecks.laidMetH_plain _ _ _ (by kernel_rfl))) (tz_second hL (fun _ => MakeChecks.laidMetH_plain _ _ _ (by kernel_rfl)))
  have hltG : ∀ x ∈ pG, x.block < W.heap.size := fun x hx => hW'.lt x (by simp [hx])
  refine (lawExEnd_c a len cap W (code_of h0) hGx).mono fun e W' ⟨he, hg⟩ => ?_
  subst he
  have harg := Below.trod laidOut (by kernel_rfl) (of_decide_eq_true (by kernel_rfl)) h0 hg hlt
  refine ⟨_, rfl, _, _, _, [], p0, MemPlace.row ⟨gG, 0, none⟩ csG.size ++ pG, hW', ?_, ?_, ?_, hg.frame _, fun h => by cases h⟩
  · exact trodAll_cons_mk (shut_bool Tryz.underlying4 _) trodAll_mk0
  · exact trodAll_mk1 harg
  · exact vars_shut hgG htG hvG hdG hltG hGx.tab hg

theorem holds : Rows.FnExecuteEndSaid :=
  OpenClaim.holds_of_wide 8 Tryz.f8 rfl rfl rfl rfl rfl rfl rfl ⟨rfl, rfl, rfl, rfl, rfl⟩ rfl rfl rfl rfl rfl (by kernel_rfl) Tryz.func8 (by kernel_rfl)
    (of_decide_eq_true (by kernel_rfl)) (by unfold Func.isWrapper; first | (rw [if_pos (by decide +kernel)]; kernel_rfl) | (rw [if_neg (by decide +kernel)]; exact ⟨rfl, rfl⟩))
    (fun os started H enc _ => lifted os started H enc)
theorem proved : Rows.FnExecuteEndCardSaid :=
  Claim7.holds_tied_plain_at .later [] [.data, .data, .data, .data, .sentinel, .sentinel, .data, .pinned] true (true, "31d297d1b200e5de30b98f5671a0c8ac02225e4465fc3b68d8640aee3c87e509") true holds (fun _ h => by cases h) (by kernel_rfl) (fun _ h => by cases h) fnExecuteEnd_row_tie rfl ⟨rfl, rfl⟩ (by kernel_rfl) rfl
    (fun f fn hf hfn => by
      obtain rfl : f = 8 := Option.some.inj ((show Tryz.prog.funcNamed "loop.example/dragonnumbers/laws.FnExecuteEnd" = some 8 by kernel_rfl).symm.trans hf) |>.symm
      obtain rfl : fn = Tryz.f8 := (Option.some.inj (Tryz.func8.symm.trans hfn)).symm
      exact ⟨by kernel_rfl, fun j t ht => by
        rw [Tryz.params8] at ht
        have hm : t ∈ [22] := by simpa using Array.mem_of_getElem? ht
        have hall : ([22].all fun u => !Tryz.prog.wantsStandIn u) = true := by kernel_rfl
        exact (show Tryz.prog.wantsStandIn t = false by simpa using List.all_eq_true.1 hall t hm)⟩)
    (by kernel_rfl)
end lawFnExecuteEnd
end Go.Proofs.YtmondgcehgmamaaGreatDoor

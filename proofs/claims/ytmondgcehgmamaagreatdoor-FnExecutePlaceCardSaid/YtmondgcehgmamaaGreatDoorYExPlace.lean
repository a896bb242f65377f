/- FnExecutePlace (P65): at every code the law answers true: where the power is told, the script with its place prints the number of its subnormal parts, and 'same' up to 298, 'other' from 299 on; the listed variables are as the program's text lays them. -/
import Derived.SevenTiedAt
import Derived.Test.YtmondgcehgmamaaGreatDoorZ5
namespace Go.Proofs.YtmondgcehgmamaaGreatDoor
set_option linter.unusedSimpArgs false
set_option linter.unusedVariables false
open Go.ChangeShapes Go.WideShapes Go.ChangeAt Go.RowKit Go.Joins

theorem ent_place : ∀ args w, (callFunc 85 args).run Tryz.prog w = .ok (.enter 85 args) w := enters_of Tryz.func85 (by kernel_rfl) rfl
theorem dec_tab : ∀ t ∈ List.range 321, decO (Lib.decDigits t) = some (t : Int) ∧ (10 : UInt8) ∉ Lib.decDigits t ∧ (Lib.decDigits t).length ≤ 3 := by decide +kernel
def stPl : Nat → ByteArray × ByteArray := fun _ => (⟨#[48]⟩, ⟨#[108]⟩)
theorem scriptPlace_c (t : Nat) (ht : t ≤ 320) (Y : ByteArray) (w : World) (hG : Gx w) (hY : toL Y = [112, 108, 97, 99, 101, 32] ++ Lib.decDigits t ++ [10]) :
    Calls Tryz.prog 11 #[.string Y] w fun e w' => e = .returned (.string (bs (toL (placeB t) ++ [10] ++ endL 1))) ∧ Below w.heap.size w w' := by
  obtain ⟨h1, h2, h3⟩ := dec_tab t (by simp; omega)
  have hY2 : toL Y = ([112, 108, 97, 99, 101] ++ 32 :: Lib.decDigits t) ++ 10 :: [] := by rw [hY]; simp
  have hn : (toL Y).count 10 = 1 := by
    rw [hY]
    simp only [List.count_append, List.count_eq_zero_of_not_mem h2]
    decide
  have hcu : cutsQ 10 (toL Y) = [[112, 108, 97, 99, 101] ++ 32 :: Lib.decDigits t, []] := by
    rw [hY2, cutsQ_hit (by simp [h2])]; rfl
  have hsz : Y.size ≤ 500 := by rw [← toL_len, hY]; simp; omega
  have hpn : partsN t ≤ 2 := by unfold partsN; cases subN (pw .f32 t).1 <;> cases subN (pw .f32 t).2 <;> decide
  have hO : (placeB t).size ≤ 1073741824 := by
    have h1 := itoa_len (partsN t : Int)
    unfold placeB
    rw [← toL_len]
    have h5 : (toL (likeB t)).length ≤ 5 := by unfold likeB; split <;> decide
    simp only [toL, ByteArray.data_append, Array.toList_append, List.length_append] at *
    simp only [bs] at *
    simp at *
    omega
  have hpl : placeO (decO (Lib.decDigits t)) = some (placeB t) := by
    rw [h1]
    unfold placeO
    have : inR 0 320 (t : Int) = true := by simp [inR]; omega
    simp only [this, if_true]
    rfl
  have h := execute_run Y hsz 1 stPl (fun _ => placeB t) rfl hn (fun k hk => hO) (by decide) (fun k hk' b0 w' hb0 hG' hS' => by
      rw [hcu]
      match k, hk' with
      | 0, _ =>
        exact line_rest b0 _ _ _ _ _ [112, 108, 97, 99, 101] (Lib.decDigits t) (some (placeB t)) w' hb0 (by simp; omega) (by decide) hG' hS' rfl ent_place (fun w1 hG1 hS1 => by
          have h := place_c b0 (⟨#[48]⟩) (⟨#[108]⟩) (bs (Lib.decDigits t)) w1 (by rw [← toL_len, toL_bs]; omega) hG1 hS1
          rw [toL_bs, hpl] at h
          exact h)) w hG
  refine h.mono fun e w' ⟨he, hB⟩ => ⟨?_, hB⟩
  rw [he]
  have : allO (fun _ => placeB t) 1 ++ endL (stPl 1).1.size = toL (placeB t) ++ [10] ++ endL 1 := by
    show ([] ++ (toL (placeB t) ++ [10])) ++ endL 1 = _
    simp
  rw [this]
set_option maxRecDepth 100000 in
set_option maxHeartbeats 8000000 in
theorem lawExPlace_c (a : Option Addr) (len cap : Nat) (w : World) (hc : len ≤ 1048576 → Code (.slice a len cap) w) (hG : Gx w) : Calls Tryz.prog 7 #[.slice a len cap] w fun e w' => e = .returned (.bool true) ∧ Below w.heap.size w w' := by
  have HG := Lib.hid hG
  have hbig := hG.big
  clear hG
  by_cases hl : 1048576 < len
  · go_enter Tryz.func7, Tryz.ntmps7
    go_wp2_with fail
    go_ret
    exact ⟨rfl, by (first | ((repeat' with_reducible first | assumption | exact Below.refl _ _ | apply Blw.alloc | apply Blw.drew | apply Blw.drewN | (refine Blw.after ?_ (by assumption)) | (refine Blw.set ?_ (by first | (dsimp only; omega) | (simp; omega)) _)); done) | (repeat' (first | assumption | exact Below.refl _ _ | apply Blw.alloc | apply Blw.drew | apply Blw.drewN | (refine Blw.after ?_ (by assumption)) | (refine Blw.set ?_ (by first | (dsimp only; omega) | (simp; done) | (simp; omega)) _))))⟩
  · have hc' := hc (by omega)
    clear hc
    go_enter Tryz.func7, Tryz.ntmps7
    go_wp2_with fail
    refine (drawPowerS_c _ w hc').mono ?_
    rintro e W1 ⟨k, rfl, hk, hb1⟩
    clear hc'
    have HG1 := Lib.hid (HG.out.below hb1)
    have HB1 := Lib.hid hb1
    rcases Bool.eq_false_or_eq_true (inR 0 320 k) with h1 | h1
    · obtain ⟨t, rfl⟩ : ∃ t : Nat, k = t := ⟨k.toNat, by simp [inR] at h1; omega⟩
      have ht : t ≤ 320 := by simp [inR] at h1; omega
      obtain ⟨X, Y, u1, u2, o1, o2⟩ := pt_upS (pw_pt .f32 t) (by omega)
      obtain ⟨p1, p2⟩ := pw_lt t
      have V32 : powV .f32 (t : Int) = .tuple #[.complex .f32 (pw .f32 t).1 (pw .f32 t).2, .bool true] := powV_yes h1
      have HI := Lib.hid (fun w => iPowerSingle_c (t : Int) w)
      have HS := Lib.hid (fun w => sPowerSingle_c (t : Int) w)
      rw [V32] at HI HS
      have HE := Lib.hid (fun w => sameSingle_c (pw .f32 t).1 (pw .f32 t).2 X Y w u1 u2 o1 o2)
      have HP := Lib.hid (fun w => partsSmall_c (pw .f32 t).1 (pw .f32 t).2 w p1 p2)
      change Hid (∀ w, Calls _ _ _ w fun e w' => e = .returned (.int .i64 ((partsN t : Nat) : Int)) ∧ w = w') at HP
      have hpn : partsN t ≤ 2 := by unfold partsN; cases subN (pw .f32 t).1 <;> cases subN (pw .f32 t).2 <;> decide
      have HD1 := Lib.hid (fun w => digits_c t w (by omega))
      have HD2 := Lib.hid (fun w => digits_c (partsN t) w (by omega))
      have l1 : (bs (Lib.decDigits t)).size ≤ 3 := by rw [← toL_len, toL_bs]; exact (dec_tab t (by simp; omega)).2.2
      have l2 : (bs (Lib.decDigits (partsN t))).size ≤ 3 := by rw [← toL_len, toL_bs]; have := decD_len (partsN t); omega
      have HX := Lib.hid (fun Y w hG hY => scriptPlace_c t ht Y w hG hY)
      have hHX : ∀ T2, bs (Lib.decDigits (partsN t)) = T2 → bs (toL (placeB t) ++ [10] ++ endL 1) = T2 ++ (⟨#[32]⟩ : ByteArray) ++ likeB t ++ (⟨#[10, 100, 105, 103, 105, 116, 115, 32, 49, 10]⟩ : ByteArray) := fun T2 hT => by
        apply toL_ext
        rw [toL_bs, ← hT]
        unfold endL placeB
        rw [show Lib.itoa ((1 : Nat) : Int) = [49] from by decide +kernel, itoa_nat]
        simp [toL, ByteArray.data_append, bs]
      have HT := Lib.hid (toL_bs (Lib.decDigits t))
      rw [hHX _ rfl] at HX
      clear hHX V32 h1 p1 p2 u1 u2 o1 o2
      rw [← HT.out] at HX
      clear HT
      generalize bs (Lib.decDigits t) = T1 at *
      generalize bs (Lib.decDigits (partsN t)) = T2 at *
      generalize partsN t = n at *
      generalize (pw .f32 t).1 = x at *
      generalize (pw .f32 t).2 = y at *
      by_cases h299 : t < 299
      · have e1 : likeB t = sameB := by unfold likeB; rw [if_pos h299]
        rw [e1] at HX
        unfold sameB at HX
        clear e1
        go_wp2_with (first | (go_at_call 20; refine (HI.out _).mono ?_; rintro e w1 ⟨rfl, rfl⟩) | (go_at_call 21; refine (HS.out _).mono ?_; rintro e w1 ⟨rfl, rfl⟩) | (go_at_call 22; refine (HE.out _).mono ?_; rintro e w1 ⟨rfl, rfl⟩))
        refine (HD1.out _).mono ?_
        rintro e W2 ⟨rfl, hb2⟩
        have HB2 := Lib.hid (Blw.after HB1.out hb2)
        have HG2 := Lib.hid (HG1.out.below hb2)
        clear hb2
        go_wp2_with fail
        obtain ⟨Z, hZ⟩ : ∃ Z, (⟨#[112, 108, 97, 99, 101, 32]⟩ : ByteArray) ++ T1 ++ (⟨#[10]⟩ : ByteArray) = Z := ⟨_, rfl⟩
        have HW := HX.out Z _ HG2.out (by rw [← hZ]; simp [toL, ByteArray.data_append])
        rw [hZ]
        clear hZ
        refine HW.mono ?_
        clear HW
        rintro e W3 ⟨rfl, hb3⟩
        have HB3 := Lib.hid (Blw.after HB2.out hb3)
        clear hb3
        go_wp2_with (first | (go_at_call 23; refine (HP.out _).mono ?_; rintro e w1 ⟨rfl, rfl⟩))
        refine (HD2.out _).mono ?_
        rintro e W4 ⟨rfl, hb4⟩
        have HB4 := Lib.hid (Blw.after HB3.out hb4)
        clear hb4
        go_wp2_with fail
        go_ret
        exact ⟨by simp, HB4.out⟩
      · have e1 : likeB t = otherB := by unfold likeB; rw [if_neg h299]
        rw [e1] at HX
        unfold otherB at HX
        clear e1
        go_wp2_with (first | (go_at_call 20; refine (HI.out _).mono ?_; rintro e w1 ⟨rfl, rfl⟩) | (go_at_call 21; refine (HS.out _).mono ?_; rintro e w1 ⟨rfl, rfl⟩) | (go_at_call 22; refine (HE.out _).mono ?_; rintro e w1 ⟨rfl, rfl⟩))
        refine (HD1.out _).mono ?_
        rintro e W2 ⟨rfl, hb2⟩
        have HB2 := Lib.hid (Blw.after HB1.out hb2)
        have HG2 := Lib.hid (HG1.out.below hb2)
        clear hb2
        go_wp2_with fail
        obtain ⟨Z, hZ⟩ : ∃ Z, (⟨#[112, 108, 97, 99, 101, 32]⟩ : ByteArray) ++ T1 ++ (⟨#[10]⟩ : ByteArray) = Z := ⟨_, rfl⟩
        have HW := HX.out Z _ HG2.out (by rw [← hZ]; simp [toL, ByteArray.data_append])
        rw [hZ]
        clear hZ
        refine HW.mono ?_
        clear HW
        rintro e W3 ⟨rfl, hb3⟩
        have HB3 := Lib.hid (Blw.after HB2.out hb3)
        clear hb3
        go_wp2_with (first | (go_at_call 23; refine (HP.out _).mono ?_; rintro e w1 ⟨rfl, rfl⟩))
        refine (HD2.out _).mono ?_
        rintro e W4 ⟨rfl, hb4⟩
        have HB4 := Lib.hid (Blw.after HB3.out hb4)
        clear hb4
        go_wp2_with fail
        go_ret
        exact ⟨by simp, HB4.out⟩
    · have V32 : powV .f32 k = .tuple #[.complex .f32 0 0, .bool false] := powV_no h1
      have HI := Lib.hid (fun w => iPowerSingle_c k w)
      have HS := Lib.hid (fun w => sPowerSingle_c k w)
      rw [V32] at HI HS
      have u1 : floatToFloatBits .f32 0 .f64 = some 0 := by decide +kernel
      have o1 : FloatKind.f64.format.order 0 0 = some .eq := by decide +kernel
      have HE := Lib.hid (fun w => sameSingle_c 0 0 0 0 w u1 u1 o1 o1)
      go_wp2_with (first | (go_at_call 20; refine (HI.out _).mono ?_; rintro e w1 ⟨rfl, rfl⟩) | (go_at_call 21; refine (HS.out _).mono ?_; rintro e w1 ⟨rfl, rfl⟩) | (go_at_call 22; refine (HE.out _).mono ?_; rintro e w1 ⟨rfl, rfl⟩))
      go_ret
      exact ⟨rfl, HB1.out⟩

namespace lawFnExecutePlace
set_option maxRecDepth 100000 in
theorem lifted (os : Os) (started : os.Started) (H : Type) (enc : TypeId × Value → H) :
    ReturnsInHanded {} Tryz.checked os 7 .any (fun w args => (Rows.fnExecutePlaceSpec.pre enc Tryz.prog Tryz.f7 Rows.fnExecutePlaceRow.domain false w args ∧ laidMetH Tryz.prog Rows.fnExecutePlaceRow.laid w) ∧ sizedMet enc Tryz.prog Tryz.f7 (OpenSpec.ofChange Rows.fnExecutePlaceSpec) false w args)
      (Rows.fnExecutePlaceSpec.post enc Tryz.prog Tryz.f7 false true false false) := by
  refine handed_shaped (C := Tryz.checked) (X := fun w _ => laidMetH Tryz.prog Rows.fnExecutePlaceRow.laid w) (fun _ _ _ hh h => h.of_heap hh) own started (by kernel_rfl) Tryz.func7
    (ChangeSpec.witness_shaped (enc := enc) (C := Tryz.checked) (os := os) (X := fun w _ => laidMetH Tryz.prog Rows.fnExecutePlaceRow.laid w) false (World.laidAll Tryz.prog os Rows.fnExecutePlaceRow.laid) #[.slice none 0 0] 8 (World.laidAll_os _ _ _)
      (World.shaped_of_ZipB (by kernel_rfl) (by kernel_rfl)) (by kernel_rfl) (by kernel_rfl) (by kernel_rfl)
      (by rw [MakeChecks.laidMetH_plain _ _ _ (by kernel_rfl)]; exact laidMet_laidAll _ (by kernel_rfl) (by kernel_rfl))) ?_
  intro W base args ds gs before hval0 hW hc0 _ hSh hL _
  have hval : ∀ (j : Nat) t v, Tryz.f7.params[j]? = some t → args[j]? = some v → Value.okWide Tryz.prog W .any base t v := hval0
  have hW' := hW
  obtain ⟨p, q, hA0, hV, rfl, _, _⟩ := hW
  have hA : DataW.TrodAll enc Tryz.prog W 0 (fun _ => true) true Tryz.f7.params.toList args.toList ds p := hA0
  rw [Tryz.params7] at hA hval
  obtain ⟨v0, vs0, d0, ds0, p0, q0, hargs, rfl, rfl, h0, r0⟩ := trodAll_cons hA
  obtain ⟨rfl, rfl, rfl⟩ := trodAll_nil r0
  obtain rfl : args = #[v0] := by cases args; simp_all
  obtain ⟨gG, tG, csG, fuelG, dG, pG, rfl, hgG, htG, hvG, hdG, rfl⟩ := trodVars_one hV
  obtain ⟨a, len, cap, rfl⟩ := okWide_slice Tryz.underlying22 (hval 0 22 v0 rfl rfl)
  clear hA0 hval0
  simp only [List.append_nil] at hW'
  have hlt : ∀ x ∈ p0, x.block < W.heap.size := fun x hx => hW'.lt x (by simp [hx])
  have hGx : Gx W := gx_laid hSh (by rw [MakeChecks.laidMetH_plain _ _ _ (by kernel_rfl)] at hL; exact hL) (two_second hL (fun _ => MakeChecks.laidMetH_plain _ _ _ (by kernel_rfl))) (tz_second hL (fun _ => MakeChecks.laidMetH_plain _ _ _ (by kernel_rfl)))
  have hltG : ∀ x ∈ pG, x.block < W.heap.size := fun x hx => hW'.lt x (by simp [hx])
  refine (lawExPlace_c a len cap W (code_of h0) hGx).mono fun e W' ⟨he, hg⟩ => ?_
  subst he
  have harg := Below.trod laidOut (by kernel_rfl) (of_decide_eq_true (by kernel_rfl)) h0 hg hlt
  refine ⟨_, rfl, _, _, _, [], p0, MemPlace.row ⟨gG, 0, none⟩ csG.size ++ pG, hW', ?_, ?_, ?_, hg.frame _, fun h => by cases h⟩
  · exact trodAll_cons_mk (shut_bool Tryz.underlying4 _) trodAll_mk0
  · exact trodAll_mk1 harg
  · exact vars_shut hgG htG hvG hdG hltG hGx.tab hg

theorem holds : Rows.FnExecutePlaceSaid :=
  OpenClaim.holds_of_wide 7 Tryz.f7 rfl rfl rfl rfl rfl rfl rfl ⟨rfl, rfl, rfl, rfl, rfl⟩ rfl rfl rfl rfl rfl (by kernel_rfl) Tryz.func7 (by kernel_rfl)
    (of_decide_eq_true (by kernel_rfl)) (by unfold Func.isWrapper; first | (rw [if_pos (by decide +kernel)]; kernel_rfl) | (rw [if_neg (by decide +kernel)]; exact ⟨rfl, rfl⟩))
    (fun os started H enc _ => lifted os started H enc)
theorem proved : Rows.FnExecutePlaceCardSaid :=
  Claim7.holds_tied_plain_at .later [] [.data, .data, .data, .data, .sentinel, .sentinel, .data, .pinned] true (true, "31d297d1b200e5de30b98f5671a0c8ac02225e4465fc3b68d8640aee3c87e509") true holds (fun _ h => by cases h) (by kernel_rfl) (fun _ h => by cases h) fnExecutePlace_row_tie rfl ⟨rfl, rfl⟩ (by kernel_rfl) rfl
    (fun f fn hf hfn => by
      obtain rfl : f = 7 := Option.some.inj ((show Tryz.prog.funcNamed "loop.example/dragonnumbers/laws.FnExecutePlace" = some 7 by kernel_rfl).symm.trans hf) |>.symm
      obtain rfl : fn = Tryz.f7 := (Option.some.inj (Tryz.func7.symm.trans hfn)).symm
      exact ⟨by kernel_rfl, fun j t ht => by
        rw [Tryz.params7] at ht
        have hm : t ∈ [22] := by simpa using Array.mem_of_getElem? ht
        have hall : ([22].all fun u => !Tryz.prog.wantsStandIn u) = true := by kernel_rfl
        exact (show Tryz.prog.wantsStandIn t = false by simpa using List.all_eq_true.1 hall t hm)⟩)
    (by kernel_rfl)
end lawFnExecutePlace
end Go.Proofs.YtmondgcehgmamaaGreatDoor

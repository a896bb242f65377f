/- FnExecuteAdd (P64): at every code the law answers true: where the sum of what is drawn succeeds, the script that sets, adds and shows prints 'ok' twice, the sum, and the number of its digits; the listed variables are as the program's text lays them. -/
import Derived.SevenTiedAt
import Derived.Test.YtmondgcehgmamaaGreatDoorZ5
namespace Go.Proofs.YtmondgcehgmamaaGreatDoor
set_option linter.unusedSimpArgs false
set_option linter.unusedVariables false
open Go.ChangeShapes Go.WideShapes Go.ChangeAt Go.RowKit Go.Joins

theorem bits_ten {l : List UInt8} (h : ∀ c ∈ l, bitC c = true) : (10 : UInt8) ∉ l := fun hm => by have := h _ hm; revert this; decide
def stAdd (a s : ByteArray) : Nat → ByteArray × ByteArray
  | 0 => (⟨#[48]⟩, ⟨#[108]⟩)
  | 1 => (a, ⟨#[108]⟩)
  | _ => (s, ⟨#[108]⟩)
def outA3 (s : ByteArray) : Nat → ByteArray
  | 0 => okB
  | 1 => okB
  | _ => s
theorem scriptAdd_c (a b Y : ByteArray) (w : World) (hG : Gx w) (ha : vldB a = true) (hb : vldB b = true) (hok : addOk a b = true) (hs : (addS a b).size ≤ 50)
    (hY : toL Y = [115, 101, 116, 32] ++ toL a ++ [10, 97, 100, 100, 32] ++ toL b ++ [10, 115, 104, 111, 119, 10]) :
    Calls Tryz.prog 11 #[.string Y] w fun e w' => e = .returned (.string (bs ([111, 107, 10, 111, 107, 10] ++ toL (addS a b) ++ [10] ++ endL (addS a b).size))) ∧ Below w.heap.size w w' := by
  have la := vldB_len ha
  have lb := vldB_len hb
  have ta := bits_ten (vldB_bits ha)
  have tb := bits_ten (vldB_bits hb)
  have hY2 : toL Y = ([115, 101, 116] ++ 32 :: toL a) ++ 10 :: (([97, 100, 100] ++ 32 :: toL b) ++ 10 :: ([115, 104, 111, 119] ++ 10 :: [])) := by rw [hY]; simp
  have hn : (toL Y).count 10 = 3 := by
    have e1 := List.count_eq_zero_of_not_mem ta
    have e2 := List.count_eq_zero_of_not_mem tb
    rw [hY]
    simp only [List.count_append, e1, e2]
    decide
  have hc : cutsQ 10 (toL Y) = [[115, 101, 116] ++ 32 :: toL a, [97, 100, 100] ++ 32 :: toL b, [115, 104, 111, 119], []] := by
    rw [hY2, cutsQ_hit (by simp [ta]), cutsQ_hit (by simp [tb]), cutsQ_hit (by decide)]; rfl
  have hsz : Y.size ≤ 500 := by rw [← toL_len, hY]; simp [toL_len]; omega
  have h := execute_run Y hsz 3 (stAdd a (addS a b)) (outA3 (addS a b)) rfl hn (fun k hk => by
      match k, hk with
      | 0, _ => show okB.size ≤ _; decide
      | 1, _ => show okB.size ≤ _; decide
      | 2, _ => show (addS a b).size ≤ _; omega) (by show (addS a b).size ≤ _; omega) (fun k hk b0 w' hb0 hG' hS' => by
      rw [hc]
      match k, hk with
      | 0, _ =>
        exact line_rest b0 _ _ _ _ _ [115, 101, 116] (toL a) (some okB) w' hb0 (by rw [toL_len]; simp; omega) (by decide) hG' hS' rfl ent_set (fun w1 _ hS1 => by
          have h := set_c b0 (⟨#[48]⟩) (⟨#[108]⟩) a w1 hS1
          rw [ha] at h
          rw [bs_toL]
          exact h)
      | 1, _ =>
        exact line_rest b0 _ _ _ _ _ [97, 100, 100] (toL b) (some okB) w' hb0 (by rw [toL_len]; simp; omega) (by decide) hG' hS' rfl ent_add (fun w1 hG1 hS1 => by
          have h := add_c b0 a (⟨#[108]⟩) b w1 hG1 hS1
          rw [hok] at h
          rw [bs_toL]
          exact h)
      | 2, _ =>
        exact line_alone b0 _ _ _ _ _ [115, 104, 111, 119] (some (addS a b)) w' hb0 (by simp) (by decide) hG' hS' rfl ent_show (fun w1 _ hS1 => show_c b0 _ _ w1 hS1)) w hG
  refine h.mono fun e w' ⟨he, hB⟩ => ⟨?_, hB⟩
  rw [he]
  have : allO (outA3 (addS a b)) 3 ++ endL (stAdd a (addS a b) 3).1.size = [111, 107, 10, 111, 107, 10] ++ toL (addS a b) ++ [10] ++ endL (addS a b).size := by
    show ((([] ++ (toL okB ++ [10])) ++ (toL okB ++ [10])) ++ (toL (addS a b) ++ [10])) ++ endL (addS a b).size = _
    rw [show toL okB = [111, 107] from rfl]
    simp
  rw [this]
set_option maxRecDepth 100000 in
set_option maxHeartbeats 8000000 in
theorem lawExAdd_c (a : Option Addr) (len cap : Nat) (w : World) (hc : len ≤ 1048576 → Code (.slice a len cap) w) (hG : Gx w) : Calls Tryz.prog 6 #[.slice a len cap] w fun e w' => e = .returned (.bool true) ∧ Below w.heap.size w w' := by
  have HG := Lib.hid hG
  have hbig := hG.big
  clear hG
  by_cases hl : 1048576 < len
  · go_enter Tryz.func6, Tryz.ntmps6
    go_wp2_with fail
    go_ret
    exact ⟨rfl, by (first | ((repeat' with_reducible first | assumption | exact Below.refl _ _ | apply Blw.alloc | apply Blw.drew | apply Blw.drewN | (refine Blw.after ?_ (by assumption)) | (refine Blw.set ?_ (by first | (dsimp only; omega) | (simp; omega)) _)); done) | (repeat' (first | assumption | exact Below.refl _ _ | apply Blw.alloc | apply Blw.drew | apply Blw.drewN | (refine Blw.after ?_ (by assumption)) | (refine Blw.set ?_ (by first | (dsimp only; omega) | (simp; done) | (simp; omega)) _))))⟩
  · have hc' := hc (by omega)
    clear hc
    go_enter Tryz.func6, Tryz.ntmps6
    go_wp2_with fail
    refine (drawDigitsAdd_c _ w hc').mono ?_
    rintro e W1 ⟨s, t, rfl, hs, ht, hb1⟩
    clear hc'
    have HG1 := Lib.hid (HG.out.below hb1)
    have HB1 := Lib.hid hb1
    have HI := Lib.hid (iDigitsAdd_c s t W1 HG1.out.tab)
    have HS := Lib.hid (fun w => sDigitsAdd_c s t w)
    rw [addV_eq] at HI HS
    rcases Bool.eq_false_or_eq_true (addOk s t) with hok | hok
    · have hv : vldB s = true ∧ vldB t = true ∧ (addS s t).size ≤ 50 := by
        have h1 := hok
        unfold addOk at h1
        simp only [Bool.and_eq_true] at h1
        refine ⟨h1.1.1, h1.1.2, ?_⟩
        unfold addS
        rw [hok]
        have := ((vldL_iff _).1 h1.2).2.1
        rw [selS, if_pos rfl, ← toL_len, toL_bs]
        exact this
      have HX := Lib.hid (fun Y w hG hY => scriptAdd_c s t Y w hG hv.1 hv.2.1 hok hv.2.2 hY)
      rw [hok] at HI HS
      have hs50 := hv.2.2
      clear hv hok hb1
      generalize addS s t = o at *
      go_wp2_with fail
      refine HI.out.mono ?_
      rintro e W2 ⟨rfl, hb2⟩
      have HG2 := Lib.hid (HG1.out.below hb2)
      have HB2 := Lib.hid (Blw.after HB1.out hb2)
      clear hb2
      go_wp2_with fail
      refine (HS.out W2).mono ?_
      rintro e W3 ⟨rfl, hb3⟩
      have HG3 := Lib.hid (HG2.out.below hb3)
      have HB3 := Lib.hid (Blw.after HB2.out hb3)
      clear hb3
      go_wp2_with fail
      obtain ⟨Y, hY⟩ : ∃ Y, (⟨#[115, 101, 116, 32]⟩ : ByteArray) ++ s ++ (⟨#[10, 97, 100, 100, 32]⟩ : ByteArray) ++ t ++ (⟨#[10, 115, 104, 111, 119, 10]⟩ : ByteArray) = Y := ⟨_, rfl⟩
      have HW := HX.out Y W3 HG3.out (by rw [← hY]; simp [toL, ByteArray.data_append])
      rw [hY]
      have e0 : bs ([111, 107, 10, 111, 107, 10] ++ toL o ++ [10] ++ endL o.size) = (⟨#[111, 107, 10, 111, 107, 10]⟩ : ByteArray) ++ o ++ (⟨#[10, 100, 105, 103, 105, 116, 115, 32]⟩ : ByteArray) ++ bs (Lib.decDigits o.size) ++ (⟨#[10]⟩ : ByteArray) := by
        apply toL_ext
        rw [toL_bs]
        unfold endL
        rw [itoa_nat]
        simp [toL, ByteArray.data_append, bs]
      rw [e0] at HW
      have HDg := Lib.hid (fun w => digits_c o.size w (by omega))
      have hlD : (bs (Lib.decDigits o.size)).size ≤ 51 := by rw [← toL_len, toL_bs]; have := decD_len o.size; omega
      clear hY e0
      generalize bs (Lib.decDigits o.size) = Dg at *
      refine HW.mono ?_
      clear HW
      rintro e W4 ⟨rfl, hb4⟩
      have HB4 := Lib.hid (Blw.after HB3.out hb4)
      clear hb4
      go_wp2_with fail
      refine (HDg.out W4).mono ?_
      rintro e W5 ⟨rfl, hb5⟩
      have HB5 := Lib.hid (Blw.after HB4.out hb5)
      clear hb5
      go_wp2_with fail
      go_ret
      exact ⟨by simp, HB5.out⟩
    · rw [hok] at HI HS
      go_wp2_with fail
      refine HI.out.mono ?_
      rintro e W2 ⟨rfl, hb2⟩
      have HB2 := Lib.hid (Blw.after HB1.out hb2)
      clear hb2
      go_wp2_with fail
      refine (HS.out W2).mono ?_
      rintro e W3 ⟨rfl, hb3⟩
      have HB3 := Lib.hid (Blw.after HB2.out hb3)
      clear hb3
      go_wp2_with fail
      go_ret
      exact ⟨by simp, HB3.out⟩

namespace lawFnExecuteAdd
set_option maxRecDepth 100000 in
theorem lifted (os : Os) (started : os.Started) (H : Type) (enc : TypeId × Value → H) :
    ReturnsInHanded {} Tryz.checked os 6 .any (fun w args => (Rows.fnExecuteAddSpec.pre enc Tryz.prog Tryz.f6 Rows.fnExecuteAddRow.domain false w args ∧ laidMetH Tryz.prog Rows.fnExecuteAddRow.laid w) ∧ sizedMet enc Tryz.prog Tryz.f6 (OpenSpec.ofChange Rows.fnExecuteAddSpec) false w args)
      (Rows.fnExecuteAddSpec.post enc Tryz.prog Tryz.f6 false true false false) := by
  refine handed_shaped (C := Tryz.checked) (X := fun w _ => laidMetH Tryz.prog Rows.fnExecuteAddRow.laid w) (fun _ _ _ hh h => h.of_heap hh) own started (by kernel_rfl) Tryz.func6
    (ChangeSpec.witness_shaped (enc := enc) (C := Tryz.checked) (os := os) (X := fun w _ => laidMetH Tryz.prog Rows.fnExecuteAddRow.laid w) false (World.laidAll Tryz.prog os Rows.fnExecuteAddRow.laid) #[.slice none 0 0] 8 (World.laidAll_os _ _ _)
      (World.shaped_of_ZipB (by kernel_rfl) (by kernel_rfl)) (by kernel_rfl) (by kernel_rfl) (by kernel_rfl)
      (by rw [MakeChecks.laidMetH_plain _ _ _ (by kernel_rfl)]; exact laidMet_laidAll _ (by kernel_rfl) (by kernel_rfl))) ?_
  intro W base args ds gs before hval0 hW hc0 _ hSh hL _
  have hval : ∀ (j : Nat) t v, Tryz.f6.params[j]? = some t → args[j]? = some v → Value.okWide Tryz.prog W .any base t v := hval0
  have hW' := hW
  obtain ⟨p, q, hA0, hV, rfl, _, _⟩ := hW
  have hA : DataW.TrodAll enc Tryz.prog W 0 (fun _ => true) true Tryz.f6.params.toList args.toList ds p := hA0
  rw [Tryz.params6] at hA hval
  obtain ⟨v0, vs0, d0, ds0, p0, q0, hargs, rfl, rfl, h0, r0⟩ := trodAll_cons hA
  obtain ⟨rfl, rfl, rfl⟩ := trodAll_nil r0
  obtain rfl : args = #[v0] := by cases args; simp_all
  obtain ⟨gG, tG, csG, fuelG, dG, pG, rfl, hgG, htG, hvG, hdG, rfl⟩ := trodVars_one hV
  obtain ⟨a, len, cap, rfl⟩ := okWide_slice Tryz.underlying22 (hval 0 22 v0 rfl rfl)
  clear hA0 hval0
  simp only [List.append_nil] at hW'
  have hlt : ∀ x ∈ p0, x.block < W.heap.size := fun x hx => hW'.lt x (by simp [hx])
  have hGx : Gx W := gx_laid hSh (by rw [MakeChecks.laidMetH_plain _ _ _ (by kernel_rfl)] at hL; exact hL) (two_second hL (fun _ => MakeChecks.laidMetH_plain _ _ _ (by kernel_rfl))) (tz_second hL (fun _ => MakeChecks.laidMetH_plain _ _ _ (by kernel_rfl)))
  have hltG : ∀ x ∈ pG, x.block < W.heap.size := fun x hx => hW'.lt x (by simp [hx])
  refine (lawExAdd_c a len cap W (code_of h0) hGx).mono fun e W' ⟨he, hg⟩ => ?_
  subst he
  have harg := Below.trod laidOut (by kernel_rfl) (of_decide_eq_true (by kernel_rfl)) h0 hg hlt
  refine ⟨_, rfl, _, _, _, [], p0, MemPlace.row ⟨gG, 0, none⟩ csG.size ++ pG, hW', ?_, ?_, ?_, hg.frame _, fun h => by cases h⟩
  · exact trodAll_cons_mk (shut_bool Tryz.underlying4 _) trodAll_mk0
  · exact trodAll_mk1 harg
  · exact vars_shut hgG htG hvG hdG hltG hGx.tab hg

theorem holds : Rows.FnExecuteAddSaid :=
  OpenClaim.holds_of_wide 6 Tryz.f6 rfl rfl rfl rfl rfl rfl rfl ⟨rfl, rfl, rfl, rfl, rfl⟩ rfl rfl rfl rfl rfl (by kernel_rfl) Tryz.func6 (by kernel_rfl)
    (of_decide_eq_true (by kernel_rfl)) (by unfold Func.isWrapper; first | (rw [if_pos (by decide +kernel)]; kernel_rfl) | (rw [if_neg (by decide +kernel)]; exact ⟨rfl, rfl⟩))
    (fun os started H enc _ => lifted os started H enc)
theorem proved : Rows.FnExecuteAddCardSaid :=
  Claim7.holds_tied_plain_at .later [] [.data, .data, .data, .data, .sentinel, .sentinel, .data, .pinned] true (true, "31d297d1b200e5de30b98f5671a0c8ac02225e4465fc3b68d8640aee3c87e509") true holds (fun _ h => by cases h) (by kernel_rfl) (fun _ h => by cases h) fnExecuteAdd_row_tie rfl ⟨rfl, rfl⟩ (by kernel_rfl) rfl
    (fun f fn hf hfn => by
      obtain rfl : f = 6 := Option.some.inj ((show Tryz.prog.funcNamed "loop.example/dragonnumbers/laws.FnExecuteAdd" = some 6 by kernel_rfl).symm.trans hf) |>.symm
      obtain rfl : fn = Tryz.f6 := (Option.some.inj (Tryz.func6.symm.trans hfn)).symm
      exact ⟨by kernel_rfl, fun j t ht => by
        rw [Tryz.params6] at ht
        have hm : t ∈ [22] := by simpa using Array.mem_of_getElem? ht
        have hall : ([22].all fun u => !Tryz.prog.wantsStandIn u) = true := by kernel_rfl
        exact (show Tryz.prog.wantsStandIn t = false by simpa using List.all_eq_true.1 hall t hm)⟩)
    (by kernel_rfl)
end lawFnExecuteAdd
end Go.Proofs.YtmondgcehgmamaaGreatDoor

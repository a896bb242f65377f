/- FnDigits: whatever the code draws, adding 0 and multiplying by 1 change nothing, and multiplying by 10 puts a 0 behind; the listed variables are as the program's text lays them. -/
import Derived.Test.YtlcafjdinjdllaaDoorDVal3
import Derived.Test.YtlcafjdinjdllaaDoorDo
import Derived.Test.YtlcafjdinjdllaaDoorDrawX
import Derived.Test.YtlcafjdinjdllaaDoorTab
import Derived.Test.YtlcafjdinjdllaaDoorBaseP
import Derived.Test.YtlcafjdinjdllaaDoorTie
import Derived.Test.YtlcafjdinjdllaaDoorCards
import Derived.OpenShut
import Derived.LaidMore
import Derived.Lay
import Derived.SevenTiedAt
import Derived.Stop.Joined
import Derived.Stop.LaidErr
import Derived.ChangeVars
import Derived.ChangeStays
namespace Go.Proofs.YtlcafjdinjdllaaDoor
set_option linter.unusedSimpArgs false
set_option linter.unusedVariables false
open Go.ChangeShapes Go.WideShapes Go.ChangeAt Go.RowKit Go.Joins

abbrev c0 : ByteArray := ⟨#[48]⟩
abbrev c1 : ByteArray := ⟨#[49]⟩
abbrev c10 : ByteArray := ⟨#[49, 48]⟩
theorem c0_val : vldB c0 = true ∧ valX (toL c0) = 0 ∧ valY (toL c0) = 0 := by decide
theorem c1_val : vldB c1 = true ∧ valX (toL c1) = 1 ∧ valY (toL c1) = 0 := by decide
theorem c10_val : vldB c10 = true ∧ valX (toL c10) = -1 ∧ valY (toL c10) = 1 := by decide
theorem add_nought {s : ByteArray} (h : vldB s = true) : addV s c0 = .tuple #[.string s, .bool true] := add_to h c0_val.1 h (by rw [c0_val.2.1]; omega) (by rw [c0_val.2.2]; omega)
theorem shift_none (s : ByteArray) : shiftB s 0 = s := by
  unfold shiftB
  split
  · rfl
  · simp [bs_toL]
theorem times_one {s : ByteArray} (h : vldB s = true) : timesV s c1 = .tuple #[.string s, .bool true] := by
  have e1 : addOk c0 s = true := by
    have h2 := add_to c0_val.1 h h (by rw [c0_val.2.1]; omega) (by rw [c0_val.2.2]; omega)
    rw [addV_eq] at h2
    simp at h2
    exact h2.2
  have e2 : addS c0 s = s := by
    have h2 := add_to c0_val.1 h h (by rw [c0_val.2.1]; omega) (by rw [c0_val.2.2]; omega)
    rw [addV_eq] at h2
    simp at h2
    exact h2.1
  refine timesV_some h c1_val.1 ?_
  show (some c0).bind _ = some s
  rw [Option.bind_some]
  have e3 : (toL c1).getD 0 48 = 49 := rfl
  rw [e3, if_neg (by decide), show c1.size - 1 - 0 = 0 from rfl, shift_none, if_pos e1, e2]
/-- what the product with 10 is: none, or the text with a nought behind, which 0 does not take -/
theorem times_ten (s : ByteArray) : timesV s c10 = .tuple #[.string ⟨#[]⟩, .bool false] ∨ (s = c0 ∧ timesV s c10 = .tuple #[.string c0, .bool true]) ∨ (s ≠ c0 ∧ timesV s c10 = .tuple #[.string (s ++ c0), .bool true]) := by
  rcases times_cases s c10 with h | ⟨t, hs, -, ht, tx, ty, h, htm⟩
  · exact Or.inl h
  · right
    obtain ⟨-, e1, e2⟩ := c10_val
    rw [e1, e2] at tx ty
    have hsh : vldB (shiftB s 1) = true := by
      have h0 : tmO s c10 2 = some t := htm
      cases h1 : tmO s c10 1 with
      | none => unfold tmO at h0; rw [h1] at h0; simp at h0
      | some u =>
        have h2 := h1
        unfold tmO at h2
        have h3 : tmO s c10 0 = some c0 := rfl
        rw [h3, Option.bind_some, show (toL c10).getD 0 48 = 49 from rfl, if_neg (by decide)] at h2
        by_cases hok : addOk c0 (shiftB s (c10.size - 1 - 0)) = true
        · unfold addOk at hok
          simp only [Bool.and_eq_true] at hok
          exact hok.1.2
        · rw [if_neg hok] at h2; cases h2
    by_cases hz : s = c0
    · subst hz
      left
      refine ⟨rfl, ?_⟩
      rw [h, text_unique ht c0_val.1 (by rw [tx, c0_val.2.1, c0_val.2.2]; rfl) (by rw [ty, c0_val.2.1, c0_val.2.2]; rfl)]
    · right
      refine ⟨hz, ?_⟩
      have e : shiftB s 1 = s ++ c0 := by
        unfold shiftB
        rw [if_neg (fun e => hz (toL_ext (by rw [e])))]
        exact toL_ext (by rw [toL_bs]; simp [toL, ByteArray.data_append])
      obtain ⟨v1, v2⟩ := shift_val (a := s) 1
      have p1 : pX 1 = -1 := rfl
      have p2 : pY 1 = 1 := rfl
      rw [p1, p2] at v1 v2
      rw [h, ← e, text_unique ht hsh (by rw [v1, tx]; omega) (by rw [v2, ty]; omega)]
theorem c0_list {s : ByteArray} (h : s = c0) : (s.toList == [48]) = true ∧ (s.toList == (s ++ c0).toList) = false ∧ s.size = 1 := by
  subst h
  rw [toList_toL, toList_toL]
  exact ⟨rfl, rfl, rfl⟩
set_option maxRecDepth 100000 in
set_option maxHeartbeats 8000000 in
theorem lawDigits_c (a : Option Addr) (len cap : Nat) (w : World) (hc : len ≤ 1048576 → Code (.slice a len cap) w) (hT : Tab w) : Calls Tryd.prog 3 #[.slice a len cap] w fun e w' => e = .returned (.bool true) ∧ Below w.heap.size w w' := by
  have HT := Lib.hid hT
  have hpos := hT.1
  clear hT
  by_cases hl : 1048576 < len
  · go_enter Tryd.func3, Tryd.ntmps3
    go_wp2_with fail
    go_ret
    exact ⟨rfl, by (repeat' (first | assumption | exact Below.refl _ _ | apply Blw.alloc | apply Blw.drew | apply Blw.drewN | (refine Blw.after ?_ (by assumption)) | (refine Blw.set ?_ (by first | (dsimp only; omega) | (simp; done) | (simp; omega)) _)))⟩
  · have hc' := hc (by omega)
    clear hc
    go_enter Tryd.func3, Tryd.ntmps3
    go_wp2_with fail
    refine (drawDigitsValid_c _ w hc').mono ?_
    rintro e W1 ⟨s, rfl, hs, hb1⟩
    clear hc'
    rcases Bool.eq_false_or_eq_true (vldB s) with h | h
    · have H1 := Lib.hid (add_nought h)
      have H2 := Lib.hid (times_one h)
      have C1 : ∀ w, Calls Tryd.prog 12 #[.string s] w fun e w' => e = .returned (.bool true) ∧ Below w.heap.size w w' := fun w => by
        have k := iDigitsValid_c s w; rwa [h] at k
      have C2 : ∀ w, Calls Tryd.prog 13 #[.string s] w fun e w' => e = .returned (.bool true) ∧ w = w' := fun w => by
        have k := sDigitsValid_c s w; rwa [h] at k
      clear h
      rcases times_ten s with H3' | ⟨hz, H3'⟩ | ⟨hz, H3'⟩
      · have H3 := Lib.hid H3'
        clear H3'
        go_wp2_with fail
        refine (C1 W1).mono ?_
        rintro e W2 ⟨rfl, hb2⟩
        go_wp2_with fail
        refine (C2 W2).mono ?_
        rintro e W3 ⟨rfl, rfl⟩
        have hB3 := Blw.after hb1 hb2
        have HT3 := Lib.hid (HT.out.keep hpos hB3)
        go_wp2_with fail
        refine (iDigitsAdd_c s c0 _ HT3.out).mono ?_
        rintro e W4 ⟨rfl, hb4⟩
        rw [H1.out]
        have hB4 := Blw.after hB3 hb4
        have HT4 := Lib.hid (HT.out.keep hpos hB4)
        go_wp2_with fail
        refine (iDigitsTimes_c s c1 _ HT4.out).mono ?_
        rintro e W5 ⟨rfl, hb5⟩
        rw [H2.out]
        have hB5 := Blw.after hB4 hb5
        have HT5 := Lib.hid (HT.out.keep hpos hB5)
        go_wp2_with fail
        refine (iDigitsTimes_c s c10 _ HT5.out).mono ?_
        rintro e W6 ⟨rfl, hb6⟩
        rw [H3.out]
        have hB6 := Blw.after hB5 hb6
        go_wp2_with fail
        go_ret
        exact ⟨rfl, hB6⟩
      · obtain ⟨a1, a2, a3⟩ := c0_list hz
        have H3 := Lib.hid (show timesV s c10 = .tuple #[.string s, .bool true] by rw [H3', hz])
        have hsz : ¬ (9223372036854775807 < s.size + 1) := by omega
        clear H3' hz a3
        go_wp2_with fail
        refine (C1 W1).mono ?_
        rintro e W2 ⟨rfl, hb2⟩
        go_wp2_with fail
        refine (C2 W2).mono ?_
        rintro e W3 ⟨rfl, rfl⟩
        have hB3 := Blw.after hb1 hb2
        have HT3 := Lib.hid (HT.out.keep hpos hB3)
        go_wp2_with fail
        refine (iDigitsAdd_c s c0 _ HT3.out).mono ?_
        rintro e W4 ⟨rfl, hb4⟩
        rw [H1.out]
        have hB4 := Blw.after hB3 hb4
        have HT4 := Lib.hid (HT.out.keep hpos hB4)
        go_wp2_with fail
        refine (iDigitsTimes_c s c1 _ HT4.out).mono ?_
        rintro e W5 ⟨rfl, hb5⟩
        rw [H2.out]
        have hB5 := Blw.after hB4 hb5
        have HT5 := Lib.hid (HT.out.keep hpos hB5)
        go_wp2_with fail
        refine (iDigitsTimes_c s c10 _ HT5.out).mono ?_
        rintro e W6 ⟨rfl, hb6⟩
        rw [H3.out]
        have hB6 := Blw.after hB5 hb6
        go_wp2_with fail
        go_ret
        exact ⟨rfl, hB6⟩
      · have H3 := Lib.hid H3'
        clear H3'
        go_wp2_with fail
        refine (C1 W1).mono ?_
        rintro e W2 ⟨rfl, hb2⟩
        go_wp2_with fail
        refine (C2 W2).mono ?_
        rintro e W3 ⟨rfl, rfl⟩
        have hB3 := Blw.after hb1 hb2
        have HT3 := Lib.hid (HT.out.keep hpos hB3)
        have hsz : ¬ (9223372036854775807 < s.size + 1) := by omega
        have HZ := Lib.hid hz
        clear hz
        go_wp2_with fail
        refine (iDigitsAdd_c s c0 _ HT3.out).mono ?_
        rintro e W4 ⟨rfl, hb4⟩
        rw [H1.out]
        have hB4 := Blw.after hB3 hb4
        have HT4 := Lib.hid (HT.out.keep hpos hB4)
        go_wp2_with fail
        refine (iDigitsTimes_c s c1 _ HT4.out).mono ?_
        rintro e W5 ⟨rfl, hb5⟩
        rw [H2.out]
        have hB5 := Blw.after hB4 hb5
        have HT5 := Lib.hid (HT.out.keep hpos hB5)
        go_wp2_with fail
        refine (iDigitsTimes_c s c10 _ HT5.out).mono ?_
        rintro e W6 ⟨rfl, hb6⟩
        rw [H3.out]
        have hB6 := Blw.after hB5 hb6
        go_wp2_with fail
        go_ret
        exact ⟨rfl, hB6⟩
    · have C1 : ∀ w, Calls Tryd.prog 12 #[.string s] w fun e w' => e = .returned (.bool false) ∧ Below w.heap.size w w' := fun w => by
        have k := iDigitsValid_c s w; rwa [h] at k
      have C2 : ∀ w, Calls Tryd.prog 13 #[.string s] w fun e w' => e = .returned (.bool false) ∧ w = w' := fun w => by
        have k := sDigitsValid_c s w; rwa [h] at k
      clear h
      go_wp2_with fail
      refine (C1 W1).mono ?_
      rintro e W2 ⟨rfl, hb2⟩
      go_wp2_with fail
      refine (C2 W2).mono ?_
      rintro e W3 ⟨rfl, rfl⟩
      have hB3 := Blw.after hb1 hb2
      go_wp2_with fail
      go_ret
      exact ⟨rfl, hB3⟩

namespace lawFnDigits
set_option maxRecDepth 100000 in
theorem lifted (os : Os) (started : os.Started) (H : Type) (enc : TypeId × Value → H) :
    ReturnsInHanded {} Tryd.checked os 3 .any (fun w args => (Rows.fnDigitsSpec.pre enc Tryd.prog Tryd.f3 Rows.fnDigitsRow.domain false w args ∧ laidMetH Tryd.prog Rows.fnDigitsRow.laid w) ∧ sizedMet enc Tryd.prog Tryd.f3 (OpenSpec.ofChange Rows.fnDigitsSpec) false w args)
      (Rows.fnDigitsSpec.post enc Tryd.prog Tryd.f3 false true false false) := by
  refine returnsInHanded_of_change_and (C := Tryd.checked) (X := fun w _ => laidMetH Tryd.prog Rows.fnDigitsRow.laid w) (fun _ _ _ hh h => h.of_heap hh) own started (by kernel_rfl) Tryd.func3
    (ChangeSpec.witness_shaped (enc := enc) (C := Tryd.checked) (os := os) (X := fun w _ => laidMetH Tryd.prog Rows.fnDigitsRow.laid w) false (World.laidAll Tryd.prog os Rows.fnDigitsRow.laid) #[.slice none 0 0] 8 (World.laidAll_os _ _ _)
      (World.shaped_of_ZipB (by kernel_rfl) (by kernel_rfl)) (by kernel_rfl) (by kernel_rfl) (by kernel_rfl)
      (by rw [MakeChecks.laidMetH_plain _ _ _ (by kernel_rfl)]; exact laidMet_laidAll _ (by kernel_rfl) (by kernel_rfl))) ?_
  intro W base args ds gs before hval0 hW hc0 _ hL _
  have hval : ∀ (j : Nat) t v, Tryd.f3.params[j]? = some t → args[j]? = some v → Value.okWide Tryd.prog W .any base t v := hval0
  have hW' := hW
  obtain ⟨p, q, hA0, hV, rfl, _, _⟩ := hW
  have hA : DataW.TrodAll enc Tryd.prog W 0 (fun _ => true) true Tryd.f3.params.toList args.toList ds p := hA0
  rw [Tryd.params3] at hA hval
  obtain ⟨v0, vs0, d0, ds0, p0, q0, hargs, rfl, rfl, h0, r0⟩ := trodAll_cons hA
  obtain ⟨rfl, rfl, rfl⟩ := trodAll_nil r0
  obtain rfl : args = #[v0] := by cases args; simp_all
  obtain ⟨gG, tG, csG, fuelG, dG, pG, rfl, hgG, htG, hvG, hdG, rfl⟩ := trodVars_one hV
  obtain ⟨a, len, cap, rfl⟩ := okWide_slice Tryd.underlying22 (hval 0 22 v0 rfl rfl)
  clear hA0 hval0
  simp only [List.append_nil] at hW'
  have hlt : ∀ x ∈ p0, x.block < W.heap.size := fun x hx => hW'.lt x (by simp [hx])
  have hltG : ∀ x ∈ pG, x.block < W.heap.size := fun x hx => hW'.lt x (by simp [hx])
  have hTab : Tab W := tab_second hL (fun _ => MakeChecks.laidMetH_plain _ _ _ (by kernel_rfl))
  refine (lawDigits_c a len cap W (code_of h0) hTab).mono fun e W' ⟨he, hg⟩ => ?_
  subst he
  have harg := Below.trod laidOut (by kernel_rfl) (of_decide_eq_true (by kernel_rfl)) h0 hg hlt
  refine ⟨_, rfl, _, _, _, [], p0, MemPlace.row ⟨gG, 0, none⟩ csG.size ++ pG, hW', ?_, ?_, ?_, hg.frame _, fun h => by cases h⟩
  · exact trodAll_cons_mk (shut_bool Tryd.underlying4 _) trodAll_mk0
  · exact trodAll_mk1 harg
  · exact vars_shut hgG htG hvG hdG hltG hTab hg

theorem holds : Rows.FnDigitsSaid :=
  OpenClaim.holds_of_wide 3 Tryd.f3 rfl rfl rfl rfl rfl rfl rfl ⟨rfl, rfl, rfl, rfl, rfl⟩ rfl rfl rfl rfl rfl (by kernel_rfl) Tryd.func3 (by kernel_rfl)
    (of_decide_eq_true (by kernel_rfl)) (by unfold Func.isWrapper; first | (rw [if_pos (by decide +kernel)]; kernel_rfl) | (rw [if_neg (by decide +kernel)]; exact ⟨rfl, rfl⟩))
    (fun os started H enc _ => lifted os started H enc)
theorem proved : Rows.FnDigitsCardSaid :=
  Claim7.holds_tied_plain_at .later [] [.data, .data, .pinned] true (true, "ae5a7e1e5273026bef1a235bdfcbe898f8817563e717396bf1d72361ce9333b6") false holds (fun _ h => by cases h) (by kernel_rfl) (fun _ h => by cases h) fnDigits_row_tie rfl ⟨rfl, rfl⟩ (by kernel_rfl) rfl
    (fun f fn hf hfn => by
      obtain rfl : f = 3 := Option.some.inj ((show Tryd.prog.funcNamed "loop.example/dragonnumbers/laws.FnDigits" = some 3 by kernel_rfl).symm.trans hf) |>.symm
      obtain rfl : fn = Tryd.f3 := (Option.some.inj (Tryd.func3.symm.trans hfn)).symm
      exact ⟨by kernel_rfl, fun j t ht => by
        rw [Tryd.params3] at ht
        have hm : t ∈ [22] := by simpa using Array.mem_of_getElem? ht
        have hall : ([22].all fun u => !Tryd.prog.wantsStandIn u) = true := by kernel_rfl
        exact (show Tryd.prog.wantsStandIn t = false by simpa using List.all_eq_true.1 hall t hm)⟩)
    (by kernel_rfl)
end lawFnDigits
end Go.Proofs.YtlcafjdinjdllaaDoor

/- FnWord: whatever the code draws, the word of turns of creases is folded to them, and its sum is told by the last one; the listed variables are as the library's text lays them. -/
import Derived.Test.YtphpbnkbmopkhaaDoorDrawW
import Derived.Test.YtphpbnkbmopkhaaDoorWe
import Derived.Test.YtphpbnkbmopkhaaDoorWh
import Derived.Test.YtphpbnkbmopkhaaDoorBaseP
import Derived.Test.YtphpbnkbmopkhaaDoorTie
import Derived.Test.YtphpbnkbmopkhaaDoorCards
import Derived.OpenShut
import Derived.LaidMore
import Derived.Lay
import Derived.SevenTiedAt
import Derived.Stop.Joined
import Derived.Stop.LaidErr
import Derived.ChangeVars
import Derived.ChangeStays
namespace Go.Proofs.YtphpbnkbmopkhaaDoor
set_option linter.unusedSimpArgs false
set_option linter.unusedVariables false
open Go.ChangeShapes Go.WideShapes Go.ChangeAt Go.RowKit Go.Joins

theorem tw_size {s : ByteArray} (h : wdB 10 s = true) : (bs (turnsL (toL s))).size + 1 = 2 ^ s.size := by
  have hl := turnsL_len (toL s)
  rw [toL_len] at hl
  rw [bsz]; exact hl
theorem tw_word {s : ByteArray} (h : wdB 10 s = true) : wdB 1023 (bs (turnsL (toL s))) = true := by
  have h1 := tw_size h
  have h2 := (shl_one (wdB_len h)).2.2
  rw [wdB_of (by omega)]
  exact onlyW_good (by rw [toL_bs]; exact turnsL_wd _ (wdB_all h))
theorem tw_fold {s : ByteArray} (h : wdB 10 s = true) : foldV (bs (turnsL (toL s))) = .tuple #[.string s, .bool true] := foldV_some (tw_word h) (by rw [toL_bs])
theorem tw_sum {s : ByteArray} (h : wdB 10 s = true) : (s.toList = [] ∧ sumV (bs (turnsL (toL s))) = .tuple #[.int .i64 0, .bool true]) ∨
    ∃ hs : s.size - 1 < s.size, ¬ s.toList = [] ∧ (((s[s.size - 1].toNat : Int) == 108) = true ∧ sumV (bs (turnsL (toL s))) = .tuple #[.int .i64 1, .bool true] ∨ ((s[s.size - 1].toNat : Int) == 108) = false ∧ sumV (bs (turnsL (toL s))) = .tuple #[.int .i64 (-1), .bool true]) := by
  rw [sumV_t (tw_word h), toL_bs]
  rcases Nat.eq_zero_or_pos s.size with h0 | h0
  · left
    have : toL s = [] := List.eq_nil_of_length_eq_zero (by rw [toL_len]; exact h0)
    rw [toList_toL, this]; exact ⟨rfl, rfl⟩
  · right
    have hs : s.size - 1 < s.size := by omega
    have e : toL s = (toL s).take (s.size - 1) ++ [s[s.size - 1]] := by
      have h1 := take_snocB s (s.size - 1) hs
      rw [show s.size - 1 + 1 = s.size by omega, take_allB s s.size (Nat.le_refl _)] at h1
      exact h1
    refine ⟨hs, by rw [toList_toL, e]; simp, ?_⟩
    have hw : ∀ c ∈ (toL s).take (s.size - 1), wdC c = true := fun c hc => wdB_all h c (List.mem_of_mem_take hc)
    have hsum : sumL (turnsL (toL s)) = sgn s[s.size - 1] := by
      conv => lhs; rw [e]
      exact sumL_turns hw _
    rw [hsum]
    by_cases h8 : s[s.size - 1].toNat = 108
    · left
      refine ⟨by simp [h8], ?_⟩
      rw [show s[s.size - 1] = 108 from UInt8.toNat_inj.1 (by rw [h8]; rfl)]; rfl
    · right
      refine ⟨by simp; omega, ?_⟩
      have : sgn s[s.size - 1] = -1 := by unfold sgn; rw [if_neg (fun e => h8 (by rw [e]; rfl))]
      rw [this]
set_option maxHeartbeats 8000000 in
theorem lawWord_c (a : Option Addr) (len cap : Nat) (w : World) (hc : len ≤ 1048576 → Code (.slice a len cap) w) (hT : Tz w) : Calls Tryd.prog 3 #[.slice a len cap] w fun e w' => e = .returned (.bool true) ∧ Below w.heap.size w w' := by
  have HT := Lib.hid hT
  have h6 := hT.pos
  clear hT
  by_cases hl : 1048576 < len
  · go_enter Tryd.func3, Tryd.ntmps3
    go_wp2_with fail
    go_ret
    exact ⟨rfl, by (repeat' (first | assumption | exact Below.refl _ _ | apply Blw.alloc | apply Blw.drew | apply Blw.drewN | (refine Blw.after ?_ (by assumption)) | (refine Blw.set ?_ (by first | (dsimp only; omega) | (simp; done) | (simp; omega)) _)))⟩
  · have hc' := hc (by omega)
    clear hc
    go_enter Tryd.func3, Tryd.ntmps3
    go_wp2_with fail
    refine (drawTurnWord_c _ w hc').mono ?_
    rintro e W1 ⟨s, rfl, ht, hb1⟩
    clear hc'
    have HT1 := Lib.hid (HT.out.keep h6 hb1)
    rcases Bool.eq_false_or_eq_true (wdB 10 s) with h | h
    · have H1 := twV_t h
      have H2 := Lib.hid (tw_fold h)
      have hsz := tw_size h
      have h10 := wdB_len h
      obtain ⟨s1, s2, s3⟩ := shl_one h10
      have hS := tw_sum h
      generalize hTT : bs (turnsL (toL s)) = T at *
      generalize hP : 2 ^ s.size = P at *
      have s4 : wrap64 ((P : Int) - 1) = (P : Int) - 1 := by unfold wrap64; omega
      have a3 : ((T.size : Int) == (P : Int) - 1) = true := by simp; omega
      clear hTT hP h hsz
      rcases hS with ⟨h0, H3⟩ | ⟨hs, hne, ⟨h8, H3⟩ | ⟨h8, H3⟩⟩
      all_goals
        have HH3 := Lib.hid H3
        clear H3
        first | have he : s.toList.isEmpty = true := by rw [h0]; rfl
              | have he : s.toList.isEmpty = false := by simpa using hne
        go_wp2_with fail
        refine (iTurnWord_c s W1 HT1.out).mono ?_
        rintro e W2 ⟨rfl, hb2⟩
        rw [H1]
        go_wp2_with fail
        refine (sTurnWord_c s W2).mono ?_
        rintro e W3 ⟨rfl, hb3⟩
        rw [H1]
        have hB3 := Blw.after (Blw.after hb1 hb2) hb3
        have HT3 := Lib.hid (HT.out.keep h6 hB3)
        go_wp2_with fail
        refine (iTurnFold_c T W3 HT3.out).mono ?_
        rintro e W4 ⟨rfl, hb4⟩
        rw [H2.out]
        go_wp2_with fail
        refine (iTurnSum_c T W4).mono ?_
        rintro e W5 ⟨rfl, hb5⟩
        rw [HH3.out]
        have hB5 := Blw.after (Blw.after hB3 hb4) hb5
        go_wp2_with fail
        go_ret
        exact ⟨rfl, hB5⟩
    · have H1 := twV_f h
      go_wp2_with fail
      refine (iTurnWord_c s W1 HT1.out).mono ?_
      rintro e W2 ⟨rfl, hb2⟩
      rw [H1]
      go_wp2_with fail
      refine (sTurnWord_c s W2).mono ?_
      rintro e W3 ⟨rfl, hb3⟩
      rw [H1]
      have hB3 := Blw.after (Blw.after hb1 hb2) hb3
      go_wp2_with fail
      go_ret
      exact ⟨rfl, hB3⟩

namespace lawFnWord
set_option maxRecDepth 100000 in
theorem lifted (os : Os) (started : os.Started) (H : Type) (enc : TypeId × Value → H) :
    ReturnsInHanded {} Tryd.checked os 3 .any (fun w args => (Rows.fnWordSpec.pre enc Tryd.prog Tryd.f3 Rows.fnWordRow.domain false w args ∧ laidMetH Tryd.prog Rows.fnWordRow.laid w) ∧ sizedMet enc Tryd.prog Tryd.f3 (OpenSpec.ofChange Rows.fnWordSpec) false w args)
      (Rows.fnWordSpec.post enc Tryd.prog Tryd.f3 false true false false) := by
  refine returnsInHanded_of_change_and (C := Tryd.checked) (X := fun w _ => laidMetH Tryd.prog Rows.fnWordRow.laid w) (fun _ _ _ hh h => h.of_heap hh) own started (by kernel_rfl) Tryd.func3
    (ChangeSpec.witness_shaped (enc := enc) (C := Tryd.checked) (os := os) (X := fun w _ => laidMetH Tryd.prog Rows.fnWordRow.laid w) false (World.laidAll Tryd.prog os Rows.fnWordRow.laid) #[.slice none 0 0] 8 (World.laidAll_os _ _ _)
      (World.shaped_of_ZipB (by kernel_rfl) (by kernel_rfl)) (by kernel_rfl) (by kernel_rfl) (by kernel_rfl)
      (by rw [MakeChecks.laidMetH_plain _ _ _ (by kernel_rfl)]; exact laidMet_laidAll _ (by kernel_rfl) (by kernel_rfl))) ?_
  intro W base args ds gs before hval0 hW hc0 _ hL _
  have hval : ∀ (j : Nat) t v, Tryd.f3.params[j]? = some t → args[j]? = some v → Value.okWide Tryd.prog W .any base t v := hval0
  have hW' := hW
  obtain ⟨p, q, hA0, hV, rfl, _, _⟩ := hW
  have hA : DataW.TrodAll enc Tryd.prog W 0 (fun _ => true) true Tryd.f3.params.toList args.toList ds p := hA0
  rw [Tryd.params3] at hA hval
  obtain ⟨v0, vs0, d0, ds0, p0, q0, hargs, rfl, rfl, h0, r0⟩ := trodAll_cons hA
  obtain ⟨rfl, rfl, rfl⟩ := trodAll_nil r0
  obtain rfl : args = #[v0] := by cases args; simp_all
  obtain ⟨rfl, rfl⟩ := trodVars_none hV
  obtain ⟨a, len, cap, rfl⟩ := okWide_slice Tryd.underlying22 (hval 0 22 v0 rfl rfl)
  clear hA0 hval0
  simp only [List.append_nil] at hW'
  have hlt : ∀ x ∈ p0, x.block < W.heap.size := fun x hx => by simpa using hW'.lt x hx
  refine (lawWord_c a len cap W (code_of h0) (tz_second hL (fun _ => MakeChecks.laidMetH_plain _ _ _ (by kernel_rfl)))).mono fun e W' ⟨he, hg⟩ => ?_
  subst he
  have harg := Below.trod laidOut (by kernel_rfl) (of_decide_eq_true (by kernel_rfl)) h0 hg hlt
  refine ⟨_, rfl, _, _, _, [], p0, [], hW', ?_, ?_, ?_, hg.frame _, fun h => by cases h⟩
  · exact trodAll_cons_mk (shut_bool Tryd.underlying4 _) trodAll_mk0
  · exact trodAll_mk1 harg
  · rfl

theorem holds : Rows.FnWordSaid :=
  OpenClaim.holds_of_wide 3 Tryd.f3 rfl rfl rfl rfl rfl rfl rfl ⟨rfl, rfl, rfl, rfl, rfl⟩ rfl rfl rfl rfl rfl (by kernel_rfl) Tryd.func3 (by kernel_rfl)
    (of_decide_eq_true (by kernel_rfl)) (by unfold Func.isWrapper; first | (rw [if_pos (by decide +kernel)]; kernel_rfl) | (rw [if_neg (by decide +kernel)]; exact ⟨rfl, rfl⟩))
    (fun os started H enc _ => lifted os started H enc)
theorem proved : Rows.FnWordCardSaid :=
  Claim7.holds_tied_plain_at .later [] [.data, .data] true (true, "427eed556ffa03790ee2b8f217807cb1020bb7e8e847cbadd087ffee5fba2106") false holds (fun _ h => by cases h) (by kernel_rfl) (fun _ h => by cases h) fnWord_row_tie rfl ⟨rfl, rfl⟩ (by kernel_rfl) rfl
    (fun f fn hf hfn => by
      obtain rfl : f = 3 := Option.some.inj ((show Tryd.prog.funcNamed "loop.example/dragonnumbers/laws.FnWord" = some 3 by kernel_rfl).symm.trans hf) |>.symm
      obtain rfl : fn = Tryd.f3 := (Option.some.inj (Tryd.func3.symm.trans hfn)).symm
      exact ⟨by kernel_rfl, fun j t ht => by
        rw [Tryd.params3] at ht
        have hm : t ∈ [22] := by simpa using Array.mem_of_getElem? ht
        have hall : ([22].all fun u => !Tryd.prog.wantsStandIn u) = true := by kernel_rfl
        exact (show Tryd.prog.wantsStandIn t = false by simpa using List.all_eq_true.1 hall t hm)⟩)
    (by kernel_rfl)
end lawFnWord
end Go.Proofs.YtphpbnkbmopkhaaDoor

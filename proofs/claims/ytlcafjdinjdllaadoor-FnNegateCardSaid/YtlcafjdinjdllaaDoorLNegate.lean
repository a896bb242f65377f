/- FnNegate: whatever the code draws, the opposite of both sides is the same, it adds up to 0, and it leads back where it is told; the listed variables are as the program's text lays them. -/
import Derived.Test.YtlcafjdinjdllaaDoorLNegC
import Derived.Test.YtlcafjdinjdllaaDoorDVal3
import Derived.Test.YtlcafjdinjdllaaDoorDo
import Derived.Test.YtlcafjdinjdllaaDoorDrawX
import Derived.Test.YtlcafjdinjdllaaDoorTab
import Derived.Test.YtlcafjdinjdllaaDoorBaseP
import Derived.Test.YtlcafjdinjdllaaDoorTie
import Derived.Test.YtlcafjdinjdllaaDoorCards
import Derived.OpenShut
import Derived.LaidMore
import Derived.Lay
import Derived.SevenTiedAt
import Derived.Stop.Joined
import Derived.Stop.LaidErr
import Derived.ChangeVars
import Derived.ChangeStays
namespace Go.Proofs.YtlcafjdinjdllaaDoor
set_option linter.unusedSimpArgs false
set_option linter.unusedVariables false
open Go.ChangeShapes Go.WideShapes Go.ChangeAt Go.RowKit Go.Joins

theorem m1_val : vldB (⟨#[49, 49, 49, 48, 49]⟩ : ByteArray) = true ∧ valX (toL (⟨#[49, 49, 49, 48, 49]⟩ : ByteArray)) = -1 ∧ valY (toL (⟨#[49, 49, 49, 48, 49]⟩ : ByteArray)) = 0 := by decide
theorem zero_val : vldB (⟨#[48]⟩ : ByteArray) = true ∧ valX (toL (⟨#[48]⟩ : ByteArray)) = 0 ∧ valY (toL (⟨#[48]⟩ : ByteArray)) = 0 := by decide
theorem neg_cases (s : ByteArray) : timesV s ⟨#[49, 49, 49, 48, 49]⟩ = .tuple #[.string ⟨#[]⟩, .bool false] ∨ ∃ t : ByteArray, vldB s = true ∧ vldB t = true ∧ valX (toL t) = -valX (toL s) ∧ valY (toL t) = -valY (toL s) ∧ timesV s ⟨#[49, 49, 49, 48, 49]⟩ = .tuple #[.string t, .bool true] := by
  rcases times_cases s ⟨#[49, 49, 49, 48, 49]⟩ with h | ⟨t, h1, h2, h3, h4, h5, h6, -⟩
  · exact Or.inl h
  · obtain ⟨-, e1, e2⟩ := m1_val
    rw [e1, e2] at h4 h5
    exact Or.inr ⟨t, h1, h3, by omega, by omega, h6⟩
set_option maxRecDepth 100000 in
set_option maxHeartbeats 8000000 in
theorem lawNegate_c (a : Option Addr) (len cap : Nat) (w : World) (hc : len ≤ 1048576 → Code (.slice a len cap) w) (hT : Tab w) : Calls Tryd.prog 8 #[.slice a len cap] w fun e w' => e = .returned (.bool true) ∧ Below w.heap.size w w' := by
  have HT := Lib.hid hT
  have hpos := hT.1
  clear hT
  by_cases hl : 1048576 < len
  · go_enter Tryd.func8, Tryd.ntmps8
    go_wp2_with fail
    go_ret
    exact ⟨rfl, by (repeat' (first | assumption | exact Below.refl _ _ | apply Blw.alloc | apply Blw.drew | apply Blw.drewN | (refine Blw.after ?_ (by assumption)) | (refine Blw.set ?_ (by first | (dsimp only; omega) | (simp; done) | (simp; omega)) _)))⟩
  · have hc' := hc (by omega)
    clear hc
    go_enter Tryd.func8, Tryd.ntmps8
    go_wp2_with fail
    refine (drawDigitsNegate_c _ w hc').mono ?_
    rintro e W1 ⟨s, rfl, hs, hb1⟩
    clear hc'
    have HT1 := Lib.hid (HT.out.keep hpos hb1)
    rcases neg_cases s with H1 | ⟨o, hvs, hvo, ox, oy, H1⟩
    · go_wp2_with fail
      refine (iDigitsNegate_c s W1 HT1.out).mono ?_
      rintro e W2 ⟨rfl, hb2⟩
      rw [H1]
      go_wp2_with fail
      refine (sDigitsNegate_c s W2).mono ?_
      rintro e W3 ⟨rfl, hb3⟩
      rw [H1]
      have hB3 := Blw.after (Blw.after hb1 hb2) hb3
      clear H1
      go_wp2_with fail
      go_ret
      exact ⟨rfl, hB3⟩
    · have H2 := Lib.hid (add_to hvs hvo zero_val.1 (by rw [zero_val.2.1]; omega) (by rw [zero_val.2.2]; omega))
      have H3 : timesV o ⟨#[49, 49, 49, 48, 49]⟩ = .tuple #[.string ⟨#[]⟩, .bool false] ∨ timesV o ⟨#[49, 49, 49, 48, 49]⟩ = .tuple #[.string s, .bool true] := by
        rcases neg_cases o with h | ⟨u, _, hu, ux, uy, h⟩
        · exact Or.inl h
        · right; rw [h, text_unique hu hvs (by omega) (by omega)]
      clear hvs hvo ox oy
      rcases H3 with H3' | H3'
      all_goals
        have H3 := Lib.hid H3'
        clear H3'
        go_wp2_with fail
        refine (iDigitsNegate_c s W1 HT1.out).mono ?_
        rintro e W2 ⟨rfl, hb2⟩
        rw [H1]
        go_wp2_with fail
        refine (sDigitsNegate_c s W2).mono ?_
        rintro e W3 ⟨rfl, hb3⟩
        rw [H1]
        have hB3 := Blw.after (Blw.after hb1 hb2) hb3
        have HT3 := Lib.hid (HT.out.keep hpos hB3)
        go_wp2_with fail
        refine (iDigitsAdd_c s o W3 HT3.out).mono ?_
        rintro e W4 ⟨rfl, hb4⟩
        rw [H2.out]
        have hB4 := Blw.after hB3 hb4
        have HT4 := Lib.hid (HT.out.keep hpos hB4)
        go_wp2_with fail
        refine (iDigitsNegate_c o W4 HT4.out).mono ?_
        rintro e W5 ⟨rfl, hb5⟩
        rw [H3.out]
        have hB5 := Blw.after hB4 hb5
        go_wp2_with fail
        go_ret
        exact ⟨rfl, hB5⟩

namespace lawFnNegate
set_option maxRecDepth 100000 in
theorem lifted (os : Os) (started : os.Started) (H : Type) (enc : TypeId × Value → H) :
    ReturnsInHanded {} Tryd.checked os 8 .any (fun w args => (Rows.fnNegateSpec.pre enc Tryd.prog Tryd.f8 Rows.fnNegateRow.domain false w args ∧ laidMetH Tryd.prog Rows.fnNegateRow.laid w) ∧ sizedMet enc Tryd.prog Tryd.f8 (OpenSpec.ofChange Rows.fnNegateSpec) false w args)
      (Rows.fnNegateSpec.post enc Tryd.prog Tryd.f8 false true false false) := by
  refine returnsInHanded_of_change_and (C := Tryd.checked) (X := fun w _ => laidMetH Tryd.prog Rows.fnNegateRow.laid w) (fun _ _ _ hh h => h.of_heap hh) own started (by kernel_rfl) Tryd.func8
    (ChangeSpec.witness_shaped (enc := enc) (C := Tryd.checked) (os := os) (X := fun w _ => laidMetH Tryd.prog Rows.fnNegateRow.laid w) false (World.laidAll Tryd.prog os Rows.fnNegateRow.laid) #[.slice none 0 0] 8 (World.laidAll_os _ _ _)
      (World.shaped_of_ZipB (by kernel_rfl) (by kernel_rfl)) (by kernel_rfl) (by kernel_rfl) (by kernel_rfl)
      (by rw [MakeChecks.laidMetH_plain _ _ _ (by kernel_rfl)]; exact laidMet_laidAll _ (by kernel_rfl) (by kernel_rfl))) ?_
  intro W base args ds gs before hval0 hW hc0 _ hL _
  have hval : ∀ (j : Nat) t v, Tryd.f8.params[j]? = some t → args[j]? = some v → Value.okWide Tryd.prog W .any base t v := hval0
  have hW' := hW
  obtain ⟨p, q, hA0, hV, rfl, _, _⟩ := hW
  have hA : DataW.TrodAll enc Tryd.prog W 0 (fun _ => true) true Tryd.f8.params.toList args.toList ds p := hA0
  rw [Tryd.params8] at hA hval
  obtain ⟨v0, vs0, d0, ds0, p0, q0, hargs, rfl, rfl, h0, r0⟩ := trodAll_cons hA
  obtain ⟨rfl, rfl, rfl⟩ := trodAll_nil r0
  obtain rfl : args = #[v0] := by cases args; simp_all
  obtain ⟨gG, tG, csG, fuelG, dG, pG, rfl, hgG, htG, hvG, hdG, rfl⟩ := trodVars_one hV
  obtain ⟨a, len, cap, rfl⟩ := okWide_slice Tryd.underlying22 (hval 0 22 v0 rfl rfl)
  clear hA0 hval0
  simp only [List.append_nil] at hW'
  have hlt : ∀ x ∈ p0, x.block < W.heap.size := fun x hx => hW'.lt x (by simp [hx])
  have hltG : ∀ x ∈ pG, x.block < W.heap.size := fun x hx => hW'.lt x (by simp [hx])
  have hTab : Tab W := tab_second hL (fun _ => MakeChecks.laidMetH_plain _ _ _ (by kernel_rfl))
  refine (lawNegate_c a len cap W (code_of h0) hTab).mono fun e W' ⟨he, hg⟩ => ?_
  subst he
  have harg := Below.trod laidOut (by kernel_rfl) (of_decide_eq_true (by kernel_rfl)) h0 hg hlt
  refine ⟨_, rfl, _, _, _, [], p0, MemPlace.row ⟨gG, 0, none⟩ csG.size ++ pG, hW', ?_, ?_, ?_, hg.frame _, fun h => by cases h⟩
  · exact trodAll_cons_mk (shut_bool Tryd.underlying4 _) trodAll_mk0
  · exact trodAll_mk1 harg
  · exact vars_shut hgG htG hvG hdG hltG hTab hg

theorem holds : Rows.FnNegateSaid :=
  OpenClaim.holds_of_wide 8 Tryd.f8 rfl rfl rfl rfl rfl rfl rfl ⟨rfl, rfl, rfl, rfl, rfl⟩ rfl rfl rfl rfl rfl (by kernel_rfl) Tryd.func8 (by kernel_rfl)
    (of_decide_eq_true (by kernel_rfl)) (by unfold Func.isWrapper; first | (rw [if_pos (by decide +kernel)]; kernel_rfl) | (rw [if_neg (by decide +kernel)]; exact ⟨rfl, rfl⟩))
    (fun os started H enc _ => lifted os started H enc)
theorem proved : Rows.FnNegateCardSaid :=
  Claim7.holds_tied_plain_at .later [] [.data, .data, .pinned] true (true, "ae5a7e1e5273026bef1a235bdfcbe898f8817563e717396bf1d72361ce9333b6") false holds (fun _ h => by cases h) (by kernel_rfl) (fun _ h => by cases h) fnNegate_row_tie rfl ⟨rfl, rfl⟩ (by kernel_rfl) rfl
    (fun f fn hf hfn => by
      obtain rfl : f = 8 := Option.some.inj ((show Tryd.prog.funcNamed "loop.example/dragonnumbers/laws.FnNegate" = some 8 by kernel_rfl).symm.trans hf) |>.symm
      obtain rfl : fn = Tryd.f8 := (Option.some.inj (Tryd.func8.symm.trans hfn)).symm
      exact ⟨by kernel_rfl, fun j t ht => by
        rw [Tryd.params8] at ht
        have hm : t ∈ [22] := by simpa using Array.mem_of_getElem? ht
        have hall : ([22].all fun u => !Tryd.prog.wantsStandIn u) = true := by kernel_rfl
        exact (show Tryd.prog.wantsStandIn t = false by simpa using List.all_eq_true.1 hall t hm)⟩)
    (by kernel_rfl)
end lawFnNegate
end Go.Proofs.YtlcafjdinjdllaaDoor

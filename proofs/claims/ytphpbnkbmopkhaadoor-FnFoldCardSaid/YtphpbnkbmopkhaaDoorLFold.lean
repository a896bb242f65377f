/- FnFold: whatever the code draws, the creases of a word make the word again; the listed variables are as the library's text lays them. -/
import Derived.Test.YtphpbnkbmopkhaaDoorDrawW
import Derived.Test.YtphpbnkbmopkhaaDoorWe
import Derived.Test.YtphpbnkbmopkhaaDoorWh
import Derived.Test.YtphpbnkbmopkhaaDoorBaseP
import Derived.Test.YtphpbnkbmopkhaaDoorTie
import Derived.Test.YtphpbnkbmopkhaaDoorCards
import Derived.OpenShut
import Derived.LaidMore
import Derived.Lay
import Derived.SevenTiedAt
import Derived.Stop.Joined
import Derived.Stop.LaidErr
import Derived.ChangeVars
import Derived.ChangeStays
namespace Go.Proofs.YtphpbnkbmopkhaaDoor
set_option linter.unusedSimpArgs false
set_option linter.unusedVariables false
open Go.ChangeShapes Go.WideShapes Go.ChangeAt Go.RowKit Go.Joins

theorem fold_cases (s : ByteArray) : foldV s = .tuple #[.string ⟨#[]⟩, .bool false] ∨ ∃ o : ByteArray, foldV s = .tuple #[.string o, .bool true] ∧ twV o = .tuple #[.string s, .bool true] := by
  rcases Bool.eq_false_or_eq_true (foldOk s) with h | h
  · right
    have h' := h
    unfold foldOk at h'
    rw [Bool.and_eq_true] at h'
    obtain ⟨hw, hs⟩ := h'
    obtain ⟨cs, hcs⟩ := Option.isSome_iff_exists.1 hs
    have ht := foldO_turns hcs
    refine ⟨bs cs, ?_, ?_⟩
    · rw [show foldV s = _ from strV_t h _]; unfold foldL; rw [hcs]; rfl
    · have hl := turnsL_len cs
      rw [ht, toL_len] at hl
      have hsz := wdB_len hw
      have h10 : cs.length ≤ 10 := by
        rcases Nat.lt_or_ge cs.length 11 with h | h
        · omega
        · exfalso
          have : 2 ^ 11 ≤ 2 ^ cs.length := Nat.pow_le_pow_right (by omega) h
          have e : (2 : Nat) ^ 11 = 2048 := by decide
          omega
      have hwc := turnsL_wd_of cs (by rw [ht]; exact wdB_all hw)
      have hv : wdB 10 (bs cs) = true := by rw [wdB_of (by rw [bsz]; exact h10)]; exact onlyW_good (by rw [toL_bs]; exact hwc)
      rw [twV_t hv, toL_bs, ht, bs_toL]
  · exact Or.inl (strV_f h _)
set_option maxHeartbeats 4000000 in
theorem lawFold_c (a : Option Addr) (len cap : Nat) (w : World) (hc : len ≤ 1048576 → Code (.slice a len cap) w) (hT : Tz w) : Calls Tryd.prog 5 #[.slice a len cap] w fun e w' => e = .returned (.bool true) ∧ Below w.heap.size w w' := by
  have HT := Lib.hid hT
  have h6 := hT.pos
  clear hT
  by_cases hl : 1048576 < len
  · go_enter Tryd.func5, Tryd.ntmps5
    go_wp2_with fail
    go_ret
    exact ⟨rfl, by (repeat' (first | assumption | exact Below.refl _ _ | apply Blw.alloc | apply Blw.drew | apply Blw.drewN | (refine Blw.after ?_ (by assumption)) | (refine Blw.set ?_ (by first | (dsimp only; omega) | (simp; done) | (simp; omega)) _)))⟩
  · have hc' := hc (by omega)
    clear hc
    go_enter Tryd.func5, Tryd.ntmps5
    go_wp2_with fail
    refine (drawTurnFold_c _ w hc').mono ?_
    rintro e W1 ⟨s, rfl, ht, hb1⟩
    clear hc'
    have HT1 := Lib.hid (HT.out.keep h6 hb1)
    rcases fold_cases s with H1 | ⟨o, H1, H2⟩
    · go_wp2_with fail
      refine (iTurnFold_c s W1 HT1.out).mono ?_
      rintro e W2 ⟨rfl, hb2⟩
      rw [H1]
      go_wp2_with fail
      refine (sTurnFold_c s W2).mono ?_
      rintro e W3 ⟨rfl, hb3⟩
      rw [H1]
      have hB3 := Blw.after (Blw.after hb1 hb2) hb3
      clear H1
      go_wp2_with fail
      go_ret
      exact ⟨rfl, hB3⟩
    · have HH2 := Lib.hid H2
      clear H2
      go_wp2_with fail
      refine (iTurnFold_c s W1 HT1.out).mono ?_
      rintro e W2 ⟨rfl, hb2⟩
      rw [H1]
      go_wp2_with fail
      refine (sTurnFold_c s W2).mono ?_
      rintro e W3 ⟨rfl, hb3⟩
      rw [H1]
      have hB3 := Blw.after (Blw.after hb1 hb2) hb3
      have HT3 := Lib.hid (HT.out.keep h6 hB3)
      clear H1
      go_wp2_with fail
      refine (iTurnWord_c o W3 HT3.out).mono ?_
      rintro e W4 ⟨rfl, hb4⟩
      rw [HH2.out]
      have hB4 := Blw.after hB3 hb4
      go_wp2_with fail
      go_ret
      exact ⟨rfl, hB4⟩

namespace lawFnFold
set_option maxRecDepth 100000 in
theorem lifted (os : Os) (started : os.Started) (H : Type) (enc : TypeId × Value → H) :
    ReturnsInHanded {} Tryd.checked os 5 .any (fun w args => (Rows.fnFoldSpec.pre enc Tryd.prog Tryd.f5 Rows.fnFoldRow.domain false w args ∧ laidMetH Tryd.prog Rows.fnFoldRow.laid w) ∧ sizedMet enc Tryd.prog Tryd.f5 (OpenSpec.ofChange Rows.fnFoldSpec) false w args)
      (Rows.fnFoldSpec.post enc Tryd.prog Tryd.f5 false true false false) := by
  refine returnsInHanded_of_change_and (C := Tryd.checked) (X := fun w _ => laidMetH Tryd.prog Rows.fnFoldRow.laid w) (fun _ _ _ hh h => h.of_heap hh) own started (by kernel_rfl) Tryd.func5
    (ChangeSpec.witness_shaped (enc := enc) (C := Tryd.checked) (os := os) (X := fun w _ => laidMetH Tryd.prog Rows.fnFoldRow.laid w) false (World.laidAll Tryd.prog os Rows.fnFoldRow.laid) #[.slice none 0 0] 8 (World.laidAll_os _ _ _)
      (World.shaped_of_ZipB (by kernel_rfl) (by kernel_rfl)) (by kernel_rfl) (by kernel_rfl) (by kernel_rfl)
      (by rw [MakeChecks.laidMetH_plain _ _ _ (by kernel_rfl)]; exact laidMet_laidAll _ (by kernel_rfl) (by kernel_rfl))) ?_
  intro W base args ds gs before hval0 hW hc0 _ hL _
  have hval : ∀ (j : Nat) t v, Tryd.f5.params[j]? = some t → args[j]? = some v → Value.okWide Tryd.prog W .any base t v := hval0
  have hW' := hW
  obtain ⟨p, q, hA0, hV, rfl, _, _⟩ := hW
  have hA : DataW.TrodAll enc Tryd.prog W 0 (fun _ => true) true Tryd.f5.params.toList args.toList ds p := hA0
  rw [Tryd.params5] at hA hval
  obtain ⟨v0, vs0, d0, ds0, p0, q0, hargs, rfl, rfl, h0, r0⟩ := trodAll_cons hA
  obtain ⟨rfl, rfl, rfl⟩ := trodAll_nil r0
  obtain rfl : args = #[v0] := by cases args; simp_all
  obtain ⟨rfl, rfl⟩ := trodVars_none hV
  obtain ⟨a, len, cap, rfl⟩ := okWide_slice Tryd.underlying22 (hval 0 22 v0 rfl rfl)
  clear hA0 hval0
  simp only [List.append_nil] at hW'
  have hlt : ∀ x ∈ p0, x.block < W.heap.size := fun x hx => by simpa using hW'.lt x hx
  refine (lawFold_c a len cap W (code_of h0) (tz_second hL (fun _ => MakeChecks.laidMetH_plain _ _ _ (by kernel_rfl)))).mono fun e W' ⟨he, hg⟩ => ?_
  subst he
  have harg := Below.trod laidOut (by kernel_rfl) (of_decide_eq_true (by kernel_rfl)) h0 hg hlt
  refine ⟨_, rfl, _, _, _, [], p0, [], hW', ?_, ?_, ?_, hg.frame _, fun h => by cases h⟩
  · exact trodAll_cons_mk (shut_bool Tryd.underlying4 _) trodAll_mk0
  · exact trodAll_mk1 harg
  · rfl

theorem holds : Rows.FnFoldSaid :=
  OpenClaim.holds_of_wide 5 Tryd.f5 rfl rfl rfl rfl rfl rfl rfl ⟨rfl, rfl, rfl, rfl, rfl⟩ rfl rfl rfl rfl rfl (by kernel_rfl) Tryd.func5 (by kernel_rfl)
    (of_decide_eq_true (by kernel_rfl)) (by unfold Func.isWrapper; first | (rw [if_pos (by decide +kernel)]; kernel_rfl) | (rw [if_neg (by decide +kernel)]; exact ⟨rfl, rfl⟩))
    (fun os started H enc _ => lifted os started H enc)
theorem proved : Rows.FnFoldCardSaid :=
  Claim7.holds_tied_plain_at .later [] [.data, .data] true (true, "427eed556ffa03790ee2b8f217807cb1020bb7e8e847cbadd087ffee5fba2106") false holds (fun _ h => by cases h) (by kernel_rfl) (fun _ h => by cases h) fnFold_row_tie rfl ⟨rfl, rfl⟩ (by kernel_rfl) rfl
    (fun f fn hf hfn => by
      obtain rfl : f = 5 := Option.some.inj ((show Tryd.prog.funcNamed "loop.example/dragonnumbers/laws.FnFold" = some 5 by kernel_rfl).symm.trans hf) |>.symm
      obtain rfl : fn = Tryd.f5 := (Option.some.inj (Tryd.func5.symm.trans hfn)).symm
      exact ⟨by kernel_rfl, fun j t ht => by
        rw [Tryd.params5] at ht
        have hm : t ∈ [22] := by simpa using Array.mem_of_getElem? ht
        have hall : ([22].all fun u => !Tryd.prog.wantsStandIn u) = true := by kernel_rfl
        exact (show Tryd.prog.wantsStandIn t = false by simpa using List.all_eq_true.1 hall t hm)⟩)
    (by kernel_rfl)
end lawFnFold
end Go.Proofs.YtphpbnkbmopkhaaDoor

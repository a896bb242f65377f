/- FnExactDigitsNext: for every text, the program's next expansion and its flag are the model's; the listed variables are as the library's text lays them. -/
import Derived.Test.YtlcafjdinjdllacDoorTwo
import Derived.Test.YtlcafjdinjdllacDoorBaseD
namespace Go.Proofs.YtlcafjdinjdllacDoor
set_option linter.unusedSimpArgs false
set_option linter.unusedVariables false
open Go.ChangeShapes Go.WideShapes Go.ChangeAt Go.RowKit Go.Joins

theorem Next_same' {s : ByteArray} {l m : List UInt8} (h1 : vldB s = true → Good l (idxF (toL s) + 1)) (h2 : vldB s = false → l = []) (k1 : vldB s = true → Good m (idxF (toL s) + 1)) (k2 : vldB s = false → m = []) : m = l := (Next_same h1 h2 k1 k2).symm
theorem lawDigitsNext_c (s : ByteArray) (w : World) (hT : Two w) : Calls Tryd.prog 3 #[.string s] w fun e w' => e = .returned (.bool true) ∧ Below w.heap.size w w' := by
  have HT := Lib.hid hT
  have h6 := hT.pos
  clear hT
  by_cases hl : 1048576 < s.size
  · go_enter Tryd.func3, Tryd.ntmps3
    go_wp2_with fail
    go_ret
    exact ⟨rfl, by (repeat' (first | assumption | exact Below.refl _ _ | apply Blw.alloc | apply Blw.drew | apply Blw.drewN | (refine Blw.after ?_ (by assumption)) | (refine Blw.set ?_ (by first | (dsimp only; omega) | (simp; done) | (simp; omega)) _)))⟩
  · go_enter Tryd.func3, Tryd.ntmps3
    go_wp2_with fail
    refine (sDigitsNext_c _ _).mono ?_
    rintro e w1 ⟨l, rfl, g1, g0, hb1⟩
    have G1 := Lib.hid g1
    have G0 := Lib.hid g0
    clear g1 g0
    have HT1 := Lib.hid (HT.out.keep h6 hb1)
    have h61 : 2 < w1.heap.size := Nat.lt_of_lt_of_le h6 hb1.size
    obtain ⟨t, ok, hR⟩ : ∃ t ok, resD l = .tuple #[.string t, .bool ok] := ⟨_, _, rfl⟩
    have HR := Lib.hid hR
    rw [hR]
    clear hR
    go_wp2_with fail
    refine (iDigitsNext_c _ _ HT1.out h61).mono ?_
    rintro e w2 ⟨m, rfl, k1, k0, hb2⟩
    obtain rfl := Next_same' G1.out G0.out k1 k0
    have hB2 := hb1.trans (hb2.mono hb1.size)
    rw [HR.out]
    go_wp2_with fail
    go_ret
    exact ⟨rfl, hB2⟩

namespace lawFnExactDigitsNext
set_option maxRecDepth 100000 in
theorem lifted (os : Os) (started : os.Started) (H : Type) (enc : TypeId × Value → H) :
    ReturnsInHanded {} Tryd.checked os 3 .any (fun w args => (Rows.fnExactDigitsNextSpec.pre enc Tryd.prog Tryd.f3 Rows.fnExactDigitsNextRow.domain false w args ∧ laidMetH Tryd.prog Rows.fnExactDigitsNextRow.laid w) ∧ sizedMet enc Tryd.prog Tryd.f3 (OpenSpec.ofChange Rows.fnExactDigitsNextSpec) false w args)
      (Rows.fnExactDigitsNextSpec.post enc Tryd.prog Tryd.f3 false true false false) := by
  refine returnsInHanded_of_change_and (C := Tryd.checked) (X := fun w _ => laidMetH Tryd.prog Rows.fnExactDigitsNextRow.laid w) (fun _ _ _ hh h => h.of_heap hh) own started (by kernel_rfl) Tryd.func3
    (ChangeSpec.witness_shaped (enc := enc) (C := Tryd.checked) (os := os) (X := fun w _ => laidMetH Tryd.prog Rows.fnExactDigitsNextRow.laid w) false (World.laidAll Tryd.prog os Rows.fnExactDigitsNextRow.laid) #[.string ⟨#[]⟩] 8 (World.laidAll_os _ _ _)
      (World.shaped_of_ZipB (by kernel_rfl) (by kernel_rfl)) (by kernel_rfl) (by kernel_rfl) (by kernel_rfl)
      (by rw [MakeChecks.laidMetH_plain _ _ _ (by kernel_rfl)]; exact laidMet_laidAll _ (by kernel_rfl) (by kernel_rfl))) ?_
  intro W base args ds gs before hval0 hW hc0 _ hL _
  have hval : ∀ (j : Nat) t v, Tryd.f3.params[j]? = some t → args[j]? = some v → Value.okWide Tryd.prog W .any base t v := hval0
  have hW' := hW
  obtain ⟨p, q, hA0, hV, rfl, _, _⟩ := hW
  have hA : DataW.TrodAll enc Tryd.prog W 0 (fun _ => true) true Tryd.f3.params.toList args.toList ds p := hA0
  rw [Tryd.params3] at hA hval
  obtain ⟨v0, vs0, d0, ds0, p0, q0, hargs, rfl, rfl, h0, r0⟩ := trodAll_cons hA
  obtain ⟨rfl, rfl, rfl⟩ := trodAll_nil r0
  obtain rfl : args = #[v0] := by cases args; simp_all
  obtain ⟨rfl, rfl⟩ := trodVars_none hV
  obtain ⟨a0, rfl, rfl, rfl, wa0⟩ := Go.ChangeMaps.open_string Tryd.underlying9 (hval 0 9 v0 rfl rfl) h0
  clear hA0 hval0
  simp only [List.append_nil] at hW'
  refine (lawDigitsNext_c a0 W (two_second hL (fun _ => MakeChecks.laidMetH_plain _ _ _ (by kernel_rfl)))).mono fun e W' ⟨he, hg⟩ => ?_
  subst he
  refine ⟨_, rfl, _, _, _, [], [], [], hW', ?_, ?_, ?_, hg.frame _, fun h => by cases h⟩
  · exact trodAll_cons_mk (shut_bool Tryd.underlying4 _) trodAll_mk0
  · exact (trodAll_cons_mk (Go.ChangeMaps.shut_string Tryd.underlying9 wa0) trodAll_mk0)
  · rfl

theorem holds : Rows.FnExactDigitsNextSaid :=
  OpenClaim.holds_of_wide 3 Tryd.f3 rfl rfl rfl rfl rfl rfl rfl ⟨rfl, rfl, rfl, rfl, rfl⟩ rfl rfl rfl rfl rfl (by kernel_rfl) Tryd.func3 (by kernel_rfl)
    (of_decide_eq_true (by kernel_rfl)) (by unfold Func.isWrapper; first | (rw [if_pos (by decide +kernel)]; kernel_rfl) | (rw [if_neg (by decide +kernel)]; exact ⟨rfl, rfl⟩))
    (fun os started H enc _ => lifted os started H enc)
theorem proved : Rows.FnExactDigitsNextCardSaid :=
  Claim7.holds_tied_plain_at .later [] [.data, .data, .data] true (true, "867ee9a1b7d5d8f124765ce55ec17edb89de9f3f1cd5864c0ca5c731a5c1c406") false holds (fun _ h => by cases h) (by kernel_rfl) (fun _ h => by cases h) fnExactDigitsNext_row_tie rfl ⟨rfl, rfl⟩ (by kernel_rfl) rfl
    (fun f fn hf hfn => by
      obtain rfl : f = 3 := Option.some.inj ((show Tryd.prog.funcNamed "loop.example/dragonnumbers/laws.FnExactDigitsNext" = some 3 by kernel_rfl).symm.trans hf) |>.symm
      obtain rfl : fn = Tryd.f3 := (Option.some.inj (Tryd.func3.symm.trans hfn)).symm
      exact ⟨by kernel_rfl, fun j t ht => by
        rw [Tryd.params3] at ht
        have hm : t ∈ [9] := by simpa using Array.mem_of_getElem? ht
        have hall : ([9].all fun u => !Tryd.prog.wantsStandIn u) = true := by kernel_rfl
        exact (show Tryd.prog.wantsStandIn t = false by simpa using List.all_eq_true.1 hall t hm)⟩)
    (by kernel_rfl)
end lawFnExactDigitsNext
end Go.Proofs.YtlcafjdinjdllacDoor

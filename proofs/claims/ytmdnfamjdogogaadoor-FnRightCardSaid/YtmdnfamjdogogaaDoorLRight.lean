/- FnRight: whatever the code draws, both sides agree, and a right entry is that made of its parts; the listed variables are as the library's text lays them. -/
import Derived.Test.YtmdnfamjdogogaaDoorZr
import Derived.Test.YtmdnfamjdogogaaDoorZs
import Derived.Test.YtmdnfamjdogogaaDoorZk
import Derived.Test.YtmdnfamjdogogaaDoorBaseP
import Derived.Test.YtmdnfamjdogogaaDoorTie
import Derived.Test.YtmdnfamjdogogaaDoorCards
import Derived.OpenShut
import Derived.LaidMore
import Derived.Lay
import Derived.SevenTiedAt
import Derived.Stop.Joined
import Derived.Stop.LaidErr
import Derived.ChangeVars
import Derived.ChangeStays
namespace Go.Proofs.YtmdnfamjdogogaaDoor
set_option linter.unusedSimpArgs false
set_option linter.unusedVariables false
open Go.ChangeShapes Go.WideShapes Go.ChangeAt Go.RowKit Go.Joins

def OneE (w : World) (e : Ending) (w' : World) : Prop :=
  ∃ (s : ByteArray) (p : Nat × Nat) (n : Nat), e = .returned (encE s p n) ∧ EnIn s p n ∧ Below w.heap.size w w'
set_option maxRecDepth 100000 in
set_option maxHeartbeats 4000000 in
theorem drawEntryRight_c (v : Value) (w : World) (h : Code v w) : Calls Tryd.prog 16 #[v] w (OneE w) := by
  have fst := fun W a x y m => run_store Tryd.prog W a (.complex .f32 x y) m rfl
  go_enter Tryd.func16, Tryd.ntmps16
  go_wp2_with fail
  generalize hW : World.alloc _ _ = W0
  have N0 := Lib.hid (show BxE w.heap.size ⟨#[]⟩ (0, 0) 0 W0 by rw [← hW]; exact BxE.new _ _ _ _ _)
  have HB0 := Lib.hid (show Below w.heap.size w W0 by rw [← hW]; (first | ((repeat' with_reducible first | assumption | exact Below.refl _ _ | apply Blw.alloc | apply Blw.drew | apply Blw.drewN | (refine Blw.after ?_ (by assumption)) | (refine Blw.set ?_ (by first | (dsimp only; omega) | (simp; omega)) _)); done) | (repeat' (first | assumption | exact Below.refl _ _ | apply Blw.alloc | apply Blw.drew | apply Blw.drewN | (refine Blw.after ?_ (by assumption)) | (refine Blw.set ?_ (by first | (dsimp only; omega) | (simp; done) | (simp; omega)) _)))))
  have h0 : Code v W0 := h.keep (by rw [← hW]; exact (Below.refl _ _).alloc (Nat.le_refl _) _)
  clear hW h
  have z0 := N0.out.1
  go_wp2_with fail
  refine (l6Open_c v W0 h0).mono ?_
  rintro e W1 ⟨sv, rfl, hr, hs, hz, hb⟩
  go_wp2_with fail
  refine (l92Entry_c W0.heap.size sv 0 W1 hs hr ⟨by omega, by omega⟩).mono ?_
  rintro e W2 ⟨v', p1, ⟨s, p, n, rfl, e1, e2, e3⟩, rfl, q0, q1, h1, hs1, m1⟩
  have N2 := Lib.hid ((N0.out.keep hb).moved m1 (by omega))
  have HB2 := Lib.hid (m1.2.2.2 w (Blw.after HB0.out hb) (by omega))
  have hB : Below w.heap.size w W2 := HB2.out
  have HE := Lib.hid (show EnIn s p n from ⟨e1, e2, e3⟩)
  clear e1 e2 e3 h0 hr hs hb N0 h1 hs1 m1
  obtain ⟨z0, d0, d1, d2, f0, f1, f2⟩ := N2.out
  go_wp2_with fail
  exact bodyPost_ret (v := encE s p n) (by simp [results, Tryd.results16, go_sem, *]) rfl ⟨s, p, n, rfl, HE.out, by (first | ((repeat' with_reducible first | assumption | exact Below.refl _ _ | apply Blw.alloc | apply Blw.drew | apply Blw.drewN | (refine Blw.after ?_ (by assumption)) | (refine Blw.set ?_ (by first | (dsimp only; omega) | (simp; omega)) _)); done) | (repeat' (first | assumption | exact Below.refl _ _ | apply Blw.alloc | apply Blw.drew | apply Blw.drewN | (refine Blw.after ?_ (by assumption)) | (refine Blw.set ?_ (by first | (dsimp only; omega) | (simp; done) | (simp; omega)) _))))⟩
set_option maxRecDepth 100000 in
set_option maxHeartbeats 8000000 in
theorem lawRight_c (a : Option Addr) (len cap : Nat) (w : World) (hc : len ≤ 1048576 → Code (.slice a len cap) w) (hT : Tz w) : Calls Tryd.prog 6 #[.slice a len cap] w fun e w' => e = .returned (.bool true) ∧ Below w.heap.size w w' := by
  have h6 := hT.pos
  have HT := Lib.hid hT
  clear hT
  by_cases hl : 1048576 < len
  · go_enter Tryd.func6, Tryd.ntmps6
    go_wp2_with fail
    go_ret
    exact ⟨rfl, by (first | ((repeat' with_reducible first | assumption | exact Below.refl _ _ | apply Blw.alloc | apply Blw.drew | apply Blw.drewN | (refine Blw.after ?_ (by assumption)) | (refine Blw.set ?_ (by first | (dsimp only; omega) | (simp; omega)) _)); done) | (repeat' (first | assumption | exact Below.refl _ _ | apply Blw.alloc | apply Blw.drew | apply Blw.drewN | (refine Blw.after ?_ (by assumption)) | (refine Blw.set ?_ (by first | (dsimp only; omega) | (simp; done) | (simp; omega)) _))))⟩
  · have hc' := hc (by omega)
    clear hc
    have fst := fun W a x y m => run_store Tryd.prog W a (.complex .f32 x y) m rfl
    go_enter Tryd.func6, Tryd.ntmps6
    go_wp2_with fail
    refine (drawEntryRight_c _ w hc').mono ?_
    rintro e W1 ⟨s, p, n, rfl, hE, hb1⟩
    clear hc'
    have HT1 := Lib.hid (HT.out.keep h6 hb1)
    have HB1 := Lib.hid hb1
    have HE := Lib.hid hE
    clear hb1 hE
    go_upto_region 4 with fail
    generalize hW : World.alloc _ _ = W2
    have hb2 := (Below.refl W1.heap.size W1).alloc (Nat.le_refl _) (.cells #[.string s, encW p, .int .u32 (n : Nat)] 33)
    have hp1 := HT1.out.pos
    have N2 := Lib.hid (show BxE W1.heap.size s p n W2 by rw [← hW]; exact BxE.new _ _ _ _ _)
    have HT2 := Lib.hid (show Tz W2 by rw [← hW]; exact HT1.out.keep hp1 hb2)
    have HB2 := Lib.hid (show Below w.heap.size w W2 by rw [← hW]; exact Blw.alloc HB1.out _)
    clear hW hb2 hp1 HT1 HB1 HT
    obtain ⟨_, d0, d1, d2, _⟩ := N2.out
    go_wp2_with fail
    refine (iEntryRight_c s p n W2 HE.out.2.1.w HT2.out).mono ?_
    rintro e W3 ⟨rfl, hb3⟩
    have hp2 := HT2.out.pos
    have N3 := Lib.hid (N2.out.keep hb3)
    have HT3 := Lib.hid (HT2.out.keep hp2 hb3)
    have HB3 := Lib.hid (Blw.after HB2.out hb3)
    clear d0 d1 d2 hb3 hp2 N2 HT2 HB2
    obtain ⟨_, d0, d1, d2, _⟩ := N3.out
    go_wp2_with fail
    refine (sEntryRight_c s p n W3 HE.out.2.1.w).mono ?_
    rintro e W4 ⟨rfl, hb4⟩
    have hp3 := HT3.out.pos
    have N4 := Lib.hid (N3.out.keep hb4)
    have HT4 := Lib.hid (HT3.out.keep hp3 hb4)
    have HB4 := Lib.hid (Blw.after HB3.out hb4)
    clear d0 d1 d2 hb4 hp3 N3 HT3 HB3
    rcases Bool.eq_false_or_eq_true (rtE s p n) with hr | hr
    · obtain ⟨hok, hsum⟩ := rtE_iff hr
      have HV := Lib.hid (emV_t hok)
      rw [hsum] at HV
      rw [hr]
      clear hr hok hsum
      obtain ⟨_, d0, d1, d2, _⟩ := N4.out
      go_wp2_with fail
      refine (iEntryMake_c s p W4 HE.out.2.1.w HT4.out).mono ?_
      rintro e W5 ⟨rfl, hb5⟩
      have N5 := Lib.hid (N4.out.keep hb5)
      have HB5 := Lib.hid (Blw.after HB4.out hb5)
      rw [HV.out]
      clear d0 d1 d2 hb5 N4 HB4 HT4 HV
      go_upto_region 9 with fail
      generalize hW : World.alloc _ _ = W6
      have hb6 := (Below.refl W5.heap.size W5).alloc (Nat.le_refl _) (.cells #[.string s, encW p, .int .u32 (n : Nat)] 33)
      have N6 := Lib.hid (show BxE W1.heap.size s p n W6 by rw [← hW]; exact N5.out.keep hb6)
      have M6 := Lib.hid (show BxE W5.heap.size s p n W6 by rw [← hW]; exact BxE.new _ _ _ _ _)
      have HB6 := Lib.hid (show Below w.heap.size w W6 by rw [← hW]; exact Blw.alloc HB5.out _)
      clear hW hb6 N5 HB5
      obtain ⟨_, d0, d1, d2, _⟩ := N6.out
      obtain ⟨_, e0, e1, e2, _⟩ := M6.out
      go_wp2_with fail
      refine (sameEntry_c s p n W6 HE.out.2.1).mono ?_
      rintro e W7 ⟨rfl, hb7⟩
      have HB7 := Lib.hid (Blw.after HB6.out hb7)
      clear d0 d1 d2 e0 e1 e2 hb7 N6 M6 HB6
      go_wp2_with fail
      go_ret
      exact ⟨rfl, HB7.out⟩
    · rw [hr]
      clear hr
      go_wp2_with fail
      go_ret
      exact ⟨rfl, HB4.out⟩
namespace lawFnRight
set_option maxRecDepth 100000 in
theorem lifted (os : Os) (started : os.Started) (H : Type) (enc : TypeId × Value → H) :
    ReturnsInHanded {} Tryd.checked os 6 .any (fun w args => (Rows.fnRightSpec.pre enc Tryd.prog Tryd.f6 Rows.fnRightRow.domain false w args ∧ laidMetH Tryd.prog Rows.fnRightRow.laid w) ∧ sizedMet enc Tryd.prog Tryd.f6 (OpenSpec.ofChange Rows.fnRightSpec) false w args)
      (Rows.fnRightSpec.post enc Tryd.prog Tryd.f6 false true false false) := by
  refine returnsInHanded_of_change_and (C := Tryd.checked) (X := fun w _ => laidMetH Tryd.prog Rows.fnRightRow.laid w) (fun _ _ _ hh h => h.of_heap hh) own started (by kernel_rfl) Tryd.func6
    (ChangeSpec.witness_shaped (enc := enc) (C := Tryd.checked) (os := os) (X := fun w _ => laidMetH Tryd.prog Rows.fnRightRow.laid w) false (World.laidAll Tryd.prog os Rows.fnRightRow.laid) #[.slice none 0 0] 8 (World.laidAll_os _ _ _)
      (World.shaped_of_ZipB (by kernel_rfl) (by kernel_rfl)) (by kernel_rfl) (by kernel_rfl) (by kernel_rfl)
      (by rw [MakeChecks.laidMetH_plain _ _ _ (by kernel_rfl)]; exact laidMet_laidAll _ (by kernel_rfl) (by kernel_rfl))) ?_
  intro W base args ds gs before hval0 hW hc0 _ hL _
  have hval : ∀ (j : Nat) t v, Tryd.f6.params[j]? = some t → args[j]? = some v → Value.okWide Tryd.prog W .any base t v := hval0
  have hW' := hW
  obtain ⟨p, q, hA0, hV, rfl, _, _⟩ := hW
  have hA : DataW.TrodAll enc Tryd.prog W 0 (fun _ => true) true Tryd.f6.params.toList args.toList ds p := hA0
  rw [Tryd.params6] at hA hval
  obtain ⟨v0, vs0, d0, ds0, p0, q0, hargs, rfl, rfl, h0, r0⟩ := trodAll_cons hA
  obtain ⟨rfl, rfl, rfl⟩ := trodAll_nil r0
  obtain rfl : args = #[v0] := by cases args; simp_all
  obtain ⟨rfl, rfl⟩ := trodVars_none hV
  obtain ⟨a, len, cap, rfl⟩ := okWide_slice Tryd.underlying25 (hval 0 25 v0 rfl rfl)
  clear hA0 hval0
  simp only [List.append_nil] at hW'
  have hlt : ∀ x ∈ p0, x.block < W.heap.size := fun x hx => by simpa using hW'.lt x hx
  refine (lawRight_c a len cap W (code_of h0) (tz_second hL (fun _ => MakeChecks.laidMetH_plain _ _ _ (by kernel_rfl)))).mono fun e W' ⟨he, hg⟩ => ?_
  subst he
  have harg := Below.trod laidOut (by kernel_rfl) (of_decide_eq_true (by kernel_rfl)) h0 hg hlt
  refine ⟨_, rfl, _, _, _, [], p0, [], hW', ?_, ?_, ?_, hg.frame _, fun h => by cases h⟩
  · exact trodAll_cons_mk (shut_bool Tryd.underlying4 _) trodAll_mk0
  · exact trodAll_mk1 harg
  · rfl

theorem holds : Rows.FnRightSaid :=
  OpenClaim.holds_of_wide 6 Tryd.f6 rfl rfl rfl rfl rfl rfl rfl ⟨rfl, rfl, rfl, rfl, rfl⟩ rfl rfl rfl rfl rfl (by kernel_rfl) Tryd.func6 (by kernel_rfl)
    (of_decide_eq_true (by kernel_rfl)) (by unfold Func.isWrapper; first | (rw [if_pos (by decide +kernel)]; kernel_rfl) | (rw [if_neg (by decide +kernel)]; exact ⟨rfl, rfl⟩))
    (fun os started H enc _ => lifted os started H enc)
theorem proved : Rows.FnRightCardSaid :=
  Claim7.holds_tied_plain_at .later [] [.data, .data] true (true, "37a7ac331116b5fe4b5544570967ab0f56799b0966c5fb0f7d1e3df14251ea73") false holds (fun _ h => by cases h) (by kernel_rfl) (fun _ h => by cases h) fnRight_row_tie rfl ⟨rfl, rfl⟩ (by kernel_rfl) rfl
    (fun f fn hf hfn => by
      obtain rfl : f = 6 := Option.some.inj ((show Tryd.prog.funcNamed "loop.example/dragonnumbers/laws.FnRight" = some 6 by kernel_rfl).symm.trans hf) |>.symm
      obtain rfl : fn = Tryd.f6 := (Option.some.inj (Tryd.func6.symm.trans hfn)).symm
      exact ⟨by kernel_rfl, fun j t ht => by
        rw [Tryd.params6] at ht
        have hm : t ∈ [25] := by simpa using Array.mem_of_getElem? ht
        have hall : ([25].all fun u => !Tryd.prog.wantsStandIn u) = true := by kernel_rfl
        exact (show Tryd.prog.wantsStandIn t = false by simpa using List.all_eq_true.1 hall t hm)⟩)
    (by kernel_rfl)
end lawFnRight
end Go.Proofs.YtmdnfamjdogogaaDoor

/- FnEntry: whatever the code draws, both sides make the same entry, which is right, has the parts it is made of, and with another checksum is not right; the listed variables are as the library's text lays them. -/
import Derived.Test.YtmdnfamjdogogaaDoorZr
import Derived.Test.YtmdnfamjdogogaaDoorZs
import Derived.Test.YtmdnfamjdogogaaDoorZk
import Derived.Test.YtmdnfamjdogogaaDoorBaseP
import Derived.Test.YtmdnfamjdogogaaDoorTie
import Derived.Test.YtmdnfamjdogogaaDoorCards
import Derived.OpenShut
import Derived.LaidMore
import Derived.Lay
import Derived.SevenTiedAt
import Derived.Stop.Joined
import Derived.Stop.LaidErr
import Derived.ChangeVars
import Derived.ChangeStays
namespace Go.Proofs.YtmdnfamjdogogaaDoor
set_option linter.unusedSimpArgs false
set_option linter.unusedVariables false
open Go.ChangeShapes Go.WideShapes Go.ChangeAt Go.RowKit Go.Joins

/-- what a draw of creases and a start leaves -/
def CrSt (w : World) (e : Ending) (w' : World) : Prop :=
  ∃ (s : ByteArray) (p : Nat × Nat), e = .returned (.tuple #[.string s, encW p]) ∧ s.size ≤ 6 ∧ Nn2 p ∧ Below w.heap.size w w'
set_option maxRecDepth 100000 in
set_option maxHeartbeats 4000000 in
theorem drawEntryMake_c (v : Value) (w : World) (h : Code v w) : Calls Tryd.prog 10 #[v] w (CrSt w) := by
  go_enter Tryd.func10, Tryd.ntmps10
  go_wp2_with fail
  refine (l6Open_c v w h).mono ?_
  rintro e W1 ⟨sv, rfl, hr, hs, hz, hb⟩
  go_wp2_with fail
  refine (l92Word_s w.heap.size sv 0 5 W1 hs hr ⟨by omega, by omega⟩ (by omega)).mono ?_
  rintro e W2 ⟨v', p1, ⟨t, rfl, ht⟩, rfl, q0, q1, h1, hs1, m1⟩
  go_wp2_with fail
  refine (l92Start_c w.heap.size sv p1 W2 hs1 h1 ⟨by omega, by omega⟩).mono ?_
  rintro e W3 ⟨v, p2, ⟨st, rfl, hst⟩, rfl, r0, r1, h2, hs2, m2⟩
  have FIN := Lib.hid (show CrSt w (.returned (.tuple #[.string t, encW st])) W3 from ⟨t, st, rfl, by omega, hst, (m1.trans m2).2.2.2 w hb (Nat.le_refl _)⟩)
  go_wp2_with fail
  go_ret2
  exact FIN.out
set_option maxRecDepth 100000 in
set_option maxHeartbeats 8000000 in
theorem lawEntry_c (a : Option Addr) (len cap : Nat) (w : World) (hc : len ≤ 1048576 → Code (.slice a len cap) w) (hT : Tz w) : Calls Tryd.prog 5 #[.slice a len cap] w fun e w' => e = .returned (.bool true) ∧ Below w.heap.size w w' := by
  have h6 := hT.pos
  have HT := Lib.hid hT
  clear hT
  by_cases hl : 1048576 < len
  · go_enter Tryd.func5, Tryd.ntmps5
    go_wp2_with fail
    go_ret
    exact ⟨rfl, by (first | ((repeat' with_reducible first | assumption | exact Below.refl _ _ | apply Blw.alloc | apply Blw.drew | apply Blw.drewN | (refine Blw.after ?_ (by assumption)) | (refine Blw.set ?_ (by first | (dsimp only; omega) | (simp; omega)) _)); done) | (repeat' (first | assumption | exact Below.refl _ _ | apply Blw.alloc | apply Blw.drew | apply Blw.drewN | (refine Blw.after ?_ (by assumption)) | (refine Blw.set ?_ (by first | (dsimp only; omega) | (simp; done) | (simp; omega)) _))))⟩
  · have hc' := hc (by omega)
    clear hc
    have fst := fun W a x y m => run_store Tryd.prog W a (.complex .f32 x y) m rfl
    go_enter Tryd.func5, Tryd.ntmps5
    go_wp2_with fail
    refine (drawEntryMake_c _ w hc').mono ?_
    rintro e W1 ⟨s, p, rfl, hsz, hp, hb1⟩
    clear hc'
    have HT1 := Lib.hid (HT.out.keep h6 hb1)
    have HB1 := Lib.hid hb1
    have HP := Lib.hid hp
    clear hb1 hp HT
    go_wp2_with fail
    refine (iEntryMake_c s p W1 HP.out.w HT1.out).mono ?_
    rintro e W2 ⟨rfl, hb2⟩
    have hp1 := HT1.out.pos
    have HT2 := Lib.hid (HT1.out.keep hp1 hb2)
    have HB2 := Lib.hid (Blw.after HB1.out hb2)
    clear hb2 hp1 HT1 HB1
    rcases Bool.eq_false_or_eq_true (okE s p) with hok | hok
    · have HV := Lib.hid (emV_t hok)
      have hn := sumN_lt (ptsE s p)
      have hr1 := rtE_t (n := sumN (ptsE s p)) hok rfl
      have hr2 := rtE_n (s := s) (p := p) (n := (sumN (ptsE s p) + 1) % 4294967296) (by omega)
      have f1 := wrap_succ (sumN (ptsE s p))
      generalize sumN (ptsE s p) = n at *
      generalize (n + 1) % 4294967296 = n' at *
      rw [HV.out]
      clear hok
      go_upto_region 5 with fail
      generalize hW : World.alloc _ _ = W3
      have hb3 := (Below.refl W2.heap.size W2).alloc (Nat.le_refl _) (.cells #[.string s, encW p, .int .u32 (n : Nat)] 33)
      have hp2 := HT2.out.pos
      have N3 := Lib.hid (show BxE W2.heap.size s p n W3 by rw [← hW]; exact BxE.new _ _ _ _ _)
      have HT3 := Lib.hid (show Tz W3 by rw [← hW]; exact HT2.out.keep hp2 hb3)
      have HB3 := Lib.hid (show Below w.heap.size w W3 by rw [← hW]; exact Blw.alloc HB2.out _)
      clear hW hb3 hp2 HT2 HB2
      have HR1 := Lib.hid hr1
      have HR2 := Lib.hid hr2
      have HF1 := Lib.hid f1
      clear hr1 hr2 f1
      go_wp2_with fail
      refine (sEntryMake_c s p W3 HP.out.w).mono ?_
      rintro e W4 ⟨rfl, hb4⟩
      rw [HV.out]
      have hp3 := HT3.out.pos
      have N4 := Lib.hid (N3.out.keep hb4)
      have HT4 := Lib.hid (HT3.out.keep hp3 hb4)
      have HB4 := Lib.hid (Blw.after HB3.out hb4)
      clear hb4 hp3 HT3 HB3 N3
      go_upto_region 6 with fail
      generalize hW : World.alloc _ _ = W5
      have hb5 := (Below.refl W4.heap.size W4).alloc (Nat.le_refl _) (.cells #[.string s, encW p, .int .u32 (n : Nat)] 33)
      have hp4 := HT4.out.pos
      have N5 := Lib.hid (show BxE W2.heap.size s p n W5 by rw [← hW]; exact N4.out.keep hb5)
      have M5 := Lib.hid (show BxE W4.heap.size s p n W5 by rw [← hW]; exact BxE.new _ _ _ _ _)
      have HT5 := Lib.hid (show Tz W5 by rw [← hW]; exact HT4.out.keep hp4 hb5)
      have HB5 := Lib.hid (show Below w.heap.size w W5 by rw [← hW]; exact Blw.alloc HB4.out _)
      clear hW hb5 hp4 HT4 HB4 N4
      obtain ⟨_, d0, d1, d2, _⟩ := N5.out
      obtain ⟨_, e0, e1, e2, _⟩ := M5.out
      go_wp2_with fail
      refine (sameEntry_c s p n W5 HP.out).mono ?_
      rintro e W6 ⟨rfl, hb6⟩
      have hp5 := HT5.out.pos
      have N6 := Lib.hid (N5.out.keep hb6)
      have HT6 := Lib.hid (HT5.out.keep hp5 hb6)
      have HB6 := Lib.hid (Blw.after HB5.out hb6)
      clear d0 d1 d2 e0 e1 e2 hb6 N5 M5 HB5 HT5
      obtain ⟨_, d0, d1, d2, _⟩ := N6.out
      have f1 := HF1.out
      go_upto_region 10 with fail
      generalize hW : World.alloc _ _ = W7
      have hb7 := (Below.refl W6.heap.size W6).alloc (Nat.le_refl _) (.cells #[.string s, encW p, .int .u32 (n' : Nat)] 33)
      have hp6 := HT6.out.pos
      have N7 := Lib.hid (show BxE W2.heap.size s p n W7 by rw [← hW]; exact N6.out.keep hb7)
      have M7 := Lib.hid (show BxE W6.heap.size s p n' W7 by rw [← hW]; exact BxE.new _ _ _ _ _)
      have HT7 := Lib.hid (show Tz W7 by rw [← hW]; exact HT6.out.keep hp6 hb7)
      have HB7 := Lib.hid (show Below w.heap.size w W7 by rw [← hW]; exact Blw.alloc HB6.out _)
      clear hW hb7 hp6 HT6 HB6 N6 d0 d1 d2 f1
      have HI1 := Lib.hid (fun W (hT : Tz W) => iEntryRight_c s p n W HP.out.w hT)
      have HI2 := Lib.hid (fun W (hT : Tz W) => iEntryRight_c s p n' W HP.out.w hT)
      rw [HR1.out] at HI1
      rw [HR2.out] at HI2
      obtain ⟨_, d0, d1, d2, _⟩ := N7.out
      obtain ⟨_, e0, e1, e2, _⟩ := M7.out
      go_wp2_with fail
      refine (HI1.out W7 HT7.out).mono ?_
      rintro e W8 ⟨rfl, hb8⟩
      have hp7 := HT7.out.pos
      have N8 := Lib.hid (N7.out.keep hb8)
      have M8 := Lib.hid (M7.out.keep hb8)
      have HT8 := Lib.hid (HT7.out.keep hp7 hb8)
      have HB8 := Lib.hid (Blw.after HB7.out hb8)
      clear d0 d1 d2 e0 e1 e2 hb8 N7 M7 HB7 HT7
      obtain ⟨_, d0, d1, d2, _⟩ := N8.out
      obtain ⟨_, e0, e1, e2, _⟩ := M8.out
      go_wp2_with fail
      refine (sameNn_c p W8 HP.out).mono ?_
      rintro e w1 ⟨rfl, rfl⟩
      go_wp2_with fail
      refine (HI2.out W8 HT8.out).mono ?_
      rintro e W9 ⟨rfl, hb9⟩
      have HB9 := Lib.hid (Blw.after HB8.out hb9)
      clear d0 d1 d2 e0 e1 e2 hb9 N8 M8 HB8 HT8
      go_wp2_with fail
      go_ret
      exact ⟨rfl, HB9.out⟩
    · have HV := Lib.hid (emV_f hok)
      rw [HV.out]
      clear hok
      go_upto_region 5 with fail
      generalize hW : World.alloc _ _ = W3
      have hb3 := (Below.refl W2.heap.size W2).alloc (Nat.le_refl _) (.cells #[.string ⟨#[]⟩, .complex .f32 0 0, .int .u32 0] 33)
      have N3 := Lib.hid (show BxE W2.heap.size ⟨#[]⟩ (0, 0) 0 W3 by rw [← hW]; exact BxE.new _ _ _ _ _)
      have HB3 := Lib.hid (show Below w.heap.size w W3 by rw [← hW]; exact Blw.alloc HB2.out _)
      clear hW hb3 HT2 HB2
      go_wp2_with fail
      refine (sEntryMake_c s p W3 HP.out.w).mono ?_
      rintro e W4 ⟨rfl, hb4⟩
      rw [HV.out]
      have N4 := Lib.hid (N3.out.keep hb4)
      have HB4 := Lib.hid (Blw.after HB3.out hb4)
      clear hb4 HB3 N3
      go_upto_region 6 with fail
      generalize hW : World.alloc _ _ = W5
      have hb5 := (Below.refl W4.heap.size W4).alloc (Nat.le_refl _) (.cells #[.string ⟨#[]⟩, .complex .f32 0 0, .int .u32 0] 33)
      have N5 := Lib.hid (show BxE W2.heap.size ⟨#[]⟩ (0, 0) 0 W5 by rw [← hW]; exact N4.out.keep hb5)
      have M5 := Lib.hid (show BxE W4.heap.size ⟨#[]⟩ (0, 0) 0 W5 by rw [← hW]; exact BxE.new _ _ _ _ _)
      have HB5 := Lib.hid (show Below w.heap.size w W5 by rw [← hW]; exact Blw.alloc HB4.out _)
      clear hW hb5 HB4 N4
      obtain ⟨_, d0, d1, d2, _⟩ := N5.out
      obtain ⟨_, e0, e1, e2, _⟩ := M5.out
      have hz : Nn2 (0, 0) := ⟨nn_lit.1, nn_lit.1⟩
      go_wp2_with fail
      refine (sameEntry_c ⟨#[]⟩ (0, 0) 0 W5 hz).mono ?_
      rintro e W6 ⟨rfl, hb6⟩
      have N6 := Lib.hid (N5.out.keep hb6)
      have M6 := Lib.hid (M5.out.keep hb6)
      have HB6 := Lib.hid (Blw.after HB5.out hb6)
      clear d0 d1 d2 e0 e1 e2 hb6 N5 M5 HB5
      obtain ⟨_, d0, d1, d2, _⟩ := N6.out
      obtain ⟨_, e0, e1, e2, _⟩ := M6.out
      go_wp2_with fail
      refine (sameEntry_c ⟨#[]⟩ (0, 0) 0 W6 hz).mono ?_
      rintro e W7 ⟨rfl, hb7⟩
      have HB7 := Lib.hid (Blw.after HB6.out hb7)
      clear d0 d1 d2 e0 e1 e2 hb7 N6 M6 HB6
      go_wp2_with fail
      go_ret
      exact ⟨rfl, HB7.out⟩
namespace lawFnEntry
set_option maxRecDepth 100000 in
theorem lifted (os : Os) (started : os.Started) (H : Type) (enc : TypeId × Value → H) :
    ReturnsInHanded {} Tryd.checked os 5 .any (fun w args => (Rows.fnEntrySpec.pre enc Tryd.prog Tryd.f5 Rows.fnEntryRow.domain false w args ∧ laidMetH Tryd.prog Rows.fnEntryRow.laid w) ∧ sizedMet enc Tryd.prog Tryd.f5 (OpenSpec.ofChange Rows.fnEntrySpec) false w args)
      (Rows.fnEntrySpec.post enc Tryd.prog Tryd.f5 false true false false) := by
  refine returnsInHanded_of_change_and (C := Tryd.checked) (X := fun w _ => laidMetH Tryd.prog Rows.fnEntryRow.laid w) (fun _ _ _ hh h => h.of_heap hh) own started (by kernel_rfl) Tryd.func5
    (ChangeSpec.witness_shaped (enc := enc) (C := Tryd.checked) (os := os) (X := fun w _ => laidMetH Tryd.prog Rows.fnEntryRow.laid w) false (World.laidAll Tryd.prog os Rows.fnEntryRow.laid) #[.slice none 0 0] 8 (World.laidAll_os _ _ _)
      (World.shaped_of_ZipB (by kernel_rfl) (by kernel_rfl)) (by kernel_rfl) (by kernel_rfl) (by kernel_rfl)
      (by rw [MakeChecks.laidMetH_plain _ _ _ (by kernel_rfl)]; exact laidMet_laidAll _ (by kernel_rfl) (by kernel_rfl))) ?_
  intro W base args ds gs before hval0 hW hc0 _ hL _
  have hval : ∀ (j : Nat) t v, Tryd.f5.params[j]? = some t → args[j]? = some v → Value.okWide Tryd.prog W .any base t v := hval0
  have hW' := hW
  obtain ⟨p, q, hA0, hV, rfl, _, _⟩ := hW
  have hA : DataW.TrodAll enc Tryd.prog W 0 (fun _ => true) true Tryd.f5.params.toList args.toList ds p := hA0
  rw [Tryd.params5] at hA hval
  obtain ⟨v0, vs0, d0, ds0, p0, q0, hargs, rfl, rfl, h0, r0⟩ := trodAll_cons hA
  obtain ⟨rfl, rfl, rfl⟩ := trodAll_nil r0
  obtain rfl : args = #[v0] := by cases args; simp_all
  obtain ⟨rfl, rfl⟩ := trodVars_none hV
  obtain ⟨a, len, cap, rfl⟩ := okWide_slice Tryd.underlying25 (hval 0 25 v0 rfl rfl)
  clear hA0 hval0
  simp only [List.append_nil] at hW'
  have hlt : ∀ x ∈ p0, x.block < W.heap.size := fun x hx => by simpa using hW'.lt x hx
  refine (lawEntry_c a len cap W (code_of h0) (tz_second hL (fun _ => MakeChecks.laidMetH_plain _ _ _ (by kernel_rfl)))).mono fun e W' ⟨he, hg⟩ => ?_
  subst he
  have harg := Below.trod laidOut (by kernel_rfl) (of_decide_eq_true (by kernel_rfl)) h0 hg hlt
  refine ⟨_, rfl, _, _, _, [], p0, [], hW', ?_, ?_, ?_, hg.frame _, fun h => by cases h⟩
  · exact trodAll_cons_mk (shut_bool Tryd.underlying4 _) trodAll_mk0
  · exact trodAll_mk1 harg
  · rfl

theorem holds : Rows.FnEntrySaid :=
  OpenClaim.holds_of_wide 5 Tryd.f5 rfl rfl rfl rfl rfl rfl rfl ⟨rfl, rfl, rfl, rfl, rfl⟩ rfl rfl rfl rfl rfl (by kernel_rfl) Tryd.func5 (by kernel_rfl)
    (of_decide_eq_true (by kernel_rfl)) (by unfold Func.isWrapper; first | (rw [if_pos (by decide +kernel)]; kernel_rfl) | (rw [if_neg (by decide +kernel)]; exact ⟨rfl, rfl⟩))
    (fun os started H enc _ => lifted os started H enc)
theorem proved : Rows.FnEntryCardSaid :=
  Claim7.holds_tied_plain_at .later [] [.data, .data] true (true, "37a7ac331116b5fe4b5544570967ab0f56799b0966c5fb0f7d1e3df14251ea73") false holds (fun _ h => by cases h) (by kernel_rfl) (fun _ h => by cases h) fnEntry_row_tie rfl ⟨rfl, rfl⟩ (by kernel_rfl) rfl
    (fun f fn hf hfn => by
      obtain rfl : f = 5 := Option.some.inj ((show Tryd.prog.funcNamed "loop.example/dragonnumbers/laws.FnEntry" = some 5 by kernel_rfl).symm.trans hf) |>.symm
      obtain rfl : fn = Tryd.f5 := (Option.some.inj (Tryd.func5.symm.trans hfn)).symm
      exact ⟨by kernel_rfl, fun j t ht => by
        rw [Tryd.params5] at ht
        have hm : t ∈ [25] := by simpa using Array.mem_of_getElem? ht
        have hall : ([25].all fun u => !Tryd.prog.wantsStandIn u) = true := by kernel_rfl
        exact (show Tryd.prog.wantsStandIn t = false by simpa using List.all_eq_true.1 hall t hm)⟩)
    (by kernel_rfl)
end lawFnEntry
end Go.Proofs.YtmdnfamjdogogaaDoor

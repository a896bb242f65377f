/- FnText: whatever the code draws, both sides write the same text, and it is read as the entry; the listed variables are as the library's text lays them. -/
import Derived.Test.YtmdnfamjdogogaaGreatDoorTie
import Derived.Test.YtmdnfamjdogogaaGreatDoorCards
import Derived.OpenShut
import Derived.LaidMore
import Derived.Lay
import Derived.SevenTiedAt
import Derived.Stop.Joined
import Derived.Stop.LaidErr
import Derived.ChangeVars
import Derived.ChangeStays
import Derived.Test.YtmdnfamjdogogaaGreatDoorZ3
namespace Go.Proofs.YtmdnfamjdogogaaGreatDoor
set_option linter.unusedSimpArgs false
set_option linter.unusedVariables false
open Go.ChangeShapes Go.WideShapes Go.ChangeAt Go.RowKit Go.Joins

def OneE (w : World) (e : Ending) (w' : World) : Prop :=
  ∃ (s : ByteArray) (p : Nat × Nat) (n : Nat), e = .returned (encE s p n) ∧ EnIn s p n ∧ Below w.heap.size w w'
set_option maxRecDepth 100000 in
set_option maxHeartbeats 4000000 in
theorem drawEntryText_c (v : Value) (w : World) (h : Code v w) : Calls Tryz.prog 4 #[v] w (OneE w) := by
  have fst := fun W a x y m => run_store Tryz.prog W a (.complex .f32 x y) m rfl
  go_enter Tryz.func4, Tryz.ntmps4
  go_wp2_with fail
  generalize hW : World.alloc _ _ = W0
  have N0 := Lib.hid (show BxE w.heap.size ⟨#[]⟩ (0, 0) 0 W0 by rw [← hW]; exact BxE.new _ _ _ _ _)
  have HB0 := Lib.hid (show Below w.heap.size w W0 by rw [← hW]; (first | ((repeat' with_reducible first | assumption | exact Below.refl _ _ | apply Blw.alloc | apply Blw.drew | apply Blw.drewN | (refine Blw.after ?_ (by assumption)) | (refine Blw.set ?_ (by first | (dsimp only; omega) | (simp; omega)) _)); done) | (repeat' (first | assumption | exact Below.refl _ _ | apply Blw.alloc | apply Blw.drew | apply Blw.drewN | (refine Blw.after ?_ (by assumption)) | (refine Blw.set ?_ (by first | (dsimp only; omega) | (simp; done) | (simp; omega)) _)))))
  have h0 : Code v W0 := h.keep (by rw [← hW]; exact (Below.refl _ _).alloc (Nat.le_refl _) _)
  clear hW h
  have z0 := N0.out.1
  go_wp2_with fail
  refine (l6Open_c v W0 h0).mono ?_
  rintro e W1 ⟨sv, rfl, hr, hs, hz, hb⟩
  go_wp2_with fail
  refine (l92Entry_c W0.heap.size sv 0 W1 hs hr ⟨by omega, by omega⟩).mono ?_
  rintro e W2 ⟨v', p1, ⟨s, p, n, rfl, e1, e2, e3⟩, rfl, q0, q1, h1, hs1, m1⟩
  have N2 := Lib.hid ((N0.out.keep hb).moved m1 (by omega))
  have HB2 := Lib.hid (m1.2.2.2 w (Blw.after HB0.out hb) (by omega))
  have hB : Below w.heap.size w W2 := HB2.out
  have HE := Lib.hid (show EnIn s p n from ⟨e1, e2, e3⟩)
  clear e1 e2 e3 h0 hr hs hb N0 h1 hs1 m1
  obtain ⟨z0, d0, d1, d2, f0, f1, f2⟩ := N2.out
  go_wp2_with fail
  exact bodyPost_ret (v := encE s p n) (by simp [results, Tryz.results4, go_sem, *]) rfl ⟨s, p, n, rfl, HE.out, by (first | ((repeat' with_reducible first | assumption | exact Below.refl _ _ | apply Blw.alloc | apply Blw.drew | apply Blw.drewN | (refine Blw.after ?_ (by assumption)) | (refine Blw.set ?_ (by first | (dsimp only; omega) | (simp; omega)) _)); done) | (repeat' (first | assumption | exact Below.refl _ _ | apply Blw.alloc | apply Blw.drew | apply Blw.drewN | (refine Blw.after ?_ (by assumption)) | (refine Blw.set ?_ (by first | (dsimp only; omega) | (simp; done) | (simp; omega)) _))))⟩
theorem rd_back {s : ByteArray} {p : Nat × Nat} {n : Nat} (hp : W32 p) (hn : n < 4294967296) (h : rtE s p n = true) : rdV (toL (txB s p n)) = .tuple #[encE s p n, .bool true] := by
  have e := rd_txt (s := s) (x := p.1) (y := p.2) hp.1 hp.2 hn h
  have := rdV_t e
  unfold txB
  rw [toL_bs, this, bs_toL]
set_option maxRecDepth 100000 in
set_option maxHeartbeats 8000000 in
theorem lawText_c (a : Option Addr) (len cap : Nat) (w : World) (hc : len ≤ 1048576 → Code (.slice a len cap) w) (hG : Gl w) : Calls Tryz.prog 3 #[.slice a len cap] w fun e w' => e = .returned (.bool true) ∧ Below w.heap.size w w' := by
  have HG := Lib.hid hG
  clear hG
  by_cases hl : 1048576 < len
  · go_enter Tryz.func3, Tryz.ntmps3
    go_wp2_with fail
    go_ret
    exact ⟨rfl, by (first | ((repeat' with_reducible first | assumption | exact Below.refl _ _ | apply Blw.alloc | apply Blw.drew | apply Blw.drewN | (refine Blw.after ?_ (by assumption)) | (refine Blw.set ?_ (by first | (dsimp only; omega) | (simp; omega)) _)); done) | (repeat' (first | assumption | exact Below.refl _ _ | apply Blw.alloc | apply Blw.drew | apply Blw.drewN | (refine Blw.after ?_ (by assumption)) | (refine Blw.set ?_ (by first | (dsimp only; omega) | (simp; done) | (simp; omega)) _))))⟩
  · have hc' := hc (by omega)
    clear hc
    have fst := fun W a x y m => run_store Tryz.prog W a (.complex .f32 x y) m rfl
    go_enter Tryz.func3, Tryz.ntmps3
    go_wp2_with fail
    refine (drawEntryText_c _ w hc').mono ?_
    rintro e W1 ⟨s, p, n, rfl, hE, hb1⟩
    clear hc'
    have HG1 := Lib.hid (HG.out.keep hb1)
    have HB1 := Lib.hid hb1
    have hs : s.size ≤ 2000000 := by have := hE.1; omega
    have hT : (txB s p n).size ≤ 2000000 := by
      have := hE.1
      have e := txB_len s p n
      unfold txB
      rw [← toL_len, toL_bs, e]
      omega
    have hn := hE.2.2
    have hP := hE.2.1
    have HI := Lib.hid (fun W (h : Gl W) => iEntryText_c s p n W hs hP.w hn h)
    have HS := Lib.hid (fun W => sEntryText_c s p n W hs hP.w hn)
    have HQ := Lib.hid (fun W => sameEntry_c s p n W hP)
    clear hb1 hE HG
    go_upto_region 4 with fail
    generalize hW : World.alloc _ _ = W2
    have hb2 := (Below.refl W1.heap.size W1).alloc (Nat.le_refl _) (.cells #[.string s, encW p, .int .u32 (n : Nat)] 26)
    have N2 := Lib.hid (show BxE W1.heap.size s p n W2 by rw [← hW]; exact BxE.new _ _ _ _ _)
    have HG2 := Lib.hid (show Gl W2 by rw [← hW]; exact HG1.out.keep hb2)
    have HB2 := Lib.hid (show Below w.heap.size w W2 by rw [← hW]; exact Blw.alloc HB1.out _)
    clear hW hb2 HG1 HB1
    obtain ⟨_, d0, d1, d2, _⟩ := N2.out
    rcases Bool.eq_false_or_eq_true (rtE s p n) with hr | hr
    · have HR := Lib.hid (fun W (h : Gl W) => iEntryRead_c (txB s p n) W hT h)
      rw [rd_back hP.w hn hr] at HR
      rw [etV_t hr] at HI HS
      have f2 := fun w t => run_wne (P := Tryz.prog) w t p p
      rw [eqW_self hP] at f2
      generalize txB s p n = T at *
      clear hr hs hT hP hn
      go_wp2_with fail
      refine (HI.out W2 HG2.out).mono ?_
      rintro e W3 ⟨rfl, hb3⟩
      have N3 := Lib.hid (N2.out.keep hb3)
      have HG3 := Lib.hid (HG2.out.keep hb3)
      have HB3 := Lib.hid (Blw.after HB2.out hb3)
      clear d0 d1 d2 hb3 N2 HG2 HB2 HI
      obtain ⟨_, d0, d1, d2, _⟩ := N3.out
      go_wp2_with fail
      refine (HS.out W3).mono ?_
      rintro e W4 ⟨rfl, hb4⟩
      have N4 := Lib.hid (N3.out.keep hb4)
      have HG4 := Lib.hid (HG3.out.keep hb4)
      have HB4 := Lib.hid (Blw.after HB3.out hb4)
      clear d0 d1 d2 hb4 N3 HG3 HB3 HS
      go_wp2_with fail
      refine (HR.out W4 HG4.out).mono ?_
      rintro e W5 ⟨rfl, hb5⟩
      have N5 := Lib.hid (N4.out.keep hb5)
      have HB5 := Lib.hid (Blw.after HB4.out hb5)
      clear hb5 N4 HB4 HG4 HR
      go_upto_region 9 with fail
      generalize hW : World.alloc _ _ = W6
      have hb6 := (Below.refl W5.heap.size W5).alloc (Nat.le_refl _) (.cells #[.string s, encW p, .int .u32 (n : Nat)] 26)
      have N6 := Lib.hid (show BxE W1.heap.size s p n W6 by rw [← hW]; exact N5.out.keep hb6)
      have M6 := Lib.hid (show BxE W5.heap.size s p n W6 by rw [← hW]; exact BxE.new _ _ _ _ _)
      have HB6 := Lib.hid (show Below w.heap.size w W6 by rw [← hW]; exact Blw.alloc HB5.out _)
      clear hW hb6 N5 HB5
      obtain ⟨_, d0, d1, d2, _⟩ := N6.out
      obtain ⟨_, e0, e1, e2, _⟩ := M6.out
      go_wp2_with fail
      refine (HQ.out W6).mono ?_
      rintro e W7 ⟨rfl, hb7⟩
      have HB7 := Lib.hid (Blw.after HB6.out hb7)
      clear d0 d1 d2 e0 e1 e2 hb7 N6 M6 HB6
      go_wp2_with fail
      go_ret
      exact ⟨rfl, HB7.out⟩
    · rw [etV_f hr] at HI HS
      clear hr hs hT hP hn
      go_wp2_with fail
      refine (HI.out W2 HG2.out).mono ?_
      rintro e W3 ⟨rfl, hb3⟩
      have N3 := Lib.hid (N2.out.keep hb3)
      have HB3 := Lib.hid (Blw.after HB2.out hb3)
      clear d0 d1 d2 hb3 N2 HG2 HB2 HI
      obtain ⟨_, d0, d1, d2, _⟩ := N3.out
      go_wp2_with fail
      refine (HS.out W3).mono ?_
      rintro e W4 ⟨rfl, hb4⟩
      have HB4 := Lib.hid (Blw.after HB3.out hb4)
      clear d0 d1 d2 hb4 N3 HB3 HS
      go_wp2_with fail
      go_ret
      exact ⟨rfl, HB4.out⟩
namespace lawFnText
set_option maxRecDepth 100000 in
theorem lifted (os : Os) (started : os.Started) (H : Type) (enc : TypeId × Value → H) :
    ReturnsInHanded {} Tryz.checked os 3 .any (fun w args => (Rows.fnTextSpec.pre enc Tryz.prog Tryz.f3 Rows.fnTextRow.domain false w args ∧ laidMetH Tryz.prog Rows.fnTextRow.laid w) ∧ sizedMet enc Tryz.prog Tryz.f3 (OpenSpec.ofChange Rows.fnTextSpec) false w args)
      (Rows.fnTextSpec.post enc Tryz.prog Tryz.f3 false true false false) := by
  refine handed_shaped (C := Tryz.checked) (X := fun w _ => laidMetH Tryz.prog Rows.fnTextRow.laid w) (fun _ _ _ hh h => h.of_heap hh) own started (by kernel_rfl) Tryz.func3
    (ChangeSpec.witness_shaped (enc := enc) (C := Tryz.checked) (os := os) (X := fun w _ => laidMetH Tryz.prog Rows.fnTextRow.laid w) false (World.laidAll Tryz.prog os Rows.fnTextRow.laid) #[.slice none 0 0] 8 (World.laidAll_os _ _ _)
      (World.shaped_of_ZipB (by kernel_rfl) (by kernel_rfl)) (by kernel_rfl) (by kernel_rfl) (by kernel_rfl)
      (by rw [MakeChecks.laidMetH_plain _ _ _ (by kernel_rfl)]; exact laidMet_laidAll _ (by kernel_rfl) (by kernel_rfl))) ?_
  intro W base args ds gs before hval0 hW hc0 _ hSh hL _
  have hval : ∀ (j : Nat) t v, Tryz.f3.params[j]? = some t → args[j]? = some v → Value.okWide Tryz.prog W .any base t v := hval0
  have hW' := hW
  obtain ⟨p, q, hA0, hV, rfl, _, _⟩ := hW
  have hA : DataW.TrodAll enc Tryz.prog W 0 (fun _ => true) true Tryz.f3.params.toList args.toList ds p := hA0
  rw [Tryz.params3] at hA hval
  obtain ⟨v0, vs0, d0, ds0, p0, q0, hargs, rfl, rfl, h0, r0⟩ := trodAll_cons hA
  obtain ⟨rfl, rfl, rfl⟩ := trodAll_nil r0
  obtain rfl : args = #[v0] := by cases args; simp_all
  obtain ⟨rfl, rfl⟩ := trodVars_none hV
  obtain ⟨a, len, cap, rfl⟩ := okWide_slice Tryz.underlying22 (hval 0 22 v0 rfl rfl)
  clear hA0 hval0
  simp only [List.append_nil] at hW'
  have hlt : ∀ x ∈ p0, x.block < W.heap.size := fun x hx => by simpa using hW'.lt x hx
  have hGl : Gl W := gl_laid hSh (by rw [MakeChecks.laidMetH_plain _ _ _ (by kernel_rfl)] at hL; exact hL) (tz_second hL (fun _ => MakeChecks.laidMetH_plain _ _ _ (by kernel_rfl)))
  refine (lawText_c a len cap W (code_of h0) hGl).mono fun e W' ⟨he, hg⟩ => ?_
  subst he
  have harg := Below.trod laidOut (by kernel_rfl) (of_decide_eq_true (by kernel_rfl)) h0 hg hlt
  refine ⟨_, rfl, _, _, _, [], p0, [], hW', ?_, ?_, ?_, hg.frame _, fun h => by cases h⟩
  · exact trodAll_cons_mk (shut_bool Tryz.underlying4 _) trodAll_mk0
  · exact trodAll_mk1 harg
  · rfl

theorem holds : Rows.FnTextSaid :=
  OpenClaim.holds_of_wide 3 Tryz.f3 rfl rfl rfl rfl rfl rfl rfl ⟨rfl, rfl, rfl, rfl, rfl⟩ rfl rfl rfl rfl rfl (by kernel_rfl) Tryz.func3 (by kernel_rfl)
    (of_decide_eq_true (by kernel_rfl)) (by unfold Func.isWrapper; first | (rw [if_pos (by decide +kernel)]; kernel_rfl) | (rw [if_neg (by decide +kernel)]; exact ⟨rfl, rfl⟩))
    (fun os started H enc _ => lifted os started H enc)
theorem proved : Rows.FnTextCardSaid :=
  Claim7.holds_tied_plain_at .later [] [.data, .data, .data, .data, .sentinel, .sentinel, .pinned] true (true, "397be94da89d59febc2d97fba215a6040ddd83a031b717dc527adeea1cab248b") true holds (fun _ h => by cases h) (by kernel_rfl) (fun _ h => by cases h) fnText_row_tie rfl ⟨rfl, rfl⟩ (by kernel_rfl) rfl
    (fun f fn hf hfn => by
      obtain rfl : f = 3 := Option.some.inj ((show Tryz.prog.funcNamed "loop.example/dragonnumbers/laws.FnText" = some 3 by kernel_rfl).symm.trans hf) |>.symm
      obtain rfl : fn = Tryz.f3 := (Option.some.inj (Tryz.func3.symm.trans hfn)).symm
      exact ⟨by kernel_rfl, fun j t ht => by
        rw [Tryz.params3] at ht
        have hm : t ∈ [22] := by simpa using Array.mem_of_getElem? ht
        have hall : ([22].all fun u => !Tryz.prog.wantsStandIn u) = true := by kernel_rfl
        exact (show Tryz.prog.wantsStandIn t = false by simpa using List.all_eq_true.1 hall t hm)⟩)
    (by kernel_rfl)
end lawFnText
end Go.Proofs.YtmdnfamjdogogaaGreatDoor

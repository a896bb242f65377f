/- FnRead: whatever text the code draws, both sides read the same entry, or none, and an entry that is read is right and has the text; the listed variables are as the library's text lays them. -/
import Derived.Test.YtmdnfamjdogogabGreatDoorTie
import Derived.Test.YtmdnfamjdogogabGreatDoorCards
import Derived.OpenShut
import Derived.LaidMore
import Derived.Lay
import Derived.SevenTiedAt
import Derived.Stop.Joined
import Derived.Stop.LaidErr
import Derived.ChangeVars
import Derived.ChangeStays
import Derived.Test.YtmdnfamjdogogabGreatDoorZ4
namespace Go.Proofs.YtmdnfamjdogogabGreatDoor
set_option linter.unusedSimpArgs false
set_option linter.unusedVariables false
open Go.ChangeShapes Go.WideShapes Go.ChangeAt Go.RowKit Go.Joins

theorem rd_key (s : ByteArray) (hs : s.size ≤ 1000) : (∃ (t : ByteArray) (p : Nat × Nat) (n : Nat), rdV (toL s) = .tuple #[encE t p n, .bool true] ∧ Nn2 p ∧ n < 4294967296 ∧ t.size ≤ 1000 ∧ rtE t p n = true ∧ etV t p n = .tuple #[.string s, .bool true]) ∨
    rdV (toL s) = .tuple #[encE ⟨#[]⟩ (0, 0) 0, .bool false] := by
  rcases rdV_cases (toL s) with ⟨a, x, y, n, -, h1, h2, h3, h4, h5⟩ | h1
  · have e : txB (bs a) (x, y) n = s := by
      unfold txB
      rw [toL_bs]
      show bs (txt a x y n) = s
      rw [h2, bs_toL]
    refine Or.inl ⟨bs a, (x, y), n, h1, h4, h5, ?_, h3, ?_⟩
    · have := txB_sz (bs a) (x, y) n
      rw [e] at this
      omega
    · rw [etV_t h3, e]
  · exact Or.inr h1
set_option maxRecDepth 100000 in
set_option maxHeartbeats 4000000 in
theorem lawRead_c (a : Option Addr) (len cap : Nat) (w : World) (hc : len ≤ 1048576 → Code (.slice a len cap) w) (hG : Gl w) : Calls Tryz.prog 4 #[.slice a len cap] w fun e w' => e = .returned (.bool true) ∧ Below w.heap.size w w' := by
  have HG := Lib.hid hG
  clear hG
  by_cases hl : 1048576 < len
  · go_enter Tryz.func4, Tryz.ntmps4
    go_wp2_with fail
    go_ret
    exact ⟨rfl, by (first | ((repeat' with_reducible first | assumption | exact Below.refl _ _ | apply Blw.alloc | apply Blw.drew | apply Blw.drewN | (refine Blw.after ?_ (by assumption)) | (refine Blw.set ?_ (by first | (dsimp only; omega) | (simp; omega)) _)); done) | (repeat' (first | assumption | exact Below.refl _ _ | apply Blw.alloc | apply Blw.drew | apply Blw.drewN | (refine Blw.after ?_ (by assumption)) | (refine Blw.set ?_ (by first | (dsimp only; omega) | (simp; done) | (simp; omega)) _))))⟩
  · have hc' := hc (by omega)
    clear hc
    have fst := fun W a x y m => run_store Tryz.prog W a (.complex .f32 x y) m rfl
    go_enter Tryz.func4, Tryz.ntmps4
    go_wp2_with fail
    refine (drawEntryRead_c _ w hc').mono ?_
    rintro e W0 ⟨s, rfl, hs, hb0⟩
    clear hc'
    have HG0 := Lib.hid (HG.out.keep hb0)
    have HB0 := Lib.hid hb0
    clear hb0 HG
    have HR := Lib.hid (fun W (h : Gl W) => iEntryRead_c s W (by omega) h)
    have HS := Lib.hid (fun W => sEntryRead_c s W (by omega))
    rcases rd_key s hs with ⟨t, p, n, hv, hP, hn, ht, hrt, het⟩ | hv
    · rw [hv] at HR HS
      have HT := Lib.hid (fun W (h : Gl W) => iEntryText_c t p n W (by omega) hP.w hn h)
      rw [het] at HT
      have HE := Lib.hid (fun W (h : Tz W) => iEntryRight_c t p n W hP.w h)
      rw [hrt] at HE
      have HQ := Lib.hid (fun W => sameEntry_c t p n W hP)
      have f2 := fun w t => run_wne (P := Tryz.prog) w t p p
      rw [eqW_self hP] at f2
      clear hv het hrt hs ht hP hn
      go_wp2_with fail
      refine (HR.out W0 HG0.out).mono ?_
      rintro e W1 ⟨rfl, hb1⟩
      have HG1 := Lib.hid (HG0.out.keep hb1)
      have HB1 := Lib.hid (Blw.after HB0.out hb1)
      clear hb1 HG0 HB0 HR
      go_upto_region 5 with fail
      generalize hW : World.alloc _ _ = W2
      have hb2 := (Below.refl W1.heap.size W1).alloc (Nat.le_refl _) (.cells #[.string t, encW p, .int .u32 (n : Nat)] 25)
      have N2 := Lib.hid (show BxE W1.heap.size t p n W2 by rw [← hW]; exact BxE.new _ _ _ _ _)
      have HG2 := Lib.hid (show Gl W2 by rw [← hW]; exact HG1.out.keep hb2)
      have HB2 := Lib.hid (show Below w.heap.size w W2 by rw [← hW]; exact Blw.alloc HB1.out _)
      clear hW hb2 HG1 HB1
      go_wp2_with fail
      refine (HS.out W2).mono ?_
      rintro e W3 ⟨rfl, hb3⟩
      have N3 := Lib.hid (N2.out.keep hb3)
      have HG3 := Lib.hid (HG2.out.keep hb3)
      have HB3 := Lib.hid (Blw.after HB2.out hb3)
      clear hb3 N2 HB2 HG2 HS
      go_upto_region 6 with fail
      generalize hW : World.alloc _ _ = W4
      have hb4 := (Below.refl W3.heap.size W3).alloc (Nat.le_refl _) (.cells #[.string t, encW p, .int .u32 (n : Nat)] 25)
      have N4 := Lib.hid (show BxE W1.heap.size t p n W4 by rw [← hW]; exact N3.out.keep hb4)
      have M4 := Lib.hid (show BxE W3.heap.size t p n W4 by rw [← hW]; exact BxE.new _ _ _ _ _)
      have HG4 := Lib.hid (show Gl W4 by rw [← hW]; exact HG3.out.keep hb4)
      have HB4 := Lib.hid (show Below w.heap.size w W4 by rw [← hW]; exact Blw.alloc HB3.out _)
      clear hW hb4 N3 HB3 HG3
      obtain ⟨_, d0, d1, d2, _⟩ := N4.out
      obtain ⟨_, e0, e1, e2, _⟩ := M4.out
      go_wp2_with fail
      refine (HQ.out W4).mono ?_
      rintro e W5 ⟨rfl, hb5⟩
      have N5 := Lib.hid (N4.out.keep hb5)
      have HG5 := Lib.hid (HG4.out.keep hb5)
      have HB5 := Lib.hid (Blw.after HB4.out hb5)
      clear d0 d1 d2 e0 e1 e2 hb5 N4 M4 HB4 HG4 HQ
      obtain ⟨_, d0, d1, d2, _⟩ := N5.out
      go_wp2_with fail
      refine (HT.out W5 HG5.out).mono ?_
      rintro e W6 ⟨rfl, hb6⟩
      have N6 := Lib.hid (N5.out.keep hb6)
      have HG6 := Lib.hid (HG5.out.keep hb6)
      have HB6 := Lib.hid (Blw.after HB5.out hb6)
      clear d0 d1 d2 hb6 N5 HB5 HG5 HT
      obtain ⟨_, d0, d1, d2, _⟩ := N6.out
      go_wp2_with fail
      refine (HE.out W6 HG6.out.1).mono ?_
      rintro e W7 ⟨rfl, hb7⟩
      have N7 := Lib.hid (N6.out.keep hb7)
      have HB7 := Lib.hid (Blw.after HB6.out hb7)
      clear d0 d1 d2 hb7 N6 HB6 HG6 HE
      obtain ⟨_, d0, d1, d2, _⟩ := N7.out
      go_wp2_with fail
      go_ret
      exact ⟨rfl, HB7.out⟩
    · rw [hv] at HR HS
      have HQ := Lib.hid (fun W => sameEntry_c ⟨#[]⟩ (0, 0) 0 W ⟨nn_lit.1, nn_lit.1⟩)
      clear hv hs
      go_wp2_with fail
      refine (HR.out W0 HG0.out).mono ?_
      rintro e W1 ⟨rfl, hb1⟩
      have HB1 := Lib.hid (Blw.after HB0.out hb1)
      clear hb1 HG0 HB0 HR
      go_upto_region 5 with fail
      generalize hW : World.alloc _ _ = W2
      have N2 := Lib.hid (show BxE W1.heap.size ⟨#[]⟩ (0, 0) 0 W2 by rw [← hW]; exact BxE.new _ _ _ _ _)
      have HB2 := Lib.hid (show Below w.heap.size w W2 by rw [← hW]; exact Blw.alloc HB1.out _)
      clear hW HB1
      go_wp2_with fail
      refine (HS.out W2).mono ?_
      rintro e W3 ⟨rfl, hb3⟩
      have N3 := Lib.hid (N2.out.keep hb3)
      have HB3 := Lib.hid (Blw.after HB2.out hb3)
      clear hb3 N2 HB2 HS
      go_upto_region 6 with fail
      generalize hW : World.alloc _ _ = W4
      have hb4 := (Below.refl W3.heap.size W3).alloc (Nat.le_refl _) (.cells #[.string ⟨#[]⟩, encW (0, 0), .int .u32 ((0 : Nat) : Int)] 25)
      have N4 := Lib.hid (show BxE W1.heap.size ⟨#[]⟩ (0, 0) 0 W4 by rw [← hW]; exact N3.out.keep hb4)
      have M4 := Lib.hid (show BxE W3.heap.size ⟨#[]⟩ (0, 0) 0 W4 by rw [← hW]; exact BxE.new _ _ _ _ _)
      have HB4 := Lib.hid (show Below w.heap.size w W4 by rw [← hW]; exact Blw.alloc HB3.out _)
      clear hW hb4 N3 HB3
      obtain ⟨_, d0, d1, d2, _⟩ := N4.out
      obtain ⟨_, e0, e1, e2, _⟩ := M4.out
      go_wp2_with fail
      refine (HQ.out W4).mono ?_
      rintro e W5 ⟨rfl, hb5⟩
      have N5 := Lib.hid (N4.out.keep hb5)
      have M5 := Lib.hid (M4.out.keep hb5)
      have HB5 := Lib.hid (Blw.after HB4.out hb5)
      clear d0 d1 d2 e0 e1 e2 hb5 N4 M4 HB4
      obtain ⟨_, d0, d1, d2, _⟩ := N5.out
      obtain ⟨_, e0, e1, e2, _⟩ := M5.out
      go_wp2_with fail
      refine (HQ.out W5).mono ?_
      rintro e W6 ⟨rfl, hb6⟩
      have HB6 := Lib.hid (Blw.after HB5.out hb6)
      clear d0 d1 d2 e0 e1 e2 hb6 N5 M5 HB5
      go_wp2_with fail
      go_ret
      exact ⟨rfl, HB6.out⟩
namespace lawFnRead
set_option maxRecDepth 100000 in
theorem lifted (os : Os) (started : os.Started) (H : Type) (enc : TypeId × Value → H) :
    ReturnsInHanded {} Tryz.checked os 4 .any (fun w args => (Rows.fnReadSpec.pre enc Tryz.prog Tryz.f4 Rows.fnReadRow.domain false w args ∧ laidMetH Tryz.prog Rows.fnReadRow.laid w) ∧ sizedMet enc Tryz.prog Tryz.f4 (OpenSpec.ofChange Rows.fnReadSpec) false w args)
      (Rows.fnReadSpec.post enc Tryz.prog Tryz.f4 false true false false) := by
  refine handed_shaped (C := Tryz.checked) (X := fun w _ => laidMetH Tryz.prog Rows.fnReadRow.laid w) (fun _ _ _ hh h => h.of_heap hh) own started (by kernel_rfl) Tryz.func4
    (ChangeSpec.witness_shaped (enc := enc) (C := Tryz.checked) (os := os) (X := fun w _ => laidMetH Tryz.prog Rows.fnReadRow.laid w) false (World.laidAll Tryz.prog os Rows.fnReadRow.laid) #[.slice none 0 0] 8 (World.laidAll_os _ _ _)
      (World.shaped_of_ZipB (by kernel_rfl) (by kernel_rfl)) (by kernel_rfl) (by kernel_rfl) (by kernel_rfl)
      (by rw [MakeChecks.laidMetH_plain _ _ _ (by kernel_rfl)]; exact laidMet_laidAll _ (by kernel_rfl) (by kernel_rfl))) ?_
  intro W base args ds gs before hval0 hW hc0 _ hSh hL _
  have hval : ∀ (j : Nat) t v, Tryz.f4.params[j]? = some t → args[j]? = some v → Value.okWide Tryz.prog W .any base t v := hval0
  have hW' := hW
  obtain ⟨p, q, hA0, hV, rfl, _, _⟩ := hW
  have hA : DataW.TrodAll enc Tryz.prog W 0 (fun _ => true) true Tryz.f4.params.toList args.toList ds p := hA0
  rw [Tryz.params4] at hA hval
  obtain ⟨v0, vs0, d0, ds0, p0, q0, hargs, rfl, rfl, h0, r0⟩ := trodAll_cons hA
  obtain ⟨rfl, rfl, rfl⟩ := trodAll_nil r0
  obtain rfl : args = #[v0] := by cases args; simp_all
  obtain ⟨rfl, rfl⟩ := trodVars_none hV
  obtain ⟨a, len, cap, rfl⟩ := okWide_slice Tryz.underlying30 (hval 0 30 v0 rfl rfl)
  clear hA0 hval0
  simp only [List.append_nil] at hW'
  have hlt : ∀ x ∈ p0, x.block < W.heap.size := fun x hx => by simpa using hW'.lt x hx
  have hGl : Gl W := gl_laid hSh (by rw [MakeChecks.laidMetH_plain _ _ _ (by kernel_rfl)] at hL; exact hL) (tz_second hL (fun _ => MakeChecks.laidMetH_plain _ _ _ (by kernel_rfl)))
  refine (lawRead_c a len cap W (code_of h0) hGl).mono fun e W' ⟨he, hg⟩ => ?_
  subst he
  have harg := Below.trod laidOut (by kernel_rfl) (of_decide_eq_true (by kernel_rfl)) h0 hg hlt
  refine ⟨_, rfl, _, _, _, [], p0, [], hW', ?_, ?_, ?_, hg.frame _, fun h => by cases h⟩
  · exact trodAll_cons_mk (shut_bool Tryz.underlying4 _) trodAll_mk0
  · exact trodAll_mk1 harg
  · rfl

theorem holds : Rows.FnReadSaid :=
  OpenClaim.holds_of_wide 4 Tryz.f4 rfl rfl rfl rfl rfl rfl rfl ⟨rfl, rfl, rfl, rfl, rfl⟩ rfl rfl rfl rfl rfl (by kernel_rfl) Tryz.func4 (by kernel_rfl)
    (of_decide_eq_true (by kernel_rfl)) (by unfold Func.isWrapper; first | (rw [if_pos (by decide +kernel)]; kernel_rfl) | (rw [if_neg (by decide +kernel)]; exact ⟨rfl, rfl⟩))
    (fun os started H enc _ => lifted os started H enc)
theorem proved : Rows.FnReadCardSaid :=
  Claim7.holds_tied_plain_at .later [] [.data, .data, .data, .data, .sentinel, .sentinel, .pinned] true (true, "1594a7c42071ac8d442cb336fe8d31167a5872c0abf49a5a9fb02c2c80b7afd8") true holds (fun _ h => by cases h) (by kernel_rfl) (fun _ h => by cases h) fnRead_row_tie rfl ⟨rfl, rfl⟩ (by kernel_rfl) rfl
    (fun f fn hf hfn => by
      obtain rfl : f = 4 := Option.some.inj ((show Tryz.prog.funcNamed "loop.example/dragonnumbers/laws.FnRead" = some 4 by kernel_rfl).symm.trans hf) |>.symm
      obtain rfl : fn = Tryz.f4 := (Option.some.inj (Tryz.func4.symm.trans hfn)).symm
      exact ⟨by kernel_rfl, fun j t ht => by
        rw [Tryz.params4] at ht
        have hm : t ∈ [30] := by simpa using Array.mem_of_getElem? ht
        have hall : ([30].all fun u => !Tryz.prog.wantsStandIn u) = true := by kernel_rfl
        exact (show Tryz.prog.wantsStandIn t = false by simpa using List.all_eq_true.1 hall t hm)⟩)
    (by kernel_rfl)
end lawFnRead
end Go.Proofs.YtmdnfamjdogogabGreatDoor

/- FnExactEntryRead: at every text of at most 2^20 bytes both sides read the same entry, or none; the listed variables are as the library's text lays them. -/
import Derived.Test.YtmdnfamjdogogabGreatDoorTie
import Derived.Test.YtmdnfamjdogogabGreatDoorCards
import Derived.OpenShut
import Derived.LaidMore
import Derived.Lay
import Derived.SevenTiedAt
import Derived.Stop.Joined
import Derived.Stop.LaidErr
import Derived.ChangeVars
import Derived.ChangeStays
import Derived.Shelf.Vars
import Derived.Test.YtmdnfamjdogogabGreatDoorZ3
namespace Go.Proofs.YtmdnfamjdogogabGreatDoor
set_option linter.unusedSimpArgs false
set_option linter.unusedVariables false
open Go.ChangeShapes Go.WideShapes Go.ChangeAt Go.RowKit Go.Joins

set_option maxRecDepth 100000 in
set_option maxHeartbeats 8000000 in
theorem exactEntryRead_c (s : ByteArray) (w : World) (hG : Gl w) : Calls Tryz.prog 3 #[.string s] w fun e w' => e = .returned (.bool true) ∧ Below w.heap.size w w' := by
  have fst := fun W a x y m => run_store Tryz.prog W a (.complex .f32 x y) m rfl
  have HG := Lib.hid hG
  clear hG
  by_cases hl : 1048576 < s.size
  · go_enter Tryz.func3, Tryz.ntmps3
    go_wp2_with fail
    go_ret
    exact ⟨rfl, by (first | ((repeat' with_reducible first | assumption | exact Below.refl _ _ | apply Blw.alloc | apply Blw.drew | apply Blw.drewN | (refine Blw.after ?_ (by assumption)) | (refine Blw.set ?_ (by first | (dsimp only; omega) | (simp; omega)) _)); done) | (repeat' (first | assumption | exact Below.refl _ _ | apply Blw.alloc | apply Blw.drew | apply Blw.drewN | (refine Blw.after ?_ (by assumption)) | (refine Blw.set ?_ (by first | (dsimp only; omega) | (simp; done) | (simp; omega)) _))))⟩
  · have hs : s.size ≤ 2000000 := by omega
    go_enter Tryz.func3, Tryz.ntmps3
    go_wp2_with fail
    refine (sEntryRead_c s w hs).mono ?_
    rintro e W1 ⟨rfl, hb1⟩
    have HG1 := Lib.hid (HG.out.keep hb1)
    have HB1 := Lib.hid hb1
    have HR := Lib.hid (fun W (h : Gl W) => iEntryRead_c s W hs h)
    clear hb1 HG
    have key : ∃ (t : ByteArray) (p : Nat × Nat) (n : Nat) (ok : Bool), rdV (toL s) = .tuple #[encE t p n, .bool ok] ∧ Nn2 p := by
      rcases rdV_cases (toL s) with ⟨a, x, y, n, -, h1, -, -, h2, -⟩ | h1
      · exact ⟨bs a, (x, y), n, true, h1, h2⟩
      · exact ⟨⟨#[]⟩, (0, 0), 0, false, h1, nn_lit.1, nn_lit.1⟩
    obtain ⟨t, p, n, ok, hV, hp⟩ := key
    rw [hV] at HR ⊢
    clear hV
    go_upto_region 4 with fail
    generalize hW : World.alloc _ _ = W2
    have hb2 := (Below.refl W1.heap.size W1).alloc (Nat.le_refl _) (.cells #[.string t, encW p, .int .u32 (n : Nat)] 25)
    have N2 := Lib.hid (show BxE W1.heap.size t p n W2 by rw [← hW]; exact BxE.new _ _ _ _ _)
    have HG2 := Lib.hid (show Gl W2 by rw [← hW]; exact HG1.out.keep hb2)
    have HB2 := Lib.hid (show Below w.heap.size w W2 by rw [← hW]; exact Blw.alloc HB1.out _)
    clear hW hb2 HG1 HB1
    go_wp2_with fail
    refine (HR.out W2 HG2.out).mono ?_
    rintro e W3 ⟨rfl, hb3⟩
    have N3 := Lib.hid (N2.out.keep hb3)
    have HB3 := Lib.hid (Blw.after HB2.out hb3)
    clear hb3 N2 HB2 HG2 HR
    go_upto_region 5 with fail
    generalize hW : World.alloc _ _ = W4
    have hb4 := (Below.refl W3.heap.size W3).alloc (Nat.le_refl _) (.cells #[.string t, encW p, .int .u32 (n : Nat)] 25)
    have N4 := Lib.hid (show BxE W1.heap.size t p n W4 by rw [← hW]; exact N3.out.keep hb4)
    have M4 := Lib.hid (show BxE W3.heap.size t p n W4 by rw [← hW]; exact BxE.new _ _ _ _ _)
    have HB4 := Lib.hid (show Below w.heap.size w W4 by rw [← hW]; exact Blw.alloc HB3.out _)
    clear hW hb4 N3 HB3
    obtain ⟨_, d0, d1, d2, _⟩ := N4.out
    obtain ⟨_, e0, e1, e2, _⟩ := M4.out
    go_wp2_with fail
    refine (eqEntry_c t p n W4 hp).mono ?_
    rintro e W5 ⟨rfl, hb5⟩
    have HB5 := Lib.hid (Blw.after HB4.out hb5)
    clear d0 d1 d2 e0 e1 e2 hb5 N4 M4 HB4
    go_wp2_with fail
    go_ret
    exact ⟨rfl, HB5.out⟩
namespace lawFnExactEntryRead
set_option maxRecDepth 100000 in
theorem lifted (os : Os) (started : os.Started) (H : Type) (enc : TypeId × Value → H) :
    ReturnsInHanded {} Tryz.checked os 3 .any (fun w args => (Rows.fnExactEntryReadSpec.pre enc Tryz.prog Tryz.f3 Rows.fnExactEntryReadRow.domain false w args ∧ laidMetH Tryz.prog Rows.fnExactEntryReadRow.laid w) ∧ sizedMet enc Tryz.prog Tryz.f3 (OpenSpec.ofChange Rows.fnExactEntryReadSpec) false w args)
      (Rows.fnExactEntryReadSpec.post enc Tryz.prog Tryz.f3 false true false false) := by
  refine handed_shaped (C := Tryz.checked) (X := fun w _ => laidMetH Tryz.prog Rows.fnExactEntryReadRow.laid w) (fun _ _ _ hh h => h.of_heap hh) own started (by kernel_rfl) Tryz.func3
    (ChangeSpec.witness_shaped (enc := enc) (C := Tryz.checked) (os := os) (X := fun w _ => laidMetH Tryz.prog Rows.fnExactEntryReadRow.laid w) false (World.laidAll Tryz.prog os Rows.fnExactEntryReadRow.laid) #[.string ⟨#[]⟩] 8 (World.laidAll_os _ _ _)
      (World.shaped_of_ZipB (by kernel_rfl) (by kernel_rfl)) (by kernel_rfl) (by kernel_rfl) (by kernel_rfl)
      (by rw [MakeChecks.laidMetH_plain _ _ _ (by kernel_rfl)]; exact laidMet_laidAll _ (by kernel_rfl) (by kernel_rfl))) ?_
  intro W base args ds gs before hval0 hW hc0 _ hSh hL _
  have hval : ∀ (j : Nat) t v, Tryz.f3.params[j]? = some t → args[j]? = some v → Value.okWide Tryz.prog W .any base t v := hval0
  have hW' := hW
  obtain ⟨p, q, hA0, hV, rfl, _, _⟩ := hW
  have hA : DataW.TrodAll enc Tryz.prog W 0 (fun _ => true) true Tryz.f3.params.toList args.toList ds p := hA0
  rw [Tryz.params3] at hA hval
  obtain ⟨v0, vs0, d0, ds0, p0, q0, hargs, rfl, rfl, h0, r0⟩ := trodAll_cons hA
  obtain ⟨rfl, rfl, rfl⟩ := trodAll_nil r0
  obtain rfl : args = #[v0] := by cases args; simp_all
  obtain ⟨rfl, rfl⟩ := trodVars_none hV
  obtain ⟨a0, rfl, rfl, rfl, wa0⟩ := Go.ChangeMaps.open_string Tryz.underlying9 (hval 0 9 v0 rfl rfl) h0
  clear hA0 hval0
  simp only [List.append_nil] at hW'
  have hGl : Gl W := gl_laid hSh (by rw [MakeChecks.laidMetH_plain _ _ _ (by kernel_rfl)] at hL; exact hL) (tz_second hL (fun _ => MakeChecks.laidMetH_plain _ _ _ (by kernel_rfl)))
  refine (exactEntryRead_c a0 W hGl).mono fun e W' ⟨he, hg⟩ => ?_
  subst he
  refine ⟨_, rfl, _, _, _, [], [], [], hW', ?_, ?_, ?_, hg.frame _, fun h => by cases h⟩
  · exact trodAll_cons_mk (shut_bool Tryz.underlying4 _) trodAll_mk0
  · exact (trodAll_cons_mk (Go.ChangeMaps.shut_string Tryz.underlying9 wa0) trodAll_mk0)
  · rfl

theorem holds : Rows.FnExactEntryReadSaid :=
  OpenClaim.holds_of_wide 3 Tryz.f3 rfl rfl rfl rfl rfl rfl rfl ⟨rfl, rfl, rfl, rfl, rfl⟩ rfl rfl rfl rfl rfl (by kernel_rfl) Tryz.func3 (by kernel_rfl)
    (of_decide_eq_true (by kernel_rfl)) (by unfold Func.isWrapper; first | (rw [if_pos (by decide +kernel)]; kernel_rfl) | (rw [if_neg (by decide +kernel)]; exact ⟨rfl, rfl⟩))
    (fun os started H enc _ => lifted os started H enc)
theorem proved : Rows.FnExactEntryReadCardSaid :=
  Claim7.holds_tied_plain_at .later [] [.data, .data, .data, .data, .sentinel, .sentinel, .pinned] true (true, "1594a7c42071ac8d442cb336fe8d31167a5872c0abf49a5a9fb02c2c80b7afd8") true holds (fun _ h => by cases h) (by kernel_rfl) (fun _ h => by cases h) fnExactEntryRead_row_tie rfl ⟨rfl, rfl⟩ (by kernel_rfl) rfl
    (fun f fn hf hfn => by
      obtain rfl : f = 3 := Option.some.inj ((show Tryz.prog.funcNamed "loop.example/dragonnumbers/laws.FnExactEntryRead" = some 3 by kernel_rfl).symm.trans hf) |>.symm
      obtain rfl : fn = Tryz.f3 := (Option.some.inj (Tryz.func3.symm.trans hfn)).symm
      exact ⟨by kernel_rfl, fun j t ht => by
        rw [Tryz.params3] at ht
        have hm : t ∈ [9] := by simpa using Array.mem_of_getElem? ht
        have hall : ([9].all fun u => !Tryz.prog.wantsStandIn u) = true := by kernel_rfl
        exact (show Tryz.prog.wantsStandIn t = false by simpa using List.all_eq_true.1 hall t hm)⟩)
    (by kernel_rfl)
end lawFnExactEntryRead
end Go.Proofs.YtmdnfamjdogogabGreatDoor

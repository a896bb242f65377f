/- FnDigitsTimes: whatever the code draws, the product of both sides is the same, it is the same for both exchanged where both are told, and its value is the product of both values; the listed variables are as the program's text lays them. -/
import Derived.Test.YtlcafjdinjdllaaDoorDVal3
import Derived.Test.YtlcafjdinjdllaaDoorDo
import Derived.Test.YtlcafjdinjdllaaDoorDrawX
import Derived.Test.YtlcafjdinjdllaaDoorTab
import Derived.Test.YtlcafjdinjdllaaDoorBaseP
import Derived.Test.YtlcafjdinjdllaaDoorTie
import Derived.Test.YtlcafjdinjdllaaDoorCards
import Derived.OpenShut
import Derived.LaidMore
import Derived.Lay
import Derived.SevenTiedAt
import Derived.Stop.Joined
import Derived.Stop.LaidErr
import Derived.ChangeVars
import Derived.ChangeStays
namespace Go.Proofs.YtlcafjdinjdllaaDoor
set_option linter.unusedSimpArgs false
set_option linter.unusedVariables false
open Go.ChangeShapes Go.WideShapes Go.ChangeAt Go.RowKit Go.Joins

set_option maxRecDepth 100000 in
set_option maxHeartbeats 8000000 in
theorem lawDigitsTimesP_c (a : Option Addr) (len cap : Nat) (w : World) (hc : len ≤ 1048576 → Code (.slice a len cap) w) (hT : Tab w) : Calls Tryd.prog 9 #[.slice a len cap] w fun e w' => e = .returned (.bool true) ∧ Below w.heap.size w w' := by
  have HT := Lib.hid hT
  have hpos := hT.1
  clear hT
  by_cases hl : 1048576 < len
  · go_enter Tryd.func9, Tryd.ntmps9
    go_wp2_with fail
    go_ret
    exact ⟨rfl, by (repeat' (first | assumption | exact Below.refl _ _ | apply Blw.alloc | apply Blw.drew | apply Blw.drewN | (refine Blw.after ?_ (by assumption)) | (refine Blw.set ?_ (by first | (dsimp only; omega) | (simp; done) | (simp; omega)) _)))⟩
  · have hc' := hc (by omega)
    clear hc
    go_enter Tryd.func9, Tryd.ntmps9
    go_wp2_with fail
    refine (drawDigitsTimes_c _ w hc').mono ?_
    rintro e W1 ⟨s, t, rfl, hs, ht, hb1⟩
    clear hc'
    have HT1 := Lib.hid (HT.out.keep hpos hb1)
    rcases times_cases s t with H1 | ⟨o, hvs, hvt, hvo, ox, oy, H1, -⟩
    · go_wp2_with fail
      refine (iDigitsTimes_c s t W1 HT1.out).mono ?_
      rintro e W2 ⟨rfl, hb2⟩
      rw [H1]
      go_wp2_with fail
      refine (sDigitsTimes_c s t W2).mono ?_
      rintro e W3 ⟨rfl, hb3⟩
      rw [H1]
      have hB3 := Blw.after (Blw.after hb1 hb2) hb3
      clear H1
      go_wp2_with fail
      go_ret
      exact ⟨rfl, hB3⟩
    · have H2 : timesV t s = .tuple #[.string ⟨#[]⟩, .bool false] ∨ timesV t s = .tuple #[.string o, .bool true] := by
        rcases times_cases t s with h | ⟨u, _, _, _, _, _, h, -⟩
        · exact Or.inl h
        · right; rw [h, times_comm H1 h]
      obtain ⟨p1, q1, b1, V1, T1, ⟨l1, l2⟩, l3, l4⟩ := val_form hvs
      obtain ⟨p2, q2, b2, V2, T2, ⟨l5, l6⟩, l7, l8⟩ := val_form hvt
      obtain ⟨p3, q3, b3, V3, T3, ⟨l9, l10⟩, l11, l12⟩ := val_form hvo
      have hS : b1 = true → b2 = true → b3 = true → p3 = p1 * p2 - q1 * q2 ∧ q3 = p1 * q2 + q1 * p2 := fun h1 h2 h3 => by
        obtain ⟨e1, e2⟩ := T1 h1
        obtain ⟨e3, e4⟩ := T2 h2
        obtain ⟨e5, e6⟩ := T3 h3
        rw [e1, e2, e3, e4, e5, e6]; exact ⟨ox, oy⟩
      obtain ⟨m1, m2⟩ := mul9 (x := p1) (y := p2) ⟨by omega, by omega⟩ ⟨by omega, by omega⟩
      obtain ⟨m3, m4⟩ := mul9 (x := q1) (y := q2) ⟨by omega, by omega⟩ ⟨by omega, by omega⟩
      obtain ⟨m5, m6⟩ := mul9 (x := p1) (y := q2) ⟨by omega, by omega⟩ ⟨by omega, by omega⟩
      obtain ⟨m7, m8⟩ := mul9 (x := q1) (y := p2) ⟨by omega, by omega⟩ ⟨by omega, by omega⟩
      rcases H2 with H2' | H2'
      all_goals
        have H2 := Lib.hid H2'
        clear H2'
        have C1 : ∀ w, Calls Tryd.prog 19 #[.string s] w fun e w' => e = .returned (.tuple #[pr p1 q1, .bool b1]) ∧ Below w.heap.size w w' := fun w => by
          have h := iDigitsValue_c s w; rwa [V1] at h
        have C2 : ∀ w, Calls Tryd.prog 19 #[.string t] w fun e w' => e = .returned (.tuple #[pr p2 q2, .bool b2]) ∧ Below w.heap.size w w' := fun w => by
          have h := iDigitsValue_c t w; rwa [V2] at h
        have C3 : ∀ w, Calls Tryd.prog 19 #[.string o] w fun e w' => e = .returned (.tuple #[pr p3 q3, .bool b3]) ∧ Below w.heap.size w w' := fun w => by
          have h := iDigitsValue_c o w; rwa [V3] at h
        clear V1 V2 V3 T1 T2 T3 ox oy hvs hvt hvo
        go_wp2_with fail
        refine (iDigitsTimes_c s t W1 HT1.out).mono ?_
        rintro e W2 ⟨rfl, hb2⟩
        rw [H1]
        go_wp2_with fail
        refine (sDigitsTimes_c s t W2).mono ?_
        rintro e W3 ⟨rfl, hb3⟩
        rw [H1]
        have hB3 := Blw.after (Blw.after hb1 hb2) hb3
        have HT3 := Lib.hid (HT.out.keep hpos hB3)
        clear H1
        go_wp2_with fail
        refine (iDigitsTimes_c t s W3 HT3.out).mono ?_
        rintro e W4 ⟨rfl, hb4⟩
        rw [H2.out]
        have hB4 := Blw.after hB3 hb4
        clear hb1 hb2 hb3 hb4 hB3
        go_wp2_with fail
        go_wp2_with (fail)
        refine (C1 _).mono ?_
        rintro e wA ⟨rfl, hbwA⟩
        have hkwA : Hld W4 wA := heldM (by (repeat' (first | assumption | exact Below.refl _ _ | apply Blw.alloc | apply Blw.drew | apply Blw.drewN | (refine Blw.after ?_ (by assumption)) | (refine Blw.set ?_ (by first | (dsimp only; omega) | (simp; done) | (simp; omega)) _))))
        have hlwA := hkwA.1
        have hswA := hkwA.2.2.2
        go_wp2_with fail
        generalize hW : World.alloc _ _ = Y1
        have kY1_1 : Y1.cell? ⟨wA.heap.size, 0, none⟩ = some (.int .i64 (p1)) := by rw [← hW]; clear hW; first | (go_simp; done) | ((repeat refine keepcell ((Below.refl _ _).alloc (Nat.le_refl _) _) ?_); go_simp; done) | (simp only [frozen?_alloc_cells]; go_simp; done)
        have kY1_2 : Y1.cell? ⟨wA.heap.size, 1, none⟩ = some (.int .i64 (q1)) := by rw [← hW]; clear hW; first | (go_simp; done) | ((repeat refine keepcell ((Below.refl _ _).alloc (Nat.le_refl _) _) ?_); go_simp; done) | (simp only [frozen?_alloc_cells]; go_simp; done)
        have : wA.heap.size < Y1.heap.size := World.block_lt_of_cell? Y1 ⟨wA.heap.size, 0, none⟩ (by assumption)
        have hBY1 : Below w.heap.size w Y1 := by rw [← hW]; (repeat' (first | assumption | exact Below.refl _ _ | apply Blw.alloc | apply Blw.drew | apply Blw.drewN | (refine Blw.after ?_ (by assumption)) | (refine Blw.set ?_ (by first | (dsimp only; omega) | (simp; done) | (simp; omega)) _)))
        have hsY1 := hBY1.size
        clear hW
        try clear hbwA; try clear hkwA; try clear hlwA
        go_wp2_with (fail)
        refine (C2 _).mono ?_
        rintro e wB ⟨rfl, hbwB⟩
        have hkwB : Hld Y1 wB := heldM (by (repeat' (first | assumption | exact Below.refl _ _ | apply Blw.alloc | apply Blw.drew | apply Blw.drewN | (refine Blw.after ?_ (by assumption)) | (refine Blw.set ?_ (by first | (dsimp only; omega) | (simp; done) | (simp; omega)) _))))
        have hlwB := hkwB.1
        have hswB := hkwB.2.2.2
        try (have : wA.heap.size < wB.heap.size := by omega)
        go_wp2_with fail
        generalize hW : World.alloc _ _ = Y2
        have kY2_3 : Y2.cell? ⟨wA.heap.size, 0, none⟩ = some (.int .i64 (p1)) := by rw [← hW]; clear hW; first | (go_simp; done) | ((repeat refine keepcell ((Below.refl _ _).alloc (Nat.le_refl _) _) ?_); go_simp; done) | (simp only [frozen?_alloc_cells]; go_simp; done)
        have kY2_4 : Y2.cell? ⟨wA.heap.size, 1, none⟩ = some (.int .i64 (q1)) := by rw [← hW]; clear hW; first | (go_simp; done) | ((repeat refine keepcell ((Below.refl _ _).alloc (Nat.le_refl _) _) ?_); go_simp; done) | (simp only [frozen?_alloc_cells]; go_simp; done)
        have : wA.heap.size < Y2.heap.size := World.block_lt_of_cell? Y2 ⟨wA.heap.size, 0, none⟩ (by assumption)
        have kY2_5 : Y2.cell? ⟨wB.heap.size, 0, none⟩ = some (.int .i64 (p2)) := by rw [← hW]; clear hW; first | (go_simp; done) | ((repeat refine keepcell ((Below.refl _ _).alloc (Nat.le_refl _) _) ?_); go_simp; done) | (simp only [frozen?_alloc_cells]; go_simp; done)
        have kY2_6 : Y2.cell? ⟨wB.heap.size, 1, none⟩ = some (.int .i64 (q2)) := by rw [← hW]; clear hW; first | (go_simp; done) | ((repeat refine keepcell ((Below.refl _ _).alloc (Nat.le_refl _) _) ?_); go_simp; done) | (simp only [frozen?_alloc_cells]; go_simp; done)
        have : wB.heap.size < Y2.heap.size := World.block_lt_of_cell? Y2 ⟨wB.heap.size, 0, none⟩ (by assumption)
        have hBY2 : Below w.heap.size w Y2 := by rw [← hW]; (repeat' (first | assumption | exact Below.refl _ _ | apply Blw.alloc | apply Blw.drew | apply Blw.drewN | (refine Blw.after ?_ (by assumption)) | (refine Blw.set ?_ (by first | (dsimp only; omega) | (simp; done) | (simp; omega)) _)))
        have hsY2 := hBY2.size
        clear hW
        try clear kY1_1; try clear kY1_2; try clear hbwB; try clear hkwB; try clear hlwB
        go_wp2_with (fail)
        refine (C3 _).mono ?_
        rintro e wC ⟨rfl, hbwC⟩
        have hkwC : Hld Y2 wC := heldM (by (repeat' (first | assumption | exact Below.refl _ _ | apply Blw.alloc | apply Blw.drew | apply Blw.drewN | (refine Blw.after ?_ (by assumption)) | (refine Blw.set ?_ (by first | (dsimp only; omega) | (simp; done) | (simp; omega)) _))))
        have hlwC := hkwC.1
        have hswC := hkwC.2.2.2
        try (have : wA.heap.size < wC.heap.size := by omega)
        try (have : wB.heap.size < wC.heap.size := by omega)
        go_wp2_with fail
        generalize hW : World.alloc _ _ = Y3
        have kY3_7 : Y3.cell? ⟨wA.heap.size, 0, none⟩ = some (.int .i64 (p1)) := by rw [← hW]; clear hW; first | (go_simp; done) | ((repeat refine keepcell ((Below.refl _ _).alloc (Nat.le_refl _) _) ?_); go_simp; done) | (simp only [frozen?_alloc_cells]; go_simp; done)
        have kY3_8 : Y3.cell? ⟨wA.heap.size, 1, none⟩ = some (.int .i64 (q1)) := by rw [← hW]; clear hW; first | (go_simp; done) | ((repeat refine keepcell ((Below.refl _ _).alloc (Nat.le_refl _) _) ?_); go_simp; done) | (simp only [frozen?_alloc_cells]; go_simp; done)
        have : wA.heap.size < Y3.heap.size := World.block_lt_of_cell? Y3 ⟨wA.heap.size, 0, none⟩ (by assumption)
        have kY3_9 : Y3.cell? ⟨wB.heap.size, 0, none⟩ = some (.int .i64 (p2)) := by rw [← hW]; clear hW; first | (go_simp; done) | ((repeat refine keepcell ((Below.refl _ _).alloc (Nat.le_refl _) _) ?_); go_simp; done) | (simp only [frozen?_alloc_cells]; go_simp; done)
        have kY3_10 : Y3.cell? ⟨wB.heap.size, 1, none⟩ = some (.int .i64 (q2)) := by rw [← hW]; clear hW; first | (go_simp; done) | ((repeat refine keepcell ((Below.refl _ _).alloc (Nat.le_refl _) _) ?_); go_simp; done) | (simp only [frozen?_alloc_cells]; go_simp; done)
        have : wB.heap.size < Y3.heap.size := World.block_lt_of_cell? Y3 ⟨wB.heap.size, 0, none⟩ (by assumption)
        have kY3_11 : Y3.cell? ⟨wC.heap.size, 0, none⟩ = some (.int .i64 (p3)) := by rw [← hW]; clear hW; first | (go_simp; done) | ((repeat refine keepcell ((Below.refl _ _).alloc (Nat.le_refl _) _) ?_); go_simp; done) | (simp only [frozen?_alloc_cells]; go_simp; done)
        have kY3_12 : Y3.cell? ⟨wC.heap.size, 1, none⟩ = some (.int .i64 (q3)) := by rw [← hW]; clear hW; first | (go_simp; done) | ((repeat refine keepcell ((Below.refl _ _).alloc (Nat.le_refl _) _) ?_); go_simp; done) | (simp only [frozen?_alloc_cells]; go_simp; done)
        have : wC.heap.size < Y3.heap.size := World.block_lt_of_cell? Y3 ⟨wC.heap.size, 0, none⟩ (by assumption)
        have hBY3 : Below w.heap.size w Y3 := by rw [← hW]; (repeat' (first | assumption | exact Below.refl _ _ | apply Blw.alloc | apply Blw.drew | apply Blw.drewN | (refine Blw.after ?_ (by assumption)) | (refine Blw.set ?_ (by first | (dsimp only; omega) | (simp; done) | (simp; omega)) _)))
        have hsY3 := hBY3.size
        clear hW
        try clear kY2_3; try clear kY2_4; try clear kY2_5; try clear kY2_6; try clear hbwC; try clear hkwC; try clear hlwC
        cases b1 <;> cases b2 <;> cases b3
        all_goals
          first
          | obtain ⟨rfl, rfl⟩ := hS rfl rfl rfl
          | skip
          clear hS
          go_wp2_with fail
          go_ret
          exact ⟨rfl, by (repeat' (first | assumption | exact Below.refl _ _ | apply Blw.alloc | apply Blw.drew | apply Blw.drewN | (refine Blw.after ?_ (by assumption)) | (refine Blw.set ?_ (by first | (dsimp only; omega) | (simp; done) | (simp; omega)) _)))⟩

namespace lawFnDigitsTimes
set_option maxRecDepth 100000 in
theorem lifted (os : Os) (started : os.Started) (H : Type) (enc : TypeId × Value → H) :
    ReturnsInHanded {} Tryd.checked os 9 .any (fun w args => (Rows.fnDigitsTimesSpec.pre enc Tryd.prog Tryd.f9 Rows.fnDigitsTimesRow.domain false w args ∧ laidMetH Tryd.prog Rows.fnDigitsTimesRow.laid w) ∧ sizedMet enc Tryd.prog Tryd.f9 (OpenSpec.ofChange Rows.fnDigitsTimesSpec) false w args)
      (Rows.fnDigitsTimesSpec.post enc Tryd.prog Tryd.f9 false true false false) := by
  refine returnsInHanded_of_change_and (C := Tryd.checked) (X := fun w _ => laidMetH Tryd.prog Rows.fnDigitsTimesRow.laid w) (fun _ _ _ hh h => h.of_heap hh) own started (by kernel_rfl) Tryd.func9
    (ChangeSpec.witness_shaped (enc := enc) (C := Tryd.checked) (os := os) (X := fun w _ => laidMetH Tryd.prog Rows.fnDigitsTimesRow.laid w) false (World.laidAll Tryd.prog os Rows.fnDigitsTimesRow.laid) #[.slice none 0 0] 8 (World.laidAll_os _ _ _)
      (World.shaped_of_ZipB (by kernel_rfl) (by kernel_rfl)) (by kernel_rfl) (by kernel_rfl) (by kernel_rfl)
      (by rw [MakeChecks.laidMetH_plain _ _ _ (by kernel_rfl)]; exact laidMet_laidAll _ (by kernel_rfl) (by kernel_rfl))) ?_
  intro W base args ds gs before hval0 hW hc0 _ hL _
  have hval : ∀ (j : Nat) t v, Tryd.f9.params[j]? = some t → args[j]? = some v → Value.okWide Tryd.prog W .any base t v := hval0
  have hW' := hW
  obtain ⟨p, q, hA0, hV, rfl, _, _⟩ := hW
  have hA : DataW.TrodAll enc Tryd.prog W 0 (fun _ => true) true Tryd.f9.params.toList args.toList ds p := hA0
  rw [Tryd.params9] at hA hval
  obtain ⟨v0, vs0, d0, ds0, p0, q0, hargs, rfl, rfl, h0, r0⟩ := trodAll_cons hA
  obtain ⟨rfl, rfl, rfl⟩ := trodAll_nil r0
  obtain rfl : args = #[v0] := by cases args; simp_all
  obtain ⟨gG, tG, csG, fuelG, dG, pG, rfl, hgG, htG, hvG, hdG, rfl⟩ := trodVars_one hV
  obtain ⟨a, len, cap, rfl⟩ := okWide_slice Tryd.underlying22 (hval 0 22 v0 rfl rfl)
  clear hA0 hval0
  simp only [List.append_nil] at hW'
  have hlt : ∀ x ∈ p0, x.block < W.heap.size := fun x hx => hW'.lt x (by simp [hx])
  have hltG : ∀ x ∈ pG, x.block < W.heap.size := fun x hx => hW'.lt x (by simp [hx])
  have hTab : Tab W := tab_second hL (fun _ => MakeChecks.laidMetH_plain _ _ _ (by kernel_rfl))
  refine (lawDigitsTimesP_c a len cap W (code_of h0) hTab).mono fun e W' ⟨he, hg⟩ => ?_
  subst he
  have harg := Below.trod laidOut (by kernel_rfl) (of_decide_eq_true (by kernel_rfl)) h0 hg hlt
  refine ⟨_, rfl, _, _, _, [], p0, MemPlace.row ⟨gG, 0, none⟩ csG.size ++ pG, hW', ?_, ?_, ?_, hg.frame _, fun h => by cases h⟩
  · exact trodAll_cons_mk (shut_bool Tryd.underlying4 _) trodAll_mk0
  · exact trodAll_mk1 harg
  · exact vars_shut hgG htG hvG hdG hltG hTab hg

theorem holds : Rows.FnDigitsTimesSaid :=
  OpenClaim.holds_of_wide 9 Tryd.f9 rfl rfl rfl rfl rfl rfl rfl ⟨rfl, rfl, rfl, rfl, rfl⟩ rfl rfl rfl rfl rfl (by kernel_rfl) Tryd.func9 (by kernel_rfl)
    (of_decide_eq_true (by kernel_rfl)) (by unfold Func.isWrapper; first | (rw [if_pos (by decide +kernel)]; kernel_rfl) | (rw [if_neg (by decide +kernel)]; exact ⟨rfl, rfl⟩))
    (fun os started H enc _ => lifted os started H enc)
theorem proved : Rows.FnDigitsTimesCardSaid :=
  Claim7.holds_tied_plain_at .later [] [.data, .data, .pinned] true (true, "ae5a7e1e5273026bef1a235bdfcbe898f8817563e717396bf1d72361ce9333b6") false holds (fun _ h => by cases h) (by kernel_rfl) (fun _ h => by cases h) fnDigitsTimes_row_tie rfl ⟨rfl, rfl⟩ (by kernel_rfl) rfl
    (fun f fn hf hfn => by
      obtain rfl : f = 9 := Option.some.inj ((show Tryd.prog.funcNamed "loop.example/dragonnumbers/laws.FnDigitsTimes" = some 9 by kernel_rfl).symm.trans hf) |>.symm
      obtain rfl : fn = Tryd.f9 := (Option.some.inj (Tryd.func9.symm.trans hfn)).symm
      exact ⟨by kernel_rfl, fun j t ht => by
        rw [Tryd.params9] at ht
        have hm : t ∈ [22] := by simpa using Array.mem_of_getElem? ht
        have hall : ([22].all fun u => !Tryd.prog.wantsStandIn u) = true := by kernel_rfl
        exact (show Tryd.prog.wantsStandIn t = false by simpa using List.all_eq_true.1 hall t hm)⟩)
    (by kernel_rfl)
end lawFnDigitsTimes
end Go.Proofs.YtlcafjdinjdllaaDoor

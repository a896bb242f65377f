/- FnExactDigitsCarries: for every two texts, the program's carries and their flag are the model's, in memory of their own; the listed variables are as the program's text lays them. -/
import Derived.Test.YtlcafjdinjdllabDoorDq
import Derived.Test.YtlcafjdinjdllabDoorTab
import Derived.Test.YtlcafjdinjdllabDoorBaseD
namespace Go.Proofs.YtlcafjdinjdllabDoor
set_option linter.unusedSimpArgs false
set_option linter.unusedVariables false
open Go.ChangeShapes Go.WideShapes Go.ChangeAt Go.RowKit Go.Joins

theorem GSl.grown {a : Option Addr} {l : List (Int × Int)} {w w' : World} {g : Nat} (h : GSl a l w) (hg : w.grownBy w' (some g)) (hne : l = [] ∨ ∃ g0, a = some ⟨g0, 0, none⟩ ∧ g0 ≠ g) : GSl a l w' := by
  rcases hne with h0 | ⟨g0, rfl, hn⟩
  · exact Or.inl h0
  refine h.imp id ?_
  rintro ⟨g1, he, hc⟩
  simp only [Option.some.injEq, Addr.mk.injEq, and_true] at he
  subst he
  exact ⟨g0, rfl, fun k x y hk => ⟨hg.cell (hc k x y hk).1 (by simpa using hn), hg.cell (hc k x y hk).2 (by simpa using hn)⟩⟩
theorem Marked.keep {g n : Nat} {w w' : World} (h : Marked g n w) (hb : Below w.heap.size w w') : Marked g n w' := fun j hj => keepcell hb (h j hj)
theorem open_of {g n : Nat} {l : List (Int × Int)} {w : World} (h : GSl (some ⟨g, 0, none⟩) l w) (hf : ∀ j, w.frozen? ⟨g, j, none⟩ = false) (hn : l.length = n) (hl : l ≠ []) : Open g (n * 2) w := by
  intro j hj
  refine ⟨?_, hf j⟩
  rcases h with h0 | ⟨g', he, hc⟩
  · exact absurd h0 hl
  simp only [Option.some.injEq, Addr.mk.injEq, and_true] at he
  subst he
  have hk : j / 2 < l.length := by omega
  have := hc (j / 2) _ _ (List.getElem?_eq_getElem hk)
  rcases Nat.mod_two_eq_zero_or_one j with h2 | h2
  · exact ⟨_, by rw [show j = j / 2 * 2 by omega]; exact this.1⟩
  · exact ⟨_, by rw [show j = j / 2 * 2 + 1 by omega]; exact this.2⟩
theorem froz_keep {w w' : World} {g : Nat} (hg : g < w.heap.size) (hf : ∀ j, w.frozen? ⟨g, j, none⟩ = false) (hb : Below w.heap.size w w') : ∀ j, w'.frozen? ⟨g, j, none⟩ = false := fun j => ((bcell hb).2 _ _ hg).trans (hf j)
/-- the mark on a slice, none or some -/
theorem mark_c (a : Option Addr) (c : Nat) (l : List (Int × Int)) (w : World) (B : Nat) (hn : l.length ≤ 1000) (h : GSl a l w) (ho : l = [] ∨ ∃ g, a = some ⟨g, 0, none⟩ ∧ B ≤ g ∧ g < w.heap.size ∧ ∀ j, w.frozen? ⟨g, j, none⟩ = false) :
    Calls Tryd.prog 20 #[.slice a l.length c, .int .i64 1] w fun e w' => e = .returned (.int .i64 (l.length * 2 + 1 : Nat)) ∧ (l = [] ∨ ∃ g, a = some ⟨g, 0, none⟩ ∧ Marked g (l.length * 2) w') ∧ ∃ g, B ≤ g ∧ w.grownBy w' (some g) ∧ (l = [] ∨ a = some ⟨g, 0, none⟩) := by
  by_cases hl : l = []
  · subst hl
    refine (mark_none a c w).mono ?_
    rintro e w' ⟨rfl, rfl⟩
    exact ⟨rfl, Or.inl rfl, B, Nat.le_refl _, ⟨rfl, rfl, rfl, Nat.le_refl _, fun _ _ _ => rfl⟩, Or.inl rfl⟩
  · obtain ⟨g, rfl, hg, hgw, hf⟩ := ho.resolve_left hl
    refine (markGaussS_c g l.length c w hn (open_of h hf rfl hl)).mono ?_
    rintro e w' ⟨rfl, hm, hgr⟩
    exact ⟨rfl, Or.inr ⟨g, rfl, hm⟩, g, hg, hgr, Or.inr rfl⟩
theorem carL_len (a b : ByteArray) (ok : Bool) (h : ok = true → vldB a = true ∧ vldB b = true) : (carL a b ok).length ≤ 1000 := by
  unfold carL
  split
  · have := steps_le (h ‹_›).1 (h ‹_›).2; rw [carA_len]; omega
  · simp

set_option maxRecDepth 100000 in
set_option maxHeartbeats 4000000 in
theorem lawDigitsCarries_c (a b : ByteArray) (w : World) (hT : Tab w) : Calls Tryd.prog 5 #[.string a, .string b] w fun e w' => e = .returned (.bool true) ∧ Below w.heap.size w w' := by
  have HT := Lib.hid hT
  have hpos := hT.1
  clear hT
  by_cases hla : 1048576 < a.size
  · go_enter Tryd.func5, Tryd.ntmps5
    go_wp2_with fail
    go_ret
    exact ⟨rfl, by (repeat' (first | assumption | exact Below.refl _ _ | apply Blw.alloc | apply Blw.drew | apply Blw.drewN | (refine Blw.after ?_ (by assumption)) | (refine Blw.set ?_ (by first | (dsimp only; omega) | (simp; done) | (simp; omega)) _)))⟩
  · by_cases hlb : 1048576 < b.size
    · go_enter Tryd.func5, Tryd.ntmps5
      go_wp2_with fail
      go_ret
      exact ⟨rfl, by (repeat' (first | assumption | exact Below.refl _ _ | apply Blw.alloc | apply Blw.drew | apply Blw.drewN | (refine Blw.after ?_ (by assumption)) | (refine Blw.set ?_ (by first | (dsimp only; omega) | (simp; done) | (simp; omega)) _)))⟩
    · go_enter Tryd.func5, Tryd.ntmps5
      go_wp2_with fail
      refine (sDigitsCarries_c a b w).mono ?_
      rintro e w1 ⟨v0, s0, ok, rfl, hs0, ho0, hb1⟩
      have HV := Lib.hid hs0
      have HB1 := Lib.hid hb1
      have hN := carL_len a b ok (by rintro rfl; exact addV_ok HV.out)
      obtain ⟨a0, c0, rfl, hg0, hf0⟩ := own_slice ho0 rfl
      have HG0 := Lib.hid hg0
      have HF0 := Lib.hid hf0
      have HT1 := Lib.hid (HT.out.keep hpos hb1)
      clear hs0 hb1 ho0 hg0 hf0
      go_wp2_with fail
      refine (iDigitsCarries_c a b w1 HT1.out).mono ?_
      rintro e w2 ⟨v1, s1, ok1, rfl, hs1, ho1, hb2⟩
      obtain ⟨rfl, rfl⟩ : s0 = s1 ∧ ok = ok1 := by have := HV.out.symm.trans hs1; simpa using this
      obtain ⟨a1, c1, rfl, hg1, hf1⟩ := own_slice ho1 rfl
      have HG1 := Lib.hid hg1
      have HF1 := Lib.hid hf1
      have HB2 := Lib.hid hb2
      have HG02 := Lib.hid (HG0.out.keep hb2)
      clear hs1 ho1 hg1 hf1 hb2
      generalize hL : carL a b ok = L at *
      have HL := Lib.hid hL
      clear hL
      go_wp2_with fail
      refine (eqGaussS_c a1 a0 c1 c0 L w2 hN HG1.out HG02.out).mono ?_
      rintro e w3 ⟨rfl, hb3⟩
      have HG13 := Lib.hid (HG1.out.keep hb3)
      have HG03 := Lib.hid (HG02.out.keep hb3)
      have HF13 := Lib.hid (show L = [] ∨ ∃ g, a1 = some ⟨g, 0, none⟩ ∧ w1.heap.size ≤ g ∧ g < w3.heap.size ∧ ∀ j, w3.frozen? ⟨g, j, none⟩ = false from HF1.out.imp id fun ⟨g, e1, e2, e3, e4⟩ => ⟨g, e1, e2, Nat.lt_of_lt_of_le e3 hb3.size, froz_keep e3 e4 hb3⟩)
      have HB3 := Lib.hid (show Below w.heap.size w w3 from (HB1.out.trans (HB2.out.mono HB1.out.size)).trans (hb3.mono (Nat.le_trans HB1.out.size HB2.out.size)))
      have hs13 : w1.heap.size ≤ w3.heap.size := Nat.le_trans HB2.out.size hb3.size
      clear hb3
      go_wp2_with fail
      refine (mark_c a1 c1 L w3 w1.heap.size hN HG13.out HF13.out).mono ?_
      rintro e w4 ⟨rfl, hm, g, hgB, hgr, hga⟩
      have HM := Lib.hid hm
      have HB4 := Lib.hid (show Below w.heap.size w w4 from Below.grown HB3.out hgr HB3.out.size (fun k hk => by cases hk; exact Nat.le_trans HB1.out.size hgB))
      have HG04 := Lib.hid (HG03.out.grown hgr (HF0.out.imp id fun ⟨g0, e1, e2, e3, e4⟩ => ⟨g0, e1, by omega⟩))
      have HT4 := Lib.hid (HT.out.keep hpos HB4.out)
      clear hm hgr hga
      go_wp2_with fail
      refine (heldGaussS_c a1 L.length c1 w4 hN (HM.out.imp (fun h => by rw [h]; rfl) id)).mono ?_
      rintro e w4' ⟨rfl, rfl⟩
      go_wp2_with fail
      refine (iDigitsCarries_c a b w4 HT4.out).mono ?_
      rintro e w5 ⟨v2, s2, ok2, rfl, hs2, ho2, hb5⟩
      obtain ⟨rfl, rfl⟩ : s0 = s2 ∧ ok = ok2 := by have := HV.out.symm.trans hs2; simpa using this
      rw [HL.out] at ho2
      obtain ⟨a2, c2, rfl, hg2, hf2⟩ := own_slice ho2 rfl
      have HG2 := Lib.hid hg2
      have HG05 := Lib.hid (HG04.out.keep hb5)
      have HM5 := Lib.hid (show L = [] ∨ ∃ g, a1 = some ⟨g, 0, none⟩ ∧ Marked g (L.length * 2) w5 from HM.out.imp id fun ⟨g, e1, e2⟩ => ⟨g, e1, Marked.keep e2 hb5⟩)
      have HB5 := Lib.hid (HB4.out.trans (hb5.mono HB4.out.size))
      clear hs2 ho2 hg2 hf2 hb5
      go_wp2_with fail
      refine (eqGaussS_c a2 a0 c2 c0 L w5 hN HG2.out HG05.out).mono ?_
      rintro e w6 ⟨rfl, hb6⟩
      have HM6 := Lib.hid (show L = [] ∨ ∃ g, a1 = some ⟨g, 0, none⟩ ∧ Marked g (L.length * 2) w6 from HM5.out.imp id fun ⟨g, e1, e2⟩ => ⟨g, e1, Marked.keep e2 hb6⟩)
      have HB6 := Lib.hid (HB5.out.trans (hb6.mono HB5.out.size))
      clear hb6
      go_wp2_with fail
      refine (heldGaussS_c a1 L.length c1 w6 hN (HM6.out.imp (fun h => by rw [h]; rfl) id)).mono ?_
      rintro e w7 ⟨rfl, rfl⟩
      go_wp2_with fail
      go_ret
      exact ⟨rfl, HB6.out⟩

namespace lawFnExactDigitsCarries
set_option maxRecDepth 100000 in
theorem lifted (os : Os) (started : os.Started) (H : Type) (enc : TypeId × Value → H) :
    ReturnsInHanded {} Tryd.checked os 5 .any (fun w args => (Rows.fnExactDigitsCarriesSpec.pre enc Tryd.prog Tryd.f5 Rows.fnExactDigitsCarriesRow.domain false w args ∧ laidMetH Tryd.prog Rows.fnExactDigitsCarriesRow.laid w) ∧ sizedMet enc Tryd.prog Tryd.f5 (OpenSpec.ofChange Rows.fnExactDigitsCarriesSpec) false w args)
      (Rows.fnExactDigitsCarriesSpec.post enc Tryd.prog Tryd.f5 false true false false) := by
  refine returnsInHanded_of_change_and (C := Tryd.checked) (X := fun w _ => laidMetH Tryd.prog Rows.fnExactDigitsCarriesRow.laid w) (fun _ _ _ hh h => h.of_heap hh) own started (by kernel_rfl) Tryd.func5
    (ChangeSpec.witness_shaped (enc := enc) (C := Tryd.checked) (os := os) (X := fun w _ => laidMetH Tryd.prog Rows.fnExactDigitsCarriesRow.laid w) false (World.laidAll Tryd.prog os Rows.fnExactDigitsCarriesRow.laid) #[.string ⟨#[]⟩, .string ⟨#[]⟩] 8 (World.laidAll_os _ _ _)
      (World.shaped_of_ZipB (by kernel_rfl) (by kernel_rfl)) (by kernel_rfl) (by kernel_rfl) (by kernel_rfl)
      (by rw [MakeChecks.laidMetH_plain _ _ _ (by kernel_rfl)]; exact laidMet_laidAll _ (by kernel_rfl) (by kernel_rfl))) ?_
  intro W base args ds gs before hval0 hW hc0 _ hL _
  have hval : ∀ (j : Nat) t v, Tryd.f5.params[j]? = some t → args[j]? = some v → Value.okWide Tryd.prog W .any base t v := hval0
  have hW' := hW
  obtain ⟨p, q, hA0, hV, rfl, _, _⟩ := hW
  have hA : DataW.TrodAll enc Tryd.prog W 0 (fun _ => true) true Tryd.f5.params.toList args.toList ds p := hA0
  rw [Tryd.params5] at hA hval
  obtain ⟨v0, vs0, d0, ds0, p0, q0, hargs, rfl, rfl, h0, r0⟩ := trodAll_cons hA
  obtain ⟨v1, vs1, d1, ds1, p1, q1, rfl, rfl, rfl, h1, r1⟩ := trodAll_cons r0
  obtain ⟨rfl, rfl, rfl⟩ := trodAll_nil r1
  obtain rfl : args = #[v0, v1] := by cases args; simp_all
  obtain ⟨gG, tG, csG, fuelG, dG, pG, rfl, hgG, htG, hvG, hdG, rfl⟩ := trodVars_one hV
  obtain ⟨a0, rfl, rfl, rfl, wa0⟩ := Go.ChangeMaps.open_string Tryd.underlying9 (hval 0 9 v0 rfl rfl) h0
  obtain ⟨a1, rfl, rfl, rfl, wa1⟩ := Go.ChangeMaps.open_string Tryd.underlying9 (hval 1 9 v1 rfl rfl) h1
  clear hA0 hval0
  simp only [List.append_nil] at hW'
  have hltG : ∀ x ∈ pG, x.block < W.heap.size := fun x hx => hW'.lt x (by simp [hx])
  have hTab : Tab W := tab_second hL (fun _ => MakeChecks.laidMetH_plain _ _ _ (by kernel_rfl))
  refine (lawDigitsCarries_c a0 a1 W hTab).mono fun e W' ⟨he, hg⟩ => ?_
  subst he
  refine ⟨_, rfl, _, _, _, [], [], MemPlace.row ⟨gG, 0, none⟩ csG.size ++ pG, hW', ?_, ?_, ?_, hg.frame _, fun h => by cases h⟩
  · exact trodAll_cons_mk (shut_bool Tryd.underlying4 _) trodAll_mk0
  · exact (trodAll_cons_mk (Go.ChangeMaps.shut_string Tryd.underlying9 wa0) (trodAll_cons_mk (Go.ChangeMaps.shut_string Tryd.underlying9 wa1) trodAll_mk0))
  · exact vars_shut hgG htG hvG hdG hltG hTab hg

theorem holds : Rows.FnExactDigitsCarriesSaid :=
  OpenClaim.holds_of_wide 5 Tryd.f5 rfl rfl rfl rfl rfl rfl rfl ⟨rfl, rfl, rfl, rfl, rfl⟩ rfl rfl rfl rfl rfl (by kernel_rfl) Tryd.func5 (by kernel_rfl)
    (of_decide_eq_true (by kernel_rfl)) (by unfold Func.isWrapper; first | (rw [if_pos (by decide +kernel)]; kernel_rfl) | (rw [if_neg (by decide +kernel)]; exact ⟨rfl, rfl⟩))
    (fun os started H enc _ => lifted os started H enc)
theorem proved : Rows.FnExactDigitsCarriesCardSaid :=
  Claim7.holds_tied_plain_at .later [] [.data, .data, .pinned] true (true, "aeb0fa9aca182e173f9b3572f9ace8bbeba5290dd6529958d3bc587160e0ede2") false holds (fun _ h => by cases h) (by kernel_rfl) (fun _ h => by cases h) fnExactDigitsCarries_row_tie rfl ⟨rfl, rfl⟩ (by kernel_rfl) rfl
    (fun f fn hf hfn => by
      obtain rfl : f = 5 := Option.some.inj ((show Tryd.prog.funcNamed "loop.example/dragonnumbers/laws.FnExactDigitsCarries" = some 5 by kernel_rfl).symm.trans hf) |>.symm
      obtain rfl : fn = Tryd.f5 := (Option.some.inj (Tryd.func5.symm.trans hfn)).symm
      exact ⟨by kernel_rfl, fun j t ht => by
        rw [Tryd.params5] at ht
        have hm : t ∈ [9, 9] := by simpa using Array.mem_of_getElem? ht
        have hall : ([9, 9].all fun u => !Tryd.prog.wantsStandIn u) = true := by kernel_rfl
        exact (show Tryd.prog.wantsStandIn t = false by simpa using List.all_eq_true.1 hall t hm)⟩)
    (by kernel_rfl)
end lawFnExactDigitsCarries
end Go.Proofs.YtlcafjdinjdllabDoor

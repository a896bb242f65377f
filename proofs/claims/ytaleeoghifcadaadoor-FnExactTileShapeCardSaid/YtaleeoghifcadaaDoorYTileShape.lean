/- FnExactTileShape: for every level, the program's TileShape is the model's, in memory of its own; the listed variables are as the program's text lays them. -/
import Derived.Test.YtaleeoghifcadaaDoorZ6
namespace Go.Proofs.YtaleeoghifcadaaDoor
set_option linter.unusedSimpArgs false
set_option linter.unusedVariables false
open Go.ChangeShapes Go.WideShapes Go.ChangeAt Go.RowKit Go.Joins

theorem shpA_len (a : Int) : (shpA a).length ≤ 800 := by
  unfold shpA
  split
  · rename_i h
    have h1 := inR_le h
    obtain ⟨x1, x2, x3, x4, x5, x6, x7, x8⟩ := box8 a.toNat (by simp; omega)
    rw [shpT_len]
    unfold heiT
    omega
  · simp
theorem SSl.grown {a : Option Addr} {l : List ByteArray} {w w' : World} {g : Nat} (h : SSl a l w) (hg : w.grownBy w' (some g)) (hne : l = [] ∨ ∃ g0, a = some ⟨g0, 0, none⟩ ∧ g0 ≠ g) : SSl a l w' := by
  rcases hne with h0 | ⟨g0, rfl, hn⟩
  · exact Or.inl h0
  refine h.imp id ?_
  rintro ⟨g1, he, hc⟩
  simp only [Option.some.injEq, Addr.mk.injEq, and_true] at he
  subst he
  exact ⟨g0, rfl, fun k s hk => hg.cell (hc k s hk) (by simpa using hn)⟩
theorem froz_keepS {w w' : World} {g : Nat} (hg : g < w.heap.size) (hf : ∀ j, w.frozen? ⟨g, j, none⟩ = false) (hb : Below w.heap.size w w') : ∀ j, w'.frozen? ⟨g, j, none⟩ = false := fun j => ((bcell hb).2 _ _ hg).trans (hf j)
theorem markT_c (a : Option Addr) (c : Nat) (l : List ByteArray) (w : World) (B : Nat) (hn : l.length ≤ 800) (h : SSl a l w) (ho : l = [] ∨ ∃ g, a = some ⟨g, 0, none⟩ ∧ B ≤ g ∧ g < w.heap.size ∧ ∀ j, w.frozen? ⟨g, j, none⟩ = false) :
    Calls Tryd.prog 42 #[.slice a l.length c, .int .i64 1] w fun e w' => e = .returned (.int .i64 (l.length + 1 : Nat)) ∧ (l = [] ∨ ∃ g, a = some ⟨g, 0, none⟩ ∧ MarkS g l.length w') ∧ ∃ g, B ≤ g ∧ w.grownBy w' (some g) ∧ (l = [] ∨ a = some ⟨g, 0, none⟩) := by
  by_cases hl : l = []
  · subst hl
    refine (markS_none a c w).mono ?_
    rintro e w' ⟨rfl, rfl⟩
    exact ⟨rfl, Or.inl rfl, B, Nat.le_refl _, ⟨rfl, rfl, rfl, Nat.le_refl _, fun _ _ _ => rfl⟩, Or.inl rfl⟩
  · obtain ⟨g, rfl, hg, hgw, hf⟩ := ho.resolve_left hl
    obtain ⟨g', he, hc⟩ := h.resolve_left hl
    simp only [Option.some.injEq, Addr.mk.injEq, and_true] at he
    subst he
    refine (markStringS_c g l.length c w hn (fun j hj => ⟨⟨_, hc j l[j] (List.getElem?_eq_getElem hj)⟩, hf j⟩) (Or.inr hgw)).mono ?_
    rintro e w' ⟨rfl, hm, hgr⟩
    exact ⟨rfl, Or.inr ⟨g, rfl, hm⟩, g, hg, hgr, Or.inr rfl⟩
set_option maxRecDepth 100000 in
set_option maxHeartbeats 4000000 in
theorem lawTileShape_c (a : Int) (w : World) (hT : Two w) : Calls Tryd.prog 13 #[.int .i64 a] w fun e w' => e = .returned (.bool true) ∧ Below w.heap.size w w' := by
  have HT := Lib.hid hT
  have hpos := hT.pos
  have hN := shpA_len a
  have hN2 : (shpA a).length ≤ 1000 := by omega
  clear hT
  go_enter Tryd.func13, Tryd.ntmps13
  go_wp2_with fail
  refine (sTileShape_c a w).mono ?_
  rintro e w1 ⟨v0, rfl, ⟨a0, c0, rfl, hg0, hf0⟩, hb1⟩
  have HB1 := Lib.hid hb1
  have HG0 := Lib.hid hg0
  have HF0 := Lib.hid hf0
  have HT1 := Lib.hid (HT.out.keep hpos hb1)
  have hpos1 : 5 < w1.heap.size := Nat.lt_of_lt_of_le hpos hb1.size
  clear hb1 hg0 hf0
  go_wp2_with fail
  refine (iTileShape_c a w1 HT1.out hpos1).mono ?_
  rintro e w2 ⟨v1, rfl, ⟨a1, c1, rfl, hg1, hf1⟩, hb2⟩
  have HG1 := Lib.hid hg1
  have HF1 := Lib.hid hf1
  have HB2 := Lib.hid hb2
  have HG02 := Lib.hid (HG0.out.keep hb2)
  clear hg1 hf1 hb2
  have HI := Lib.hid (fun w (hT : Two w) (h6 : 5 < w.heap.size) => iTileShape_c a w hT h6)
  unfold ShpPost at HI
  generalize shpA a = L at *
  generalize inR 0 8 a = ok at *
  go_wp2_with fail
  refine (eqStringS_c a1 a0 c1 c0 L w2 hN2 HG1.out HG02.out).mono ?_
  rintro e w3 ⟨rfl, hb3⟩
  have HG13 := Lib.hid (HG1.out.keep hb3)
  have HG03 := Lib.hid (HG02.out.keep hb3)
  have HF13 := Lib.hid (show L = [] ∨ ∃ g, a1 = some ⟨g, 0, none⟩ ∧ w1.heap.size ≤ g ∧ g < w3.heap.size ∧ ∀ j, w3.frozen? ⟨g, j, none⟩ = false from HF1.out.imp id fun ⟨g, e1, e2, e3, e4⟩ => ⟨g, e1, e2, Nat.lt_of_lt_of_le e3 hb3.size, froz_keepS e3 e4 hb3⟩)
  have HB3 := Lib.hid (show Below w.heap.size w w3 from (HB1.out.trans (HB2.out.mono HB1.out.size)).trans (hb3.mono (Nat.le_trans HB1.out.size HB2.out.size)))
  have hs13 : w1.heap.size ≤ w3.heap.size := Nat.le_trans HB2.out.size hb3.size
  clear hb3
  go_wp2_with fail
  refine (markT_c a1 c1 L w3 w1.heap.size hN HG13.out HF13.out).mono ?_
  rintro e w4 ⟨rfl, hm, g, hgB, hgr, hga⟩
  have HM := Lib.hid hm
  have HB4 := Lib.hid (show Below w.heap.size w w4 from Below.grown HB3.out hgr HB3.out.size (fun k hk => by cases hk; exact Nat.le_trans HB1.out.size hgB))
  have HG04 := Lib.hid (HG03.out.grown hgr (HF0.out.imp id fun ⟨g0, e1, e2, e3, e4⟩ => ⟨g0, e1, by omega⟩))
  clear hm hgr hga
  go_wp2_with fail
  refine (heldStringS_c a1 L.length c1 w4 hN (HM.out.imp (fun h => by rw [h]; rfl) id)).mono ?_
  rintro e w4' ⟨rfl, hb4⟩
  have HM4 := Lib.hid (show L = [] ∨ ∃ g, a1 = some ⟨g, 0, none⟩ ∧ MarkS g L.length w4' from HM.out.imp id fun ⟨g, e1, e2⟩ => ⟨g, e1, e2.keep hb4⟩)
  have HG44 := Lib.hid (HG04.out.keep hb4)
  have HB44 := Lib.hid (Blw.after HB4.out hb4)
  have HT4 := Lib.hid (HT.out.keep hpos HB44.out)
  have hpos4 : 5 < w4'.heap.size := Nat.lt_of_lt_of_le hpos HB44.out.size
  clear hb4
  go_wp2_with fail
  refine (HI.out w4' HT4.out hpos4).mono ?_
  rintro e w5 ⟨v2, rfl, ⟨a2, c2, rfl, hg2, hf2⟩, hb5⟩
  have HG2 := Lib.hid hg2
  have HG05 := Lib.hid (HG44.out.keep hb5)
  have HM5 := Lib.hid (show L = [] ∨ ∃ g, a1 = some ⟨g, 0, none⟩ ∧ MarkS g L.length w5 from HM4.out.imp id fun ⟨g, e1, e2⟩ => ⟨g, e1, e2.keep hb5⟩)
  have HB5 := Lib.hid (Blw.after HB44.out hb5)
  clear hg2 hf2 hb5
  go_wp2_with fail
  refine (eqStringS_c a2 a0 c2 c0 L w5 hN2 HG2.out HG05.out).mono ?_
  rintro e w6 ⟨rfl, hb6⟩
  have HM6 := Lib.hid (show L = [] ∨ ∃ g, a1 = some ⟨g, 0, none⟩ ∧ MarkS g L.length w6 from HM5.out.imp id fun ⟨g, e1, e2⟩ => ⟨g, e1, e2.keep hb6⟩)
  have HB6 := Lib.hid (Blw.after HB5.out hb6)
  clear hb6
  go_wp2_with fail
  refine (heldStringS_c a1 L.length c1 w6 hN (HM6.out.imp (fun h => by rw [h]; rfl) id)).mono ?_
  rintro e w7 ⟨rfl, hb7⟩
  have HB7 := Lib.hid (Blw.after HB6.out hb7)
  clear hb7
  go_wp2_with fail
  go_ret
  exact ⟨rfl, HB7.out⟩

namespace lawFnExactTileShape
set_option maxRecDepth 100000 in
theorem lifted (os : Os) (started : os.Started) (H : Type) (enc : TypeId × Value → H) :
    ReturnsInHanded {} Tryd.checked os 13 .any (fun w args => (Rows.fnExactTileShapeSpec.pre enc Tryd.prog Tryd.f13 Rows.fnExactTileShapeRow.domain false w args ∧ laidMetH Tryd.prog Rows.fnExactTileShapeRow.laid w) ∧ sizedMet enc Tryd.prog Tryd.f13 (OpenSpec.ofChange Rows.fnExactTileShapeSpec) false w args)
      (Rows.fnExactTileShapeSpec.post enc Tryd.prog Tryd.f13 false true false false) := by
  refine returnsInHanded_of_change_and (C := Tryd.checked) (X := fun w _ => laidMetH Tryd.prog Rows.fnExactTileShapeRow.laid w) (fun _ _ _ hh h => h.of_heap hh) own started (by kernel_rfl) Tryd.func13
    (ChangeSpec.witness_shaped (enc := enc) (C := Tryd.checked) (os := os) (X := fun w _ => laidMetH Tryd.prog Rows.fnExactTileShapeRow.laid w) false (World.laidAll Tryd.prog os Rows.fnExactTileShapeRow.laid) #[.int .i64 0] 8 (World.laidAll_os _ _ _)
      (World.shaped_of_ZipB (by kernel_rfl) (by kernel_rfl)) (by kernel_rfl) (by kernel_rfl) (by kernel_rfl)
      (by rw [MakeChecks.laidMetH_plain _ _ _ (by kernel_rfl)]; exact laidMet_laidAll _ (by kernel_rfl) (by kernel_rfl))) ?_
  intro W base args ds gs before hval0 hW hc0 _ hL _
  have hval : ∀ (j : Nat) t v, Tryd.f13.params[j]? = some t → args[j]? = some v → Value.okWide Tryd.prog W .any base t v := hval0
  have hW' := hW
  obtain ⟨p, q, hA0, hV, rfl, _, _⟩ := hW
  have hA : DataW.TrodAll enc Tryd.prog W 0 (fun _ => true) true Tryd.f13.params.toList args.toList ds p := hA0
  rw [Tryd.params13] at hA hval
  obtain ⟨v0, vs0, d0, ds0, p0, q0, hargs, rfl, rfl, h0, r0⟩ := trodAll_cons hA
  obtain ⟨rfl, rfl, rfl⟩ := trodAll_nil r0
  obtain rfl : args = #[v0] := by cases args; simp_all
  obtain ⟨rfl, rfl⟩ := trodVars_none hV
  obtain ⟨a0, rfl, rfl, rfl, wa0⟩ := open_int Tryd.underlying3 (hval 0 3 v0 rfl rfl) h0
  clear hA0 hval0
  simp only [List.append_nil] at hW'
  refine (lawTileShape_c a0 W (two_second hL (fun _ => MakeChecks.laidMetH_plain _ _ _ (by kernel_rfl)))).mono fun e W' ⟨he, hg⟩ => ?_
  subst he
  refine ⟨_, rfl, _, _, _, [], [], [], hW', ?_, ?_, ?_, hg.frame _, fun h => by cases h⟩
  · exact trodAll_cons_mk (shut_bool Tryd.underlying4 _) trodAll_mk0
  · exact (trodAll_cons_mk (shut_int Tryd.underlying3 wa0) trodAll_mk0)
  · rfl

theorem holds : Rows.FnExactTileShapeSaid :=
  OpenClaim.holds_of_wide 13 Tryd.f13 rfl rfl rfl rfl rfl rfl rfl ⟨rfl, rfl, rfl, rfl, rfl⟩ rfl rfl rfl rfl rfl (by kernel_rfl) Tryd.func13 (by kernel_rfl)
    (of_decide_eq_true (by kernel_rfl)) (by unfold Func.isWrapper; first | (rw [if_pos (by decide +kernel)]; kernel_rfl) | (rw [if_neg (by decide +kernel)]; exact ⟨rfl, rfl⟩))
    (fun os started H enc _ => lifted os started H enc)
theorem proved : Rows.FnExactTileShapeCardSaid :=
  Claim7.holds_tied_plain_at .later [] [.data, .data, .data] true (true, "40e37c0d82d1a1fb0c632a6cbbca785942b217e333014797603bce4089056b42") true holds (fun _ h => by cases h) (by kernel_rfl) (fun _ h => by cases h) fnExactTileShape_row_tie rfl ⟨rfl, rfl⟩ (by kernel_rfl) rfl
    (fun f fn hf hfn => by
      obtain rfl : f = 13 := Option.some.inj ((show Tryd.prog.funcNamed "loop.example/dragonnumbers/laws.FnExactTileShape" = some 13 by kernel_rfl).symm.trans hf) |>.symm
      obtain rfl : fn = Tryd.f13 := (Option.some.inj (Tryd.func13.symm.trans hfn)).symm
      exact ⟨by kernel_rfl, fun j t ht => by
        rw [Tryd.params13] at ht
        have hm : t ∈ [3] := by simpa using Array.mem_of_getElem? ht
        have hall : ([3].all fun u => !Tryd.prog.wantsStandIn u) = true := by kernel_rfl
        exact (show Tryd.prog.wantsStandIn t = false by simpa using List.all_eq_true.1 hall t hm)⟩)
    (by kernel_rfl)
end lawFnExactTileShape
end Go.Proofs.YtaleeoghifcadaaDoor

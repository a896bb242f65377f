/- FnExactTileNear: for every level, the program's TileNear is the model's, in memory of its own; the listed variables are as the program's text lays them. -/
import Derived.Test.YtmdnfamjdogogabDoorZ4
namespace Go.Proofs.YtmdnfamjdogogabDoor
set_option linter.unusedSimpArgs false
set_option linter.unusedVariables false
open Go.ChangeShapes Go.WideShapes Go.ChangeAt Go.RowKit Go.Joins

theorem own_of_row {B : Nat} {v : Value} {l : List ZZ} {w : World} (h : w.ownsRow B 39 2 v l.length (gcells l)) : OwnG B v l w := by
  rcases h.2 with ⟨rfl, h0⟩ | ⟨g, cap, cur, rfl, hb, hgb, r1, r2, r3, r4⟩
  · have : l = [] := List.eq_nil_of_length_eq_zero h0
    subst this
    exact ⟨none, 0, rfl, Or.inl rfl, Or.inl rfl⟩
  · exact ⟨_, cap, rfl, Or.inr ⟨g, rfl, fun k x y hk => ⟨row_cells h _ _ (gcells_at l k x y hk).1, row_cells h _ _ (gcells_at l k x y hk).2⟩⟩, Or.inr ⟨g, rfl, hb, (Array.getElem?_eq_some_iff.1 hgb).1, fun j => by simp [World.frozen?, hgb]⟩⟩
theorem nearT_len (a : Int) : (nearT a).length ≤ 1000 := by
  unfold nearT
  split
  · rename_i h
    have := inR_le h
    have := (nearS_len a.toNat (by simp; omega)).2.1
    omega
  · simp
def NPost (a : Int) (w : World) (e : Ending) (w' : World) : Prop := ∃ v, e = .returned (.tuple #[v, .bool (inR 0 8 a)]) ∧ OwnG w.heap.size v (nearT a) w' ∧ Below w.heap.size w w'
theorem iNear_c (a : Int) (w : World) (hT : Two w) (h6 : 3 < w.heap.size) : Calls Tryd.prog 11 #[.int .i64 a] w (NPost a w) :=
  (iTileNear_c a w hT h6).mono fun _ _ ⟨v, h1, h2, h3⟩ => ⟨v, h1, own_of_row h2, h3⟩
theorem sNear_c (a : Int) (w : World) : Calls Tryd.prog 12 #[.int .i64 a] w (NPost a w) :=
  (sTileNear_c a w).mono fun _ _ ⟨v, h1, ⟨g, c, e, h2⟩, h3⟩ => ⟨v, h1, by subst e; exact own_of_row h2, h3⟩
set_option maxRecDepth 100000 in
set_option maxHeartbeats 4000000 in
theorem lawTileNear_c (a : Int) (w : World) (hT : Two w) : Calls Tryd.prog 5 #[.int .i64 a] w fun e w' => e = .returned (.bool true) ∧ Below w.heap.size w w' := by
  have HT := Lib.hid hT
  have hpos := hT.pos
  have hN := nearT_len a
  clear hT
  go_enter Tryd.func5, Tryd.ntmps5
  go_wp2_with fail
  refine (sNear_c a w).mono ?_
  rintro e w1 ⟨v0, rfl, ⟨a0, c0, rfl, hg0, hf0⟩, hb1⟩
  have HB1 := Lib.hid hb1
  have HG0 := Lib.hid hg0
  have HF0 := Lib.hid hf0
  have HT1 := Lib.hid (HT.out.keep hpos hb1)
  have hpos1 : 3 < w1.heap.size := Nat.lt_of_lt_of_le hpos hb1.size
  clear hb1 hg0 hf0
  go_wp2_with fail
  refine (iNear_c a w1 HT1.out hpos1).mono ?_
  rintro e w2 ⟨v1, rfl, ⟨a1, c1, rfl, hg1, hf1⟩, hb2⟩
  have HG1 := Lib.hid hg1
  have HF1 := Lib.hid hf1
  have HB2 := Lib.hid hb2
  have HG02 := Lib.hid (HG0.out.keep hb2)
  clear hg1 hf1 hb2
  have HI := Lib.hid (fun w (hT : Two w) (h6 : 3 < w.heap.size) => iNear_c a w hT h6)
  unfold NPost at HI
  generalize nearT a = L at *
  generalize inR 0 8 a = ok at *
  go_wp2_with fail
  refine (eqGaussS_c a1 a0 c1 c0 L w2 hN HG1.out HG02.out).mono ?_
  rintro e w3 ⟨rfl, hb3⟩
  have HG13 := Lib.hid (HG1.out.keep hb3)
  have HG03 := Lib.hid (HG02.out.keep hb3)
  have HF13 := Lib.hid (show L = [] ∨ ∃ g, a1 = some ⟨g, 0, none⟩ ∧ w1.heap.size ≤ g ∧ g < w3.heap.size ∧ ∀ j, w3.frozen? ⟨g, j, none⟩ = false from HF1.out.imp id fun ⟨g, e1, e2, e3, e4⟩ => ⟨g, e1, e2, Nat.lt_of_lt_of_le e3 hb3.size, froz_keep e3 e4 hb3⟩)
  have HB3 := Lib.hid (show Below w.heap.size w w3 from (HB1.out.trans (HB2.out.mono HB1.out.size)).trans (hb3.mono (Nat.le_trans HB1.out.size HB2.out.size)))
  have hs13 : w1.heap.size ≤ w3.heap.size := Nat.le_trans HB2.out.size hb3.size
  clear hb3
  go_wp2_with fail
  refine (mark_c a1 c1 L w3 w1.heap.size hN HG13.out HF13.out).mono ?_
  rintro e w4 ⟨rfl, hm, g, hgB, hgr, hga⟩
  have HM := Lib.hid hm
  have HB4 := Lib.hid (show Below w.heap.size w w4 from Below.grown HB3.out hgr HB3.out.size (fun k hk => by cases hk; exact Nat.le_trans HB1.out.size hgB))
  have HG04 := Lib.hid (HG03.out.grown hgr (HF0.out.imp id fun ⟨g0, e1, e2, e3, e4⟩ => ⟨g0, e1, by omega⟩))
  have HT4 := Lib.hid (HT.out.keep hpos HB4.out)
  have hpos4 : 3 < w4.heap.size := Nat.lt_of_lt_of_le hpos HB4.out.size
  clear hm hgr hga
  go_wp2_with fail
  refine (heldGaussS_c a1 L.length c1 w4 hN (HM.out.imp (fun h => by rw [h]; rfl) id)).mono ?_
  rintro e w4' ⟨rfl, rfl⟩
  go_wp2_with fail
  refine (HI.out w4 HT4.out hpos4).mono ?_
  rintro e w5 ⟨v2, rfl, ⟨a2, c2, rfl, hg2, hf2⟩, hb5⟩
  have HG2 := Lib.hid hg2
  have HG05 := Lib.hid (HG04.out.keep hb5)
  have HM5 := Lib.hid (show L = [] ∨ ∃ g, a1 = some ⟨g, 0, none⟩ ∧ Marked g (L.length * 2) w5 from HM.out.imp id fun ⟨g, e1, e2⟩ => ⟨g, e1, Marked.keep e2 hb5⟩)
  have HB5 := Lib.hid (HB4.out.trans (hb5.mono HB4.out.size))
  clear hg2 hf2 hb5
  go_wp2_with fail
  refine (eqGaussS_c a2 a0 c2 c0 L w5 hN HG2.out HG05.out).mono ?_
  rintro e w6 ⟨rfl, hb6⟩
  have HM6 := Lib.hid (show L = [] ∨ ∃ g, a1 = some ⟨g, 0, none⟩ ∧ Marked g (L.length * 2) w6 from HM5.out.imp id fun ⟨g, e1, e2⟩ => ⟨g, e1, Marked.keep e2 hb6⟩)
  have HB6 := Lib.hid (HB5.out.trans (hb6.mono HB5.out.size))
  clear hb6
  go_wp2_with fail
  refine (heldGaussS_c a1 L.length c1 w6 hN (HM6.out.imp (fun h => by rw [h]; rfl) id)).mono ?_
  rintro e w7 ⟨rfl, rfl⟩
  go_wp2_with fail
  go_ret
  exact ⟨rfl, HB6.out⟩

namespace lawFnExactTileNear
set_option maxRecDepth 100000 in
theorem lifted (os : Os) (started : os.Started) (H : Type) (enc : TypeId × Value → H) :
    ReturnsInHanded {} Tryd.checked os 5 .any (fun w args => (Rows.fnExactTileNearSpec.pre enc Tryd.prog Tryd.f5 Rows.fnExactTileNearRow.domain false w args ∧ laidMetH Tryd.prog Rows.fnExactTileNearRow.laid w) ∧ sizedMet enc Tryd.prog Tryd.f5 (OpenSpec.ofChange Rows.fnExactTileNearSpec) false w args)
      (Rows.fnExactTileNearSpec.post enc Tryd.prog Tryd.f5 false true false false) := by
  refine returnsInHanded_of_change_and (C := Tryd.checked) (X := fun w _ => laidMetH Tryd.prog Rows.fnExactTileNearRow.laid w) (fun _ _ _ hh h => h.of_heap hh) own started (by kernel_rfl) Tryd.func5
    (ChangeSpec.witness_shaped (enc := enc) (C := Tryd.checked) (os := os) (X := fun w _ => laidMetH Tryd.prog Rows.fnExactTileNearRow.laid w) false (World.laidAll Tryd.prog os Rows.fnExactTileNearRow.laid) #[.int .i64 0] 8 (World.laidAll_os _ _ _)
      (World.shaped_of_ZipB (by kernel_rfl) (by kernel_rfl)) (by kernel_rfl) (by kernel_rfl) (by kernel_rfl)
      (by rw [MakeChecks.laidMetH_plain _ _ _ (by kernel_rfl)]; exact laidMet_laidAll _ (by kernel_rfl) (by kernel_rfl))) ?_
  intro W base args ds gs before hval0 hW hc0 _ hL _
  have hval : ∀ (j : Nat) t v, Tryd.f5.params[j]? = some t → args[j]? = some v → Value.okWide Tryd.prog W .any base t v := hval0
  have hW' := hW
  obtain ⟨p, q, hA0, hV, rfl, _, _⟩ := hW
  have hA : DataW.TrodAll enc Tryd.prog W 0 (fun _ => true) true Tryd.f5.params.toList args.toList ds p := hA0
  rw [Tryd.params5] at hA hval
  obtain ⟨v0, vs0, d0, ds0, p0, q0, hargs, rfl, rfl, h0, r0⟩ := trodAll_cons hA
  obtain ⟨rfl, rfl, rfl⟩ := trodAll_nil r0
  obtain rfl : args = #[v0] := by cases args; simp_all
  obtain ⟨rfl, rfl⟩ := trodVars_none hV
  obtain ⟨a0, rfl, rfl, rfl, wa0⟩ := open_int Tryd.underlying3 (hval 0 3 v0 rfl rfl) h0
  clear hA0 hval0
  simp only [List.append_nil] at hW'
  refine (lawTileNear_c a0 W (two_second hL (fun _ => MakeChecks.laidMetH_plain _ _ _ (by kernel_rfl)))).mono fun e W' ⟨he, hg⟩ => ?_
  subst he
  refine ⟨_, rfl, _, _, _, [], [], [], hW', ?_, ?_, ?_, hg.frame _, fun h => by cases h⟩
  · exact trodAll_cons_mk (shut_bool Tryd.underlying4 _) trodAll_mk0
  · exact (trodAll_cons_mk (shut_int Tryd.underlying3 wa0) trodAll_mk0)
  · rfl

theorem holds : Rows.FnExactTileNearSaid :=
  OpenClaim.holds_of_wide_leaving 5 Tryd.f5 rfl rfl rfl rfl rfl rfl rfl ⟨rfl, rfl, rfl, rfl, rfl⟩ rfl rfl rfl rfl rfl (by kernel_rfl) Tryd.func5 (by kernel_rfl)
    (of_decide_eq_true (by kernel_rfl)) (by unfold Func.isWrapper; first | (rw [if_pos (by decide +kernel)]; kernel_rfl) | (rw [if_neg (by decide +kernel)]; exact ⟨rfl, rfl⟩))
    (fun os started H enc _ => leaving_of_handed (lifted os started H enc))
theorem proved : Rows.FnExactTileNearCardSaid :=
  holds_tied_goes_at .later [] [.data, .data, .data, .data, .pinned] true (true, "fea62c93eaa71d0ffa3109e39510b31a36b69765e6f40f7ee2f3ad3e447c36fc") true holds (fun _ h => by cases h) (by kernel_rfl) (fun _ h => by cases h) fnExactTileNear_row_tie rfl ⟨rfl, rfl⟩ (by kernel_rfl) rfl
    (fun f fn hf hfn => by
      obtain rfl : f = 5 := Option.some.inj ((show Tryd.prog.funcNamed "loop.example/dragonnumbers/laws.FnExactTileNear" = some 5 by kernel_rfl).symm.trans hf) |>.symm
      obtain rfl : fn = Tryd.f5 := (Option.some.inj (Tryd.func5.symm.trans hfn)).symm
      exact ⟨by kernel_rfl, fun j t ht => by
        rw [Tryd.params5] at ht
        have hm : t ∈ [3] := by simpa using Array.mem_of_getElem? ht
        have hall : ([3].all fun u => !Tryd.prog.wantsStandIn u) = true := by kernel_rfl
        exact (show Tryd.prog.wantsStandIn t = false by simpa using List.all_eq_true.1 hall t hm)⟩)
    (by kernel_rfl)
end lawFnExactTileNear
end Go.Proofs.YtmdnfamjdogogabDoor

/- FnPoints (P48): at every code the law answers true: what the program's TilePoints gives is what the model gives, 2 to the power of the level numbers, each one of the tile, its index the binary number of its digits; the listed variables are as the program's text lays them. -/
import Derived.Test.YtaleeoghifcadaaDoorZ5
namespace Go.Proofs.YtaleeoghifcadaaDoor
set_option linter.unusedSimpArgs false
set_option linter.unusedVariables false
open Go.ChangeShapes Go.WideShapes Go.ChangeAt Go.RowKit Go.Joins

theorem ptsT_len (a : Int) : (ptsT a).length ≤ 1000 := by
  unfold ptsT
  split
  · rename_i h
    have := inR_le h
    rw [allT_len]
    have := pow8 (n := a.toNat) (by omega)
    omega
  · simp
def PsRel (N : Nat) (w : World) (m : Nat) (i : Value) (wr : World) : Prop := ∃ k : Nat, k + m = N ∧ i = .int .i64 k ∧ Below w.heap.size w wr
set_option maxRecDepth 100000 in
set_option maxHeartbeats 4000000 in
theorem lawPoints_c (a : Option Addr) (len cap : Nat) (w : World) (hc : len ≤ 1048576 → Code (.slice a len cap) w) (hT : Two w) : Calls Tryd.prog 5 #[.slice a len cap] w fun e w' => e = .returned (.bool true) ∧ Below w.heap.size w w' := by
  have HT := Lib.hid hT
  have hpos := hT.pos
  clear hT
  by_cases hl : 1048576 < len
  · go_enter Tryd.func5, Tryd.ntmps5
    go_wp2
    go_ret
    exact ⟨rfl, by (first | ((repeat' with_reducible first | assumption | exact Below.refl _ _ | apply Blw.alloc | apply Blw.drew | apply Blw.drewN | (refine Blw.after ?_ (by assumption)) | (refine Blw.set ?_ (by first | (dsimp only; omega) | (simp; omega)) _)); done) | (repeat' (first | assumption | exact Below.refl _ _ | apply Blw.alloc | apply Blw.drew | apply Blw.drewN | (refine Blw.after ?_ (by assumption)) | (refine Blw.set ?_ (by first | (dsimp only; omega) | (simp; done) | (simp; omega)) _))))⟩
  · go_enter Tryd.func5, Tryd.ntmps5
    go_wp2_with fail
    refine (drawTilePoints_c _ w (hc (by omega))).mono ?_
    rintro e W1 ⟨k, rfl, hk, hB⟩
    clear hc
    have HB1 := Lib.hid hB
    have HT1 := Lib.hid (HT.out.keep hpos hB)
    have hpos1 : 5 < W1.heap.size := Nat.lt_of_lt_of_le hpos hB.size
    have hN := ptsT_len k
    clear hB
    go_wp2_with fail
    refine (iTilePoints_c k W1 HT1.out hpos1).mono ?_
    rintro e w1 ⟨v0, rfl, ⟨a0, c0, rfl, hg0, -⟩, hb1⟩
    have HG0 := Lib.hid hg0
    have HB2 := Lib.hid (Blw.after HB1.out hb1)
    clear hg0 hb1
    go_wp2_with fail
    refine (sTilePoints_c k w1).mono ?_
    rintro e w2 ⟨v1, rfl, ⟨a1, c1, rfl, hg1, -⟩, hb2⟩
    have HG1 := Lib.hid hg1
    have HG02 := Lib.hid (HG0.out.keep hb2)
    have HB3 := Lib.hid (Blw.after HB2.out hb2)
    clear hg1 hb2
    rcases Bool.eq_false_or_eq_true (inR 0 8 k) with hr | hr
    · have H1 := inR_le hr
      have HL := Lib.hid (show ptsT k = (List.range (2 ^ k.toNat)).map (tp k.toNat) by unfold ptsT; rw [if_pos hr]; exact allT_tp (by omega))
      obtain ⟨n, rfl⟩ : ∃ n : Nat, k = (n : Int) := ⟨k.toNat, by omega⟩
      rw [Int.toNat_natCast] at HL
      have hn : n ≤ 8 := by omega
      have p8 := pow8 hn
      have pw : wrap64 (2 ^ n) = ((2 ^ n : Nat) : Int) := by
        have e : (2 : Int) ^ n = ((2 ^ n : Nat) : Int) := by push_cast; rfl
        rw [e]
        generalize 2 ^ n = P at *
        unfold wrap64
        omega
      have hLl : (ptsT n).length = 2 ^ n := by rw [HL.out, List.length_map, List.length_range]
      rw [← hLl] at pw p8
      have HLl := Lib.hid hLl
      have HGet := Lib.hid (fun i (hi : i < (ptsT n).length) => show (ptsT n)[i]? = some (tp n i) by
        rw [HL.out, List.getElem?_map, List.getElem?_range (by rw [hLl] at hi; exact hi)]; rfl)
      rw [hr]
      clear hr hLl HL
      generalize ptsT (n : Int) = L at *
      go_wp2_with fail
      refine (sameGauss_c a0 a1 c0 c1 L w2 hN HG02.out HG1.out).mono ?_
      rintro e w3 ⟨rfl, hb3⟩
      have HG03 := Lib.hid (HG02.out.keep hb3)
      have HB4 := Lib.hid (Blw.after HB3.out hb3)
      clear hb3
      go_wp2_with fail
      go_loopg [8] L.length (fun m i wr => PsRel L.length w3 m i wr)
      case atStart => exact ⟨0, by omega, rfl, Below.refl _ _⟩
      case round =>
        obtain ⟨j, hj, rfl, hBr⟩ := hrel
        by_cases hlt : j < L.length
        · have hget := HGet.out j hlt
          have hi : j < 2 ^ n := by rw [← HLl.out]; exact hlt
          have HD := Lib.hid (fun w => iDigitsOf_c (tp n j).1 (tp n j).2 w)
          have ht := tp_in hn hi
          rw [ofV_tx (by simp only [inB, inR, Bool.and_eq_true, decide_eq_true_eq]; omega)] at HD
          have HX := Lib.hid (fun w => iDigitsIndex_c (txB (tp n j).1 (tp n j).2) w)
          rw [idxB_tx hn hi] at HX
          have HA := Lib.hid (fun w => iTileHas_c n (tp n j).1 (tp n j).2 w)
          rw [has_tp hn hi] at HA
          have HBr := Lib.hid hBr
          have HJ := Lib.hid hj
          rcases HG03.out.keep hBr with h0 | ⟨g, rfl, hg⟩
          · subst h0; simp at hlt
          obtain ⟨d0, d1⟩ := hg j _ _ (show L[j]? = some ((tp n j).1, (tp n j).2) from hget)
          have Lg : g < wr.heap.size := World.block_lt_of_cell? wr _ d0
          clear hg hget hi ht hBr hj
          generalize txB (tp n j).1 (tp n j).2 = s at *
          generalize (tp n j).1 = X at *
          generalize (tp n j).2 = Y at *
          go_wp2_with fail
          refine (HD.out _).mono ?_
          rintro e w4 ⟨rfl, hb4⟩
          have e0 := keepcell hb4 d0
          have e1 := keepcell hb4 d1
          have HB5 := Lib.hid (Blw.after HBr.out hb4)
          have L4 : g < w4.heap.size := Nat.lt_of_lt_of_le Lg hb4.size
          clear d0 d1 hb4
          go_wp2_with fail
          refine (HX.out _).mono ?_
          rintro e w5 ⟨rfl, hb5⟩
          have d0 := keepcell hb5 e0
          have d1 := keepcell hb5 e1
          have HB6 := Lib.hid (Blw.after HB5.out hb5)
          have L5 : g < w5.heap.size := Nat.lt_of_lt_of_le L4 hb5.size
          clear e0 e1 hb5
          go_wp2_with fail
          refine (HA.out _).mono ?_
          rintro e w6 ⟨rfl, hb6⟩
          have HB7 := Lib.hid (Blw.after HB6.out hb6)
          clear hb6 d0 d1
          go_wp2_with fail
          go_roundg (gk - 1)
          case measure => have := HJ.out; omega
          case rel => exact ⟨j + 1, by have := HJ.out; omega, by go_num, HB7.out⟩
        · have HBr := Lib.hid (Blw.after HB4.out hBr)
          clear hBr
          go_wp2
          go_ret
          exact ⟨by simp, HBr.out⟩
    · rw [hr]
      clear hr
      generalize ptsT k = L at *
      go_wp2_with fail
      refine (sameGauss_c a0 a1 c0 c1 L w2 hN HG02.out HG1.out).mono ?_
      rintro e w3 ⟨rfl, hb3⟩
      have HB4 := Lib.hid (Blw.after HB3.out hb3)
      have HG03 := Lib.hid (HG02.out.keep hb3)
      have HG13 := Lib.hid (HG1.out.keep hb3)
      clear hb3
      go_wp2_with fail
      refine (sameGauss_c a0 a1 c0 c1 L w3 hN HG03.out HG13.out).mono ?_
      rintro e w4 ⟨rfl, hb4⟩
      have HB5 := Lib.hid (Blw.after HB4.out hb4)
      clear hb4
      go_wp2_with fail
      go_ret
      exact ⟨rfl, HB5.out⟩

namespace lawFnPoints
set_option maxRecDepth 100000 in
theorem lifted (os : Os) (started : os.Started) (H : Type) (enc : TypeId × Value → H) :
    ReturnsInHanded {} Tryd.checked os 5 .any (fun w args => (Rows.fnPointsSpec.pre enc Tryd.prog Tryd.f5 Rows.fnPointsRow.domain false w args ∧ laidMetH Tryd.prog Rows.fnPointsRow.laid w) ∧ sizedMet enc Tryd.prog Tryd.f5 (OpenSpec.ofChange Rows.fnPointsSpec) false w args)
      (Rows.fnPointsSpec.post enc Tryd.prog Tryd.f5 false true false false) := by
  refine returnsInHanded_of_change_and (C := Tryd.checked) (X := fun w _ => laidMetH Tryd.prog Rows.fnPointsRow.laid w) (fun _ _ _ hh h => h.of_heap hh) own started (by kernel_rfl) Tryd.func5
    (ChangeSpec.witness_shaped (enc := enc) (C := Tryd.checked) (os := os) (X := fun w _ => laidMetH Tryd.prog Rows.fnPointsRow.laid w) false (World.laidAll Tryd.prog os Rows.fnPointsRow.laid) #[.slice none 0 0] 8 (World.laidAll_os _ _ _)
      (World.shaped_of_ZipB (by kernel_rfl) (by kernel_rfl)) (by kernel_rfl) (by kernel_rfl) (by kernel_rfl)
      (by rw [MakeChecks.laidMetH_plain _ _ _ (by kernel_rfl)]; exact laidMet_laidAll _ (by kernel_rfl) (by kernel_rfl))) ?_
  intro W base args ds gs before hval0 hW hc0 _ hL _
  have hval : ∀ (j : Nat) t v, Tryd.f5.params[j]? = some t → args[j]? = some v → Value.okWide Tryd.prog W .any base t v := hval0
  have hW' := hW
  obtain ⟨p, q, hA0, hV, rfl, _, _⟩ := hW
  have hA : DataW.TrodAll enc Tryd.prog W 0 (fun _ => true) true Tryd.f5.params.toList args.toList ds p := hA0
  rw [Tryd.params5] at hA hval
  obtain ⟨v0, vs0, d0, ds0, p0, q0, hargs, rfl, rfl, h0, r0⟩ := trodAll_cons hA
  obtain ⟨rfl, rfl, rfl⟩ := trodAll_nil r0
  obtain rfl : args = #[v0] := by cases args; simp_all
  obtain ⟨rfl, rfl⟩ := trodVars_none hV
  obtain ⟨a, len, cap, rfl⟩ := okWide_slice Tryd.underlying22 (hval 0 22 v0 rfl rfl)
  clear hA0 hval0
  simp only [List.append_nil] at hW'
  have hlt : ∀ x ∈ p0, x.block < W.heap.size := fun x hx => by simpa using hW'.lt x hx
  refine (lawPoints_c a len cap W (code_of h0) (two_second hL (fun _ => MakeChecks.laidMetH_plain _ _ _ (by kernel_rfl)))).mono fun e W' ⟨he, hg⟩ => ?_
  subst he
  have harg := Below.trod laidOut (by kernel_rfl) (of_decide_eq_true (by kernel_rfl)) h0 hg hlt
  refine ⟨_, rfl, _, _, _, [], p0, [], hW', ?_, ?_, ?_, hg.frame _, fun h => by cases h⟩
  · exact trodAll_cons_mk (shut_bool Tryd.underlying4 _) trodAll_mk0
  · exact trodAll_mk1 harg
  · rfl

theorem holds : Rows.FnPointsSaid :=
  OpenClaim.holds_of_wide 5 Tryd.f5 rfl rfl rfl rfl rfl rfl rfl ⟨rfl, rfl, rfl, rfl, rfl⟩ rfl rfl rfl rfl rfl (by kernel_rfl) Tryd.func5 (by kernel_rfl)
    (of_decide_eq_true (by kernel_rfl)) (by unfold Func.isWrapper; first | (rw [if_pos (by decide +kernel)]; kernel_rfl) | (rw [if_neg (by decide +kernel)]; exact ⟨rfl, rfl⟩))
    (fun os started H enc _ => lifted os started H enc)
theorem proved : Rows.FnPointsCardSaid :=
  Claim7.holds_tied_plain_at .later [] [.data, .data, .data, .data, .pinned] true (true, "40e37c0d82d1a1fb0c632a6cbbca785942b217e333014797603bce4089056b42") true holds (fun _ h => by cases h) (by kernel_rfl) (fun _ h => by cases h) fnPoints_row_tie rfl ⟨rfl, rfl⟩ (by kernel_rfl) rfl
    (fun f fn hf hfn => by
      obtain rfl : f = 5 := Option.some.inj ((show Tryd.prog.funcNamed "loop.example/dragonnumbers/laws.FnPoints" = some 5 by kernel_rfl).symm.trans hf) |>.symm
      obtain rfl : fn = Tryd.f5 := (Option.some.inj (Tryd.func5.symm.trans hfn)).symm
      exact ⟨by kernel_rfl, fun j t ht => by
        rw [Tryd.params5] at ht
        have hm : t ∈ [22] := by simpa using Array.mem_of_getElem? ht
        have hall : ([22].all fun u => !Tryd.prog.wantsStandIn u) = true := by kernel_rfl
        exact (show Tryd.prog.wantsStandIn t = false by simpa using List.all_eq_true.1 hall t hm)⟩)
    (by kernel_rfl)
end lawFnPoints
end Go.Proofs.YtaleeoghifcadaaDoor

/- FnEnd: whatever the code draws, the end of creases is the last point of the curve of their word of turns, and that of the creases in the opposite order; the listed variables are as the library's text lays them. -/
import Derived.Test.YtljmmmkehieboaaDoorDrawW
import Derived.Test.YtljmmmkehieboaaDoorWe
import Derived.Test.YtljmmmkehieboaaDoorEnd
import Derived.Test.YtljmmmkehieboaaDoorSame
import Derived.Test.YtljmmmkehieboaaDoorBaseP
import Derived.Test.YtljmmmkehieboaaDoorTie
import Derived.Test.YtljmmmkehieboaaDoorCards
import Derived.OpenShut
import Derived.LaidMore
import Derived.Lay
import Derived.SevenTiedAt
import Derived.Stop.Joined
import Derived.Stop.LaidErr
import Derived.ChangeVars
import Derived.ChangeStays
namespace Go.Proofs.YtljmmmkehieboaaDoor
set_option linter.unusedSimpArgs false
set_option linter.unusedVariables false
open Go.ChangeShapes Go.WideShapes Go.ChangeAt Go.RowKit Go.Joins

theorem drawCurveEnd_c (v : Value) (w : World) (h : Code v w) : Calls Tryd.prog 5 #[v] w (OneText w) := by
  go_enter Tryd.func5, Tryd.ntmps5
  go_wp2_with fail
  refine (drawTurnWord_c v w h).mono ?_
  rintro e W1 ⟨t, rfl, ht, hb⟩
  go_wp2_with fail
  go_ret
  exact ⟨t, rfl, ht, hb⟩
theorem turns_word {s : ByteArray} (h : wdB 10 s = true) : wdB 1023 (bs (turnsL (toL s))) = true := by
  have hl := turnsL_len (toL s)
  have hp : 2 ^ (toL s).length ≤ 2 ^ 10 := Nat.pow_le_pow_right (by omega) (by rw [toL_len]; exact wdB_len h)
  have : (2 : Nat) ^ 10 = 1024 := by decide
  rw [wdB_of (by rw [bsz]; omega)]
  exact onlyW_good (by rw [toL_bs]; exact turnsL_wd _ (wdB_all h))
theorem rev_word {s : ByteArray} (h : wdB 10 s = true) : wdB 10 (bs (toL s).reverse) = true := by
  rw [wdB_of (by rw [bsz, List.length_reverse, toL_len]; exact wdB_len h)]
  exact onlyW_good (fun c hc => wdB_all h c (by rw [toL_bs] at hc; simpa using hc))
theorem crv_last (l : List UInt8) : (crvL l)[l.length + 1]? = some (psP l) := by
  rw [crvL_succ (Nat.le_refl _), List.take_length]
theorem same_p {E : Int × Int} (h : E.1.natAbs ≤ 2000000 ∧ E.2.natAbs ≤ 2000000) (w : World) : Calls Tryd.prog 8 #[encP E, encP E] w fun e w' => e = .returned (.bool true) ∧ w = w' := by
  refine sameSingle_c _ _ _ _ w (ff_conv .f32 .f64 h.1) (ff_conv .f32 .f64 h.2) ?_ ?_
  · rw [ff_order h.1 h.1, Int.compare_eq_eq.2 rfl]
  · rw [ff_order h.2 h.2, Int.compare_eq_eq.2 rfl]
def RvRel (s : ByteArray) (w : World) (m : Nat) (v i : Value) (wr : World) : Prop :=
  ∃ k : Nat, k + m = s.size ∧ i = .int .i64 ((m : Int) - 1) ∧ wr.ownsRow w.heap.size 5 1 v k ((((toL s).reverse).take k).map encB) ∧ Below w.heap.size w wr
theorem rev_take {s : ByteArray} {m k : Nat} (h : k + (m + 1) = s.size) : ((toL s).reverse).take (k + 1) = ((toL s).reverse).take k ++ [s[m]] := by
  rw [List.take_add_one, List.getElem?_reverse (by rw [toL_len]; omega), toL_len, show s.size - 1 - k = m by omega, toL_get s m (by omega)]; rfl
set_option maxRecDepth 100000 in
set_option maxHeartbeats 8000000 in
theorem lawEnd_c (a : Option Addr) (len cap : Nat) (w : World) (hc : len ≤ 1048576 → Code (.slice a len cap) w) (hT : Tz w) : Calls Tryd.prog 3 #[.slice a len cap] w fun e w' => e = .returned (.bool true) ∧ Below w.heap.size w w' := by
  obtain ⟨i0, hi, hz0, hz1, hz2⟩ := info_parts infoB
  have HT := Lib.hid hT
  have h6 := hT.pos
  clear hT
  by_cases hl : 1048576 < len
  · go_enter Tryd.func3, Tryd.ntmps3
    go_wp2_with fail
    go_ret
    exact ⟨rfl, by (repeat' (first | assumption | exact Below.refl _ _ | apply Blw.alloc | apply Blw.drew | apply Blw.drewN | (refine Blw.after ?_ (by assumption)) | (refine Blw.set ?_ (by first | (dsimp only; omega) | (simp; done) | (simp; omega)) _)))⟩
  · have hc' := hc (by omega)
    clear hc
    go_enter Tryd.func3, Tryd.ntmps3
    go_wp2_with fail
    refine (drawCurveEnd_c _ w hc').mono ?_
    rintro e W1 ⟨s, rfl, ht, hb1⟩
    clear hc'
    go_wp2_with fail
    refine (iCurveEnd_c s W1).mono ?_
    rintro e W2 ⟨rfl, hb2⟩
    have HB2 := Lib.hid (Blw.after hb1 hb2)
    clear hb1 hb2
    rcases Bool.eq_false_or_eq_true (wdB 10 s) with h | h
    · have HE := endV_t h
      rw [HE]
      have hin := endP_in (l := toL s) (k := 10) (by rw [toL_len]; exact wdB_len h)
      have e1024 : (2 : Nat) ^ 10 = 1024 := by decide
      rw [e1024] at hin
      have HS := Lib.hid (fun w => same_p (E := endP (toL s)) (by omega) w)
      have hq := fun w t => run_ceqE (P := Tryd.prog) w t (endP (toL s)) (by omega)
      have HTW := Lib.hid (twV_t h)
      have HWD := Lib.hid (turns_word h)
      have HLast := Lib.hid (show (crvL (turnsL (toL s)))[(turnsL (toL s)).length + 1]? = some (endP (toL s)) from by rw [crv_last, psP_turns _ (wdB_all h)])
      have HRV := Lib.hid (show endV (bs (toL s).reverse) = .tuple #[encP (endP (toL s)), .bool true] from by rw [endV_t (rev_word h), toL_bs, endP_rev])
      have hsz := wdB_len h
      generalize endP (toL s) = E at *
      clear hin e1024
      go_wp2_with fail
      refine (sCurveEnd_c s W2).mono ?_
      rintro e W3 ⟨rfl, hb3⟩
      rw [HE]
      have HB3 := Lib.hid (Blw.after HB2.out hb3)
      clear hb3 HB2 HE h
      go_wp2_with (first | (go_at_call 8; refine (HS.out _).mono ?_; rintro e w1 ⟨rfl, rfl⟩))
      refine (iTurnWord_c s W3 (HT.out.keep h6 HB3.out)).mono ?_
      rintro e W4 ⟨rfl, hb4⟩
      rw [HTW.out]
      have HB4 := Lib.hid (Blw.after HB3.out hb4)
      clear hb4 HTW HB3
      have hTl : (bs (turnsL (toL s))).size = (turnsL (toL s)).length := bsz _
      have HtoL := Lib.hid (toL_bs (turnsL (toL s)))
      generalize bs (turnsL (toL s)) = T at *
      go_wp2_with fail
      refine (iCurveOf_c T W4).mono ?_
      rintro e W5 ⟨v, rfl, ho, hb5⟩
      rw [HWD.out]
      have HB5 := Lib.hid (Blw.after HB4.out hb5)
      have hlen := crvA_len HWD.out
      rw [hlen] at ho
      obtain ⟨g, cp, rfl, hg, hgw⟩ : ∃ g cp, v = .slice (some ⟨g, 0, none⟩) (T.size + 2) cp ∧ W4.heap.size ≤ g ∧ g < W5.heap.size := by
        rcases ho.2 with ⟨_, h0⟩ | ⟨g, cap, cur, rfl, hg, hgg, -⟩
        · omega
        · exact ⟨g, cap, rfl, hg, (Array.getElem?_eq_some_iff.1 hgg).1⟩
      have cV : W5.cell? ⟨g, T.size + 1, none⟩ = some (encP E) := by
        rw [ho.cellAt (T.size + 1) (by omega), List.getElem?_map, crvA_t HWD.out, HtoL.out, hTl, HLast.out]; rfl
      have n1 : ((T.size + 2 : Nat) : Int) - 1 = ((T.size + 1 : Nat) : Int) := by omega
      have n2 : T.size + 1 < T.size + 2 := by omega
      have n3 : T.size + 2 ≤ 1100 := by have := wdB_len HWD.out; omega
      clear hb5 HB4 ho hlen HLast HtoL hTl
      generalize T.size + 2 = n at *
      generalize T.size + 1 = M at *
      have S0 := Lib.hid (show RvRel s W5 s.size (.slice (some ⟨W5.heap.size, 0, none⟩) 0 0) (.int .i64 ((s.size : Int) - 1)) (W5.alloc (.cells #[] 5)) from
        ⟨0, by omega, rfl, by
          have h := World.ownsRow_lit (base := W5.heap.size) (e := 5) (size := 1) W5 #[] 0 (Nat.le_refl _) (by unfold maxLen; omega) rfl
          exact h, by (repeat' (first | assumption | exact Below.refl _ _ | apply Blw.alloc | apply Blw.drew | apply Blw.drewN | (refine Blw.after ?_ (by assumption)) | (refine Blw.set ?_ (by first | (dsimp only; omega) | (simp; done) | (simp; omega)) _)))⟩)
      go_wp2_with fail
      go_loopg [12, 13] s.size (fun m v i wr => RvRel s W5 m v i wr)
      case atStart => exact S0.out
      case round =>
        clear S0
        obtain ⟨k, hk, rfl, hown, hB⟩ := hrel
        have HO := Lib.hid hown
        clear hown
        by_cases h0 : gk = 0
        · subst h0
          have HR := Lib.hid (show ((toL s).reverse).take k = (toL s).reverse from List.take_of_length_le (by rw [List.length_reverse, toL_len]; omega))
          have hcv := conv_row HO.out
          rw [HR.out] at hcv
          have cW : wr.cell? ⟨g, M, none⟩ = some (encP E) := keepcell hB cV
          have HB6 := Lib.hid (Blw.after HB5.out hB)
          clear cV hB HO HR
          generalize bs (toL s).reverse = R at *
          go_wp2_with fail
          refine (iCurveEnd_c R wr).mono ?_
          rintro e W6 ⟨rfl, hb6⟩
          rw [HRV.out]
          have HB7 := Lib.hid (Blw.after HB6.out hb6)
          have cX : W6.cell? ⟨g, M, none⟩ = some (encP E) := keepcell hb6 cW
          clear cW hb6 HB6
          go_wp2_with fail
          go_ret
          exact ⟨rfl, HB7.out⟩
        · obtain ⟨m, rfl⟩ : ∃ m, gk = m + 1 := ⟨gk - 1, by omega⟩
          have e1 : ((m + 1 : Nat) : Int) - 1 = (m : Int) := by omega
          rw [e1]
          have hm : m < s.size := by omega
          have HTk := Lib.hid (rev_take (s := s) (m := m) (k := k) (by omega))
          clear e1 h0
          go_wp2_with (at_builtin; refine wpList_append_own _ rfl _ _ 22 rfl W5.heap.size 5 i0 (.int .u8 0) 1 1 Tryd.underlying22 hi hz0 hz1 hz2 rfl (by decide) _ _ _ rfl (HO.out.alloc _) ⟨wr.heap.size, 0, none⟩ 1 1 [encB s[m]] rfl rfl (cells1 _ _ _) (one1 _ rfl) (by unfold maxLen; omega) (by omega) (by have := hB.size; simp; omega) ?_)
          intro v' W6 hown' hgrow _
          have hB1 : Below W5.heap.size W5 W6 := Below.grown (by (repeat' (first | assumption | exact Below.refl _ _ | apply Blw.alloc | apply Blw.drew | apply Blw.drewN | (refine Blw.after ?_ (by assumption)) | (refine Blw.set ?_ (by first | (dsimp only; omega) | (simp; done) | (simp; omega)) _)))) hgrow (by have := hB.size; simp; omega) (fun k hk => (HO.out.lt k hk).1)
          have HO1 := Lib.hid hown'
          clear hgrow hown' HO
          go_wp2_with fail
          go_roundg m
          case measure => omega
          case rel => exact ⟨k + 1, by omega, by go_num, by rw [HTk.out, List.map_append, List.map_take, List.map_reverse]; exact HO1.out, hB1⟩
    · have HE := endV_f h
      rw [HE]
      have HS := Lib.hid (fun w => enc00 ▸ same_p (E := (0, 0)) (by decide) w)
      go_wp2_with fail
      refine (sCurveEnd_c s W2).mono ?_
      rintro e W3 ⟨rfl, hb3⟩
      rw [HE]
      have HB3 := Lib.hid (Blw.after HB2.out hb3)
      clear hb3 HB2 HE h
      go_wp2_with (first | (go_at_call 8; refine (HS.out _).mono ?_; rintro e w1 ⟨rfl, rfl⟩))
      go_ret
      exact ⟨rfl, HB3.out⟩

namespace lawFnEnd
set_option maxRecDepth 100000 in
theorem lifted (os : Os) (started : os.Started) (H : Type) (enc : TypeId × Value → H) :
    ReturnsInHanded {} Tryd.checked os 3 .any (fun w args => (Rows.fnEndSpec.pre enc Tryd.prog Tryd.f3 Rows.fnEndRow.domain false w args ∧ laidMetH Tryd.prog Rows.fnEndRow.laid w) ∧ sizedMet enc Tryd.prog Tryd.f3 (OpenSpec.ofChange Rows.fnEndSpec) false w args)
      (Rows.fnEndSpec.post enc Tryd.prog Tryd.f3 false true false false) := by
  refine returnsInHanded_of_change_and (C := Tryd.checked) (X := fun w _ => laidMetH Tryd.prog Rows.fnEndRow.laid w) (fun _ _ _ hh h => h.of_heap hh) own started (by kernel_rfl) Tryd.func3
    (ChangeSpec.witness_shaped (enc := enc) (C := Tryd.checked) (os := os) (X := fun w _ => laidMetH Tryd.prog Rows.fnEndRow.laid w) false (World.laidAll Tryd.prog os Rows.fnEndRow.laid) #[.slice none 0 0] 8 (World.laidAll_os _ _ _)
      (World.shaped_of_ZipB (by kernel_rfl) (by kernel_rfl)) (by kernel_rfl) (by kernel_rfl) (by kernel_rfl)
      (by rw [MakeChecks.laidMetH_plain _ _ _ (by kernel_rfl)]; exact laidMet_laidAll _ (by kernel_rfl) (by kernel_rfl))) ?_
  intro W base args ds gs before hval0 hW hc0 _ hL _
  have hval : ∀ (j : Nat) t v, Tryd.f3.params[j]? = some t → args[j]? = some v → Value.okWide Tryd.prog W .any base t v := hval0
  have hW' := hW
  obtain ⟨p, q, hA0, hV, rfl, _, _⟩ := hW
  have hA : DataW.TrodAll enc Tryd.prog W 0 (fun _ => true) true Tryd.f3.params.toList args.toList ds p := hA0
  rw [Tryd.params3] at hA hval
  obtain ⟨v0, vs0, d0, ds0, p0, q0, hargs, rfl, rfl, h0, r0⟩ := trodAll_cons hA
  obtain ⟨rfl, rfl, rfl⟩ := trodAll_nil r0
  obtain rfl : args = #[v0] := by cases args; simp_all
  obtain ⟨rfl, rfl⟩ := trodVars_none hV
  obtain ⟨a, len, cap, rfl⟩ := okWide_slice Tryd.underlying22 (hval 0 22 v0 rfl rfl)
  clear hA0 hval0
  simp only [List.append_nil] at hW'
  have hlt : ∀ x ∈ p0, x.block < W.heap.size := fun x hx => by simpa using hW'.lt x hx
  refine (lawEnd_c a len cap W (code_of h0) (tz_second hL (fun _ => MakeChecks.laidMetH_plain _ _ _ (by kernel_rfl)))).mono fun e W' ⟨he, hg⟩ => ?_
  subst he
  have harg := Below.trod laidOut (by kernel_rfl) (of_decide_eq_true (by kernel_rfl)) h0 hg hlt
  refine ⟨_, rfl, _, _, _, [], p0, [], hW', ?_, ?_, ?_, hg.frame _, fun h => by cases h⟩
  · exact trodAll_cons_mk (shut_bool Tryd.underlying4 _) trodAll_mk0
  · exact trodAll_mk1 harg
  · rfl

theorem holds : Rows.FnEndSaid :=
  OpenClaim.holds_of_wide 3 Tryd.f3 rfl rfl rfl rfl rfl rfl rfl ⟨rfl, rfl, rfl, rfl, rfl⟩ rfl rfl rfl rfl rfl (by kernel_rfl) Tryd.func3 (by kernel_rfl)
    (of_decide_eq_true (by kernel_rfl)) (by unfold Func.isWrapper; first | (rw [if_pos (by decide +kernel)]; kernel_rfl) | (rw [if_neg (by decide +kernel)]; exact ⟨rfl, rfl⟩))
    (fun os started H enc _ => lifted os started H enc)
theorem proved : Rows.FnEndCardSaid :=
  Claim7.holds_tied_plain_at .later [] [.data, .data] true (true, "49e1fb2d53e3548c541c58393502efe328f105099822637a7403a9e99f2ee78b") false holds (fun _ h => by cases h) (by kernel_rfl) (fun _ h => by cases h) fnEnd_row_tie rfl ⟨rfl, rfl⟩ (by kernel_rfl) rfl
    (fun f fn hf hfn => by
      obtain rfl : f = 3 := Option.some.inj ((show Tryd.prog.funcNamed "loop.example/dragonnumbers/laws.FnEnd" = some 3 by kernel_rfl).symm.trans hf) |>.symm
      obtain rfl : fn = Tryd.f3 := (Option.some.inj (Tryd.func3.symm.trans hfn)).symm
      exact ⟨by kernel_rfl, fun j t ht => by
        rw [Tryd.params3] at ht
        have hm : t ∈ [22] := by simpa using Array.mem_of_getElem? ht
        have hall : ([22].all fun u => !Tryd.prog.wantsStandIn u) = true := by kernel_rfl
        exact (show Tryd.prog.wantsStandIn t = false by simpa using List.all_eq_true.1 hall t hm)⟩)
    (by kernel_rfl)
end lawFnEnd
end Go.Proofs.YtljmmmkehieboaaDoor

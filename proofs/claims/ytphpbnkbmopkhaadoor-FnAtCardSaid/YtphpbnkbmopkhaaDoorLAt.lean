/- FnAt: whatever the code draws, the letter at an index is that of the word of turns, and the one at the opposite end is the other one; the listed variables are as the library's text lays them. -/
import Derived.Test.YtphpbnkbmopkhaaDoorDrawW
import Derived.Test.YtphpbnkbmopkhaaDoorWe
import Derived.Test.YtphpbnkbmopkhaaDoorWg
import Derived.Test.YtphpbnkbmopkhaaDoorBaseP
import Derived.Test.YtphpbnkbmopkhaaDoorTie
import Derived.Test.YtphpbnkbmopkhaaDoorCards
import Derived.OpenShut
import Derived.LaidMore
import Derived.Lay
import Derived.SevenTiedAt
import Derived.Stop.Joined
import Derived.Stop.LaidErr
import Derived.ChangeVars
import Derived.ChangeStays
namespace Go.Proofs.YtphpbnkbmopkhaaDoor
set_option linter.unusedSimpArgs false
set_option linter.unusedVariables false
open Go.ChangeShapes Go.WideShapes Go.ChangeAt Go.RowKit Go.Joins

/-- what a draw of a text and an index leaves -/
def TextAt (w : World) (e : Ending) (w' : World) : Prop := ∃ (t : ByteArray) (n : Int), e = .returned (.tuple #[.string t, .int .i64 n]) ∧ t.size ≤ 400 ∧ (0 ≤ n ∧ n ≤ 1000000) ∧ Below w.heap.size w w'
set_option maxHeartbeats 2000000 in
theorem drawTurnAt_c (v : Value) (w : World) (h : Code v w) : Calls Tryd.prog 14 #[v] w (TextAt w) := by
  go_enter Tryd.func14, Tryd.ntmps14
  go_wp2_with fail
  refine (l6Open_c v w h).mono ?_
  rintro e W1 ⟨sv, rfl, hr, hs, hz, hb⟩
  go_wp2_with fail
  refine (l92Word_k w.heap.size sv 0 7 W1 hs hr ⟨by omega, by omega⟩ (by omega)).mono ?_
  rintro e W2 ⟨v', p1, ⟨t, rfl, ht⟩, rfl, q0, q1, h1, hs1, m1⟩
  have ht16 : t.size ≤ 16 := ht
  have hsh : wrap64 (2 ^ t.size) = ((2 ^ t.size : Nat) : Int) ∧ 1 ≤ 2 ^ t.size ∧ 2 ^ t.size ≤ 65536 := by
    have h1 : 2 ^ t.size ≤ 2 ^ 16 := Nat.pow_le_pow_right (by omega) ht16
    have h2 : (2 : Nat) ^ 16 = 65536 := by decide
    refine ⟨?_, two_pos t.size, by omega⟩
    have e : (2 : Int) ^ t.size = ((2 ^ t.size : Nat) : Int) := by push_cast; rfl
    rw [e]
    generalize 2 ^ t.size = P at *
    unfold wrap64
    omega
  obtain ⟨s1, s2, s3⟩ := hsh
  generalize hP : 2 ^ t.size = P at *
  clear hP ht
  go_wp2_with fail
  refine (pick_d w.heap.size sv p1 P W2 hs1 h1 ⟨by omega, by omega⟩ ⟨by omega, by omega⟩).mono ?_
  rintro e W3 ⟨v, p2, ⟨i, rfl, i0, i1⟩, rfl, r0, r1, h2, hs2, m2⟩
  go_wp2_with fail
  refine (pick_d w.heap.size sv p2 20 W3 hs2 h2 ⟨by omega, by omega⟩ ⟨by omega, by omega⟩).mono ?_
  rintro e W4 ⟨v, p3, ⟨j, rfl, j0, j1⟩, rfl, u0, u1, h3, hs3, m3⟩
  have hB4 : Below w.heap.size w W4 := ((m1.trans m2).trans m3).2.2.2 w hb (Nat.le_refl _)
  have hj : j / 19 = 0 ∨ j / 19 = 1 := by omega
  rcases hj with hj | hj
  all_goals
    go_wp2_with fail
    go_ret2
    exact ⟨t, _, rfl, by omega, ⟨by omega, by omega⟩, hB4⟩

theorem atB_cases (s : ByteArray) (n : Int) : atB s n = false ∨ ∃ k : Nat, n = (k : Int) + 1 ∧ wdB 10 s = true ∧ k + 1 < 2 ^ s.size := by
  rcases Bool.eq_false_or_eq_true (atB s n) with h | h
  · right
    unfold atB at h
    rw [Bool.and_eq_true] at h
    obtain ⟨k, h1, h2⟩ := inR_cases h.2
    exact ⟨k, h1, h.1, h2⟩
  · exact Or.inl h
theorem tw_len {s : ByteArray} : (bs (turnsL (toL s))).size + 1 = 2 ^ s.size := by
  have hl := turnsL_len (toL s)
  rw [toL_len] at hl
  rw [bsz]; exact hl
theorem tw_at {s : ByteArray} {k : Nat} (hk : k + 1 < 2 ^ s.size) : toL ((bs (turnsL (toL s))).extract k (k + 1)) = [ltC (toL s) k] := by
  have hlt : k < (bs (turnsL (toL s))).size := by have := tw_len (s := s); omega
  have h1 := extract_one _ k hlt
  rw [h1]
  have h2 := toL_get _ k hlt
  rw [toL_bs] at h2
  unfold ltC
  rw [h2]; rfl
/-- the opposite end: valid, and another letter but in the middle -/
theorem at_opp {s : ByteArray} {k : Nat} (h : wdB 10 s = true) (hk : k + 1 < 2 ^ s.size) : ∃ k' : Nat, k' + 1 < 2 ^ s.size ∧ (k' : Int) + 1 = ((2 ^ s.size : Nat) : Int) - ((k : Int) + 1) ∧ (2 * (k + 1) = 2 ^ s.size ∨ ltC (toL s) k' ≠ ltC (toL s) k) := by
  refine ⟨2 ^ s.size - (k + 1) - 1, by omega, by generalize 2 ^ s.size = P at hk ⊢; omega, ?_⟩
  by_cases hm : 2 * (k + 1) = 2 ^ s.size
  · exact Or.inl hm
  · right
    obtain ⟨j, o, e, ho⟩ := index_form (k + 1) (by omega)
    have hw := wdB_all h
    obtain ⟨o', e1, ho', hne⟩ := turn_opp (cs := toL s) ho (by rw [toL_len, ← e]; exact hk) hw (by rw [toL_len, ← e]; exact hm)
    rw [toL_len, ← e] at e1
    rw [ltC_at e ho (by rw [toL_len]; exact hk) hw, ltC_at (k := 2 ^ s.size - (k + 1) - 1) (j := j) (o := o') (by omega) ho' (by rw [toL_len]; omega) hw]
    exact hne
set_option maxHeartbeats 8000000 in
theorem lawAt_c (a : Option Addr) (len cap : Nat) (w : World) (hc : len ≤ 1048576 → Code (.slice a len cap) w) (hT : Tz w) : Calls Tryd.prog 4 #[.slice a len cap] w fun e w' => e = .returned (.bool true) ∧ Below w.heap.size w w' := by
  have HT := Lib.hid hT
  have h6 := hT.pos
  clear hT
  by_cases hl : 1048576 < len
  · go_enter Tryd.func4, Tryd.ntmps4
    go_wp2_with fail
    go_ret
    exact ⟨rfl, by (repeat' (first | assumption | exact Below.refl _ _ | apply Blw.alloc | apply Blw.drew | apply Blw.drewN | (refine Blw.after ?_ (by assumption)) | (refine Blw.set ?_ (by first | (dsimp only; omega) | (simp; done) | (simp; omega)) _)))⟩
  · have hc' := hc (by omega)
    clear hc
    go_enter Tryd.func4, Tryd.ntmps4
    go_wp2_with fail
    refine (drawTurnAt_c _ w hc').mono ?_
    rintro e W1 ⟨s, n, rfl, ht, hn, hb1⟩
    clear hc'
    have HT1 := Lib.hid (HT.out.keep h6 hb1)
    rcases atB_cases s n with h | ⟨k, rfl, h, hk⟩
    · have H1 := atV_f h
      go_wp2_with fail
      refine (iTurnAt_c s n W1 HT1.out).mono ?_
      rintro e W2 ⟨rfl, hb2⟩
      rw [H1]
      go_wp2_with fail
      refine (sTurnAt_c s n W2).mono ?_
      rintro e W3 ⟨rfl, rfl⟩
      rw [H1]
      have hB3 := Blw.after hb1 hb2
      clear H1
      go_wp2_with fail
      go_ret
      exact ⟨rfl, hB3⟩
    · have H1 := atV_t h hk
      have H2 := Lib.hid (twV_t h)
      have hTl := tw_len (s := s)
      have hX := tw_at hk
      obtain ⟨k', hk', hke, hne⟩ := at_opp h hk
      have H3 := Lib.hid (atV_t h hk')
      have h10 := wdB_len h
      have hP2 : 2 ^ s.size ≤ 1024 := (shl_one h10).2.2
      generalize hTT : bs (turnsL (toL s)) = T at *
      generalize hP : 2 ^ s.size = P at *
      have a3 : ((T.extract k (k + 1)).toList == (bs [ltC (toL s) k]).toList) = true := by rw [toList_toL, toList_toL, hX, toL_bs]; simp
      have hkT : k + 1 ≤ T.size := by omega
      have hTP : (T.size : Int) + 1 = (P : Int) := by omega
      have e9 : (P : Int) - ((k : Int) + 1) = (k' : Int) + 1 := by omega
      have hk2 : k ≤ 2000 := by omega
      have hk3 : k' ≤ 2000 := by omega
      rcases hne with hm | hne
      · have a4 : (2 * ((k : Int) + 1) == (P : Int)) = true := by simp; omega
        clear hTT hP h hTl hX hn hm hke
        go_wp2_with fail
        refine (iTurnAt_c s _ W1 HT1.out).mono ?_
        rintro e W2 ⟨rfl, hb2⟩
        rw [H1]
        go_wp2_with fail
        refine (sTurnAt_c s _ W2).mono ?_
        rintro e W3 ⟨rfl, rfl⟩
        rw [H1]
        have hB2 := Blw.after hb1 hb2
        have HT2 := Lib.hid (HT.out.keep h6 hB2)
        go_wp2_with fail
        refine (iTurnWord_c s _ HT2.out).mono ?_
        rintro e W3 ⟨rfl, hb3⟩
        rw [H2.out]
        have hB3 := Blw.after hB2 hb3
        have HT3 := Lib.hid (HT.out.keep h6 hB3)
        go_wp2_with fail
        refine (iTurnAt_c s ((k' : Int) + 1) _ HT3.out).mono ?_
        rintro e W4 ⟨rfl, hb4⟩
        rw [H3.out]
        have hB4 := Blw.after hB3 hb4
        go_wp2_with fail
        go_ret
        exact ⟨rfl, hB4⟩
      · have a5 : ((bs [ltC (toL s) k']).toList == (bs [ltC (toL s) k]).toList) = false := by rw [toList_toL, toList_toL, toL_bs, toL_bs]; simpa using hne
        generalize ltC (toL s) k' = c' at *
        generalize ltC (toL s) k = c at *
        clear hTT hP h hTl hX hn hne hke
        go_wp2_with fail
        refine (iTurnAt_c s _ W1 HT1.out).mono ?_
        rintro e W2 ⟨rfl, hb2⟩
        rw [H1]
        go_wp2_with fail
        refine (sTurnAt_c s _ W2).mono ?_
        rintro e W3 ⟨rfl, rfl⟩
        rw [H1]
        have hB2 := Blw.after hb1 hb2
        have HT2 := Lib.hid (HT.out.keep h6 hB2)
        go_wp2_with fail
        refine (iTurnWord_c s _ HT2.out).mono ?_
        rintro e W3 ⟨rfl, hb3⟩
        rw [H2.out]
        have hB3 := Blw.after hB2 hb3
        have HT3 := Lib.hid (HT.out.keep h6 hB3)
        go_wp2_with fail
        refine (iTurnAt_c s ((k' : Int) + 1) _ HT3.out).mono ?_
        rintro e W4 ⟨rfl, hb4⟩
        rw [H3.out]
        have hB4 := Blw.after hB3 hb4
        go_wp2_with fail
        all_goals
          go_ret
          exact ⟨rfl, hB4⟩

namespace lawFnAt
set_option maxRecDepth 100000 in
theorem lifted (os : Os) (started : os.Started) (H : Type) (enc : TypeId × Value → H) :
    ReturnsInHanded {} Tryd.checked os 4 .any (fun w args => (Rows.fnAtSpec.pre enc Tryd.prog Tryd.f4 Rows.fnAtRow.domain false w args ∧ laidMetH Tryd.prog Rows.fnAtRow.laid w) ∧ sizedMet enc Tryd.prog Tryd.f4 (OpenSpec.ofChange Rows.fnAtSpec) false w args)
      (Rows.fnAtSpec.post enc Tryd.prog Tryd.f4 false true false false) := by
  refine returnsInHanded_of_change_and (C := Tryd.checked) (X := fun w _ => laidMetH Tryd.prog Rows.fnAtRow.laid w) (fun _ _ _ hh h => h.of_heap hh) own started (by kernel_rfl) Tryd.func4
    (ChangeSpec.witness_shaped (enc := enc) (C := Tryd.checked) (os := os) (X := fun w _ => laidMetH Tryd.prog Rows.fnAtRow.laid w) false (World.laidAll Tryd.prog os Rows.fnAtRow.laid) #[.slice none 0 0] 8 (World.laidAll_os _ _ _)
      (World.shaped_of_ZipB (by kernel_rfl) (by kernel_rfl)) (by kernel_rfl) (by kernel_rfl) (by kernel_rfl)
      (by rw [MakeChecks.laidMetH_plain _ _ _ (by kernel_rfl)]; exact laidMet_laidAll _ (by kernel_rfl) (by kernel_rfl))) ?_
  intro W base args ds gs before hval0 hW hc0 _ hL _
  have hval : ∀ (j : Nat) t v, Tryd.f4.params[j]? = some t → args[j]? = some v → Value.okWide Tryd.prog W .any base t v := hval0
  have hW' := hW
  obtain ⟨p, q, hA0, hV, rfl, _, _⟩ := hW
  have hA : DataW.TrodAll enc Tryd.prog W 0 (fun _ => true) true Tryd.f4.params.toList args.toList ds p := hA0
  rw [Tryd.params4] at hA hval
  obtain ⟨v0, vs0, d0, ds0, p0, q0, hargs, rfl, rfl, h0, r0⟩ := trodAll_cons hA
  obtain ⟨rfl, rfl, rfl⟩ := trodAll_nil r0
  obtain rfl : args = #[v0] := by cases args; simp_all
  obtain ⟨rfl, rfl⟩ := trodVars_none hV
  obtain ⟨a, len, cap, rfl⟩ := okWide_slice Tryd.underlying22 (hval 0 22 v0 rfl rfl)
  clear hA0 hval0
  simp only [List.append_nil] at hW'
  have hlt : ∀ x ∈ p0, x.block < W.heap.size := fun x hx => by simpa using hW'.lt x hx
  refine (lawAt_c a len cap W (code_of h0) (tz_second hL (fun _ => MakeChecks.laidMetH_plain _ _ _ (by kernel_rfl)))).mono fun e W' ⟨he, hg⟩ => ?_
  subst he
  have harg := Below.trod laidOut (by kernel_rfl) (of_decide_eq_true (by kernel_rfl)) h0 hg hlt
  refine ⟨_, rfl, _, _, _, [], p0, [], hW', ?_, ?_, ?_, hg.frame _, fun h => by cases h⟩
  · exact trodAll_cons_mk (shut_bool Tryd.underlying4 _) trodAll_mk0
  · exact trodAll_mk1 harg
  · rfl

theorem holds : Rows.FnAtSaid :=
  OpenClaim.holds_of_wide 4 Tryd.f4 rfl rfl rfl rfl rfl rfl rfl ⟨rfl, rfl, rfl, rfl, rfl⟩ rfl rfl rfl rfl rfl (by kernel_rfl) Tryd.func4 (by kernel_rfl)
    (of_decide_eq_true (by kernel_rfl)) (by unfold Func.isWrapper; first | (rw [if_pos (by decide +kernel)]; kernel_rfl) | (rw [if_neg (by decide +kernel)]; exact ⟨rfl, rfl⟩))
    (fun os started H enc _ => lifted os started H enc)
theorem proved : Rows.FnAtCardSaid :=
  Claim7.holds_tied_plain_at .later [] [.data, .data] true (true, "427eed556ffa03790ee2b8f217807cb1020bb7e8e847cbadd087ffee5fba2106") false holds (fun _ h => by cases h) (by kernel_rfl) (fun _ h => by cases h) fnAt_row_tie rfl ⟨rfl, rfl⟩ (by kernel_rfl) rfl
    (fun f fn hf hfn => by
      obtain rfl : f = 4 := Option.some.inj ((show Tryd.prog.funcNamed "loop.example/dragonnumbers/laws.FnAt" = some 4 by kernel_rfl).symm.trans hf) |>.symm
      obtain rfl : fn = Tryd.f4 := (Option.some.inj (Tryd.func4.symm.trans hfn)).symm
      exact ⟨by kernel_rfl, fun j t ht => by
        rw [Tryd.params4] at ht
        have hm : t ∈ [22] := by simpa using Array.mem_of_getElem? ht
        have hall : ([22].all fun u => !Tryd.prog.wantsStandIn u) = true := by kernel_rfl
        exact (show Tryd.prog.wantsStandIn t = false by simpa using List.all_eq_true.1 hall t hm)⟩)
    (by kernel_rfl)
end lawFnAt
end Go.Proofs.YtphpbnkbmopkhaaDoor

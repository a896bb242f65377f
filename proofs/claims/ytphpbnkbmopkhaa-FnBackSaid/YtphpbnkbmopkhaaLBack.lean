/- FnBack: whatever the code draws, the word turned back leads back, and its sum is the opposite. -/
import Derived.Test.YtphpbnkbmopkhaaDrawW
import Derived.Test.YtphpbnkbmopkhaaBaseP
namespace Go.Proofs.Ytphpbnkbmopkhaa
set_option linter.unusedSimpArgs false
set_option linter.unusedVariables false
open Go.ChangeShapes Go.WideShapes Go.ChangeAt Go.RowKit Go.Joins

theorem wdB_back {s : ByteArray} (h : wdB 1023 s = true) : wdB 1023 (bs (backL (toL s))) = true := by
  have hl := wdB_len h
  rw [wdB_of (by rw [bsz, backL_len, toL_len]; exact hl)]
  exact onlyW_good (by rw [toL_bs]; exact backL_wd _)
theorem back_twice {s : ByteArray} (h : wdB 1023 s = true) : strV (wdB 1023 (bs (backL (toL s)))) (backL (toL (bs (backL (toL s))))) = .tuple #[.string s, .bool true] := by
  rw [strV_t (wdB_back h), toL_bs, backL_back (wdB_all h), bs_toL]
theorem back_sum {s : ByteArray} (h : wdB 1023 s = true) : sumV (bs (backL (toL s))) = .tuple #[.int .i64 (-(sumL (toL s))), .bool true] := by
  rw [sumV_t (wdB_back h), toL_bs, sumL_back (wdB_all h)]
set_option maxHeartbeats 4000000 in
theorem lawBack_c (a : Option Addr) (len cap : Nat) (w : World) (hc : len ≤ 1048576 → Code (.slice a len cap) w) : Calls Try.prog 3 #[.slice a len cap] w fun e w' => e = .returned (.bool true) ∧ Below w.heap.size w w' := by
  by_cases hl : 1048576 < len
  · go_enter Try.func3, Try.ntmps3
    go_wp2_with fail
    go_ret
    exact ⟨rfl, by (repeat' (first | assumption | exact Below.refl _ _ | apply Blw.alloc | apply Blw.drew | apply Blw.drewN | (refine Blw.after ?_ (by assumption)) | (refine Blw.set ?_ (by first | (dsimp only; omega) | (simp; done) | (simp; omega)) _)))⟩
  · have hc' := hc (by omega)
    clear hc
    go_enter Try.func3, Try.ntmps3
    go_wp2_with fail
    refine (drawTurnBack_c _ w hc').mono ?_
    rintro e W1 ⟨s, rfl, ht, hb1⟩
    clear hc'
    rcases Bool.eq_false_or_eq_true (wdB 1023 s) with h | h
    · have H1 := strV_t h (backL (toL s))
      have H2 := Lib.hid (back_twice h)
      have H3 := Lib.hid (sumV_t h)
      have H4 := Lib.hid (back_sum h)
      have hr := sum_at s s.size (wdB_len h)
      rw [take_allB s s.size (Nat.le_refl _)] at hr
      obtain ⟨r1, r2⟩ := hr
      go_wp2_with fail
      refine (iTurnBack_c s W1).mono ?_
      rintro e W2 ⟨rfl, hb2⟩
      rw [H1]
      go_wp2_with fail
      refine (sTurnBack_c s W2).mono ?_
      rintro e W3 ⟨rfl, hb3⟩
      rw [H1]
      have hB3 := Blw.after (Blw.after hb1 hb2) hb3
      clear h H1
      generalize hB : bs (backL (toL s)) = B at *
      generalize sumL (toL s) = n at *
      go_wp2_with fail
      refine (iTurnBack_c B W3).mono ?_
      rintro e W4 ⟨rfl, hb4⟩
      rw [H2.out]
      go_wp2_with fail
      refine (iTurnSum_c s W4).mono ?_
      rintro e W5 ⟨rfl, hb5⟩
      rw [H3.out]
      go_wp2_with fail
      refine (iTurnSum_c B W5).mono ?_
      rintro e W6 ⟨rfl, hb6⟩
      rw [H4.out]
      have hB6 := Blw.after (Blw.after (Blw.after hB3 hb4) hb5) hb6
      go_wp2_with fail
      go_ret
      exact ⟨rfl, hB6⟩
    · have H1 := strV_f h (backL (toL s))
      go_wp2_with fail
      refine (iTurnBack_c s W1).mono ?_
      rintro e W2 ⟨rfl, hb2⟩
      rw [H1]
      go_wp2_with fail
      refine (sTurnBack_c s W2).mono ?_
      rintro e W3 ⟨rfl, hb3⟩
      rw [H1]
      have hB3 := Blw.after (Blw.after hb1 hb2) hb3
      clear h H1
      go_wp2_with fail
      go_ret
      exact ⟨rfl, hB3⟩

namespace lawFnBack
set_option maxRecDepth 100000 in
theorem lifted (os : Os) (started : os.Started) (H : Type) (enc : TypeId × Value → H) :
    ReturnsInHanded {} Try.checked os 3 .any (Rows.fnBackSpec.pre6 enc Try.prog Try.f3 Rows.fnBackRow.domain false) (Rows.fnBackSpec.post enc Try.prog Try.f3 false true false false) := by
  refine returnsInHanded_of_change (C := Try.checked) own started (by kernel_rfl) Try.func3
    (ChangeSpec.witness6 (enc := enc) (C := Try.checked) false ⟨#[], #[.slice none 0 0], []⟩ 8 (by kernel_rfl) (by kernel_rfl) (by kernel_rfl) (by kernel_rfl)) ?_
  intro W base args ds gs before hval0 hW _ _
  have hval : ∀ (j : Nat) t v, Try.f3.params[j]? = some t → args[j]? = some v → Value.okWide Try.prog W .any base t v := hval0
  have hW' := hW
  obtain ⟨p, q, hA0, hV, rfl, _, _⟩ := hW
  have hA : DataW.TrodAll enc Try.prog W 0 (fun _ => true) true Try.f3.params.toList args.toList ds p := hA0
  rw [Try.params3] at hA hval
  obtain ⟨v0, vs0, d0, ds0, p0, q0, hargs, rfl, rfl, h0, r0⟩ := trodAll_cons hA
  obtain ⟨rfl, rfl, rfl⟩ := trodAll_nil r0
  obtain rfl : args = #[v0] := by cases args; simp_all
  obtain ⟨rfl, rfl⟩ := trodVars_none hV
  obtain ⟨a, len, cap, rfl⟩ := okWide_slice Try.underlying22 (hval 0 22 v0 rfl rfl)
  clear hA0 hval0
  simp only [List.append_nil] at hW'
  have hlt : ∀ x ∈ p0, x.block < W.heap.size := fun x hx => by simpa using hW'.lt x hx
  refine (lawBack_c a len cap W (code_of h0)).mono fun e W' ⟨he, hg⟩ => ?_
  subst he
  have harg := Below.trod laidOut (by kernel_rfl) (of_decide_eq_true (by kernel_rfl)) h0 hg hlt
  refine ⟨_, rfl, _, _, _, [], p0, [], hW', ?_, ?_, ?_, hg.frame _, fun h => by cases h⟩
  · exact trodAll_cons_mk (shut_bool Try.underlying4 _) trodAll_mk0
  · exact trodAll_mk1 harg
  · rfl

theorem proved : Rows.FnBackSaid :=
  OpenClaim.holds_of_wide 3 Try.f3 rfl rfl rfl rfl rfl rfl rfl ⟨rfl, rfl, rfl, rfl, rfl⟩ rfl rfl rfl rfl rfl (by kernel_rfl) Try.func3 (by kernel_rfl)
    (of_decide_eq_true (by kernel_rfl)) (by unfold Func.isWrapper; first | (rw [if_pos (by decide +kernel)]; kernel_rfl) | (rw [if_neg (by decide +kernel)]; exact ⟨rfl, rfl⟩))
    (fun os started H enc _ => lifted os started H enc)
end lawFnBack
end Go.Proofs.Ytphpbnkbmopkhaa

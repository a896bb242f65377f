/- FnSumTurns: whatever the code draws, the number of letters has the length's parity, and the word unfolded with l has the sum 1. -/
import Derived.Test.YtphpbnkbmopkhaaDrawW
import Derived.Test.YtphpbnkbmopkhaaBaseP
namespace Go.Proofs.Ytphpbnkbmopkhaa
set_option linter.unusedSimpArgs false
set_option linter.unusedVariables false
open Go.ChangeShapes Go.WideShapes Go.ChangeAt Go.RowKit Go.Joins

theorem tmod2' (a : Int) : (a % 2 = 0 ∧ a.tmod 2 = 0) ∨ (a % 2 = 1 ∧ (a.tmod 2 = 1 ∨ a.tmod 2 = -1)) := by
  rcases Int.le_total 0 a with h | h
  · rw [Int.tmod_eq_emod_of_nonneg h]; omega
  · have e : a.tmod 2 = -((-a) % 2) := by rw [← Int.tmod_eq_emod_of_nonneg (by omega : 0 ≤ -a), Int.neg_tmod]; omega
    rw [e]; omega
abbrev lB : ByteArray := ⟨#[108]⟩
theorem unf_word {s : ByteArray} (h : wdB 511 s = true) (c : ByteArray) (hc : (toL c == [108]) = true ∨ (toL c == [114]) = true) : wdB 1023 (bs (toL s ++ toL c ++ backL (toL s))) = true := by
  have hl := wdB_len h
  have h1 : (toL c).length = 1 := by rcases hc with h | h <;> rw [eq_of_beq h] <;> rfl
  rw [wdB_of (by rw [bsz, List.length_append, List.length_append, backL_len, toL_len, h1]; omega)]
  refine onlyW_good ?_
  rw [toL_bs]
  intro a ha
  simp only [List.mem_append] at ha
  rcases ha with (ha | ha) | ha
  · exact wdB_all h a ha
  · rcases hc with h | h <;> rw [eq_of_beq h] at ha <;> simp at ha <;> rw [ha] <;> rfl
  · exact backL_wd _ a ha
theorem unf_sum {s : ByteArray} (h : wdB 511 s = true) : sumV (bs (toL s ++ toL lB ++ backL (toL s))) = .tuple #[.int .i64 1, .bool true] := by
  rw [sumV_t (unf_word h lB (Or.inl rfl)), toL_bs]
  have e : sumL (toL s ++ [108] ++ backL (toL s)) = 1 := by rw [sumL_unfold (wdB_all h)]; rfl
  rw [show toL lB = [108] from rfl, e]
set_option maxHeartbeats 4000000 in
theorem lawSumTurns_c (a : Option Addr) (len cap : Nat) (w : World) (hc : len ≤ 1048576 → Code (.slice a len cap) w) : Calls Try.prog 5 #[.slice a len cap] w fun e w' => e = .returned (.bool true) ∧ Below w.heap.size w w' := by
  by_cases hl : 1048576 < len
  · go_enter Try.func5, Try.ntmps5
    go_wp2_with fail
    go_ret
    exact ⟨rfl, by (repeat' (first | assumption | exact Below.refl _ _ | apply Blw.alloc | apply Blw.drew | apply Blw.drewN | (refine Blw.after ?_ (by assumption)) | (refine Blw.set ?_ (by first | (dsimp only; omega) | (simp; done) | (simp; omega)) _)))⟩
  · have hc' := hc (by omega)
    clear hc
    go_enter Try.func5, Try.ntmps5
    go_wp2_with fail
    refine (drawTurnSum_c _ w hc').mono ?_
    rintro e W1 ⟨s, rfl, ht, hb1⟩
    clear hc'
    rcases Bool.eq_false_or_eq_true (wdB 1023 s) with h | h
    · have H1 := sumV_t h
      obtain ⟨r1, r2, r3⟩ := sumL_in (toL s)
      rw [toL_len] at r1 r2 r3
      have hs := wdB_len h
      have e3 : (sumL (toL s) - (s.size : Int)).tmod 2 = 0 := by
        rcases tmod2' (sumL (toL s) - (s.size : Int)) with h | h <;> omega
      go_wp2_with fail
      refine (iTurnSum_c s W1).mono ?_
      rintro e W2 ⟨rfl, hb2⟩
      rw [H1]
      go_wp2_with fail
      refine (sTurnSum_c s W2).mono ?_
      rintro e W3 ⟨rfl, hb3⟩
      rw [H1]
      have hB3 := Blw.after (Blw.after hb1 hb2) hb3
      by_cases h5 : s.size ≤ 511
      · have H2 := Lib.hid (unfV_t (unfB_yes (c := lB) (wdB_less h h5) (Or.inl rfl)))
        have H3 := Lib.hid (unf_sum (wdB_less h h5))
        clear h H1
        generalize sumL (toL s) = n at *
        go_wp2_with fail
        refine (iTurnUnfold_c s lB W3).mono ?_
        rintro e W4 ⟨rfl, hb4⟩
        rw [H2.out]
        generalize bs (toL s ++ toL lB ++ backL (toL s)) = U at *
        go_wp2_with fail
        refine (iTurnSum_c U W4).mono ?_
        rintro e W5 ⟨rfl, hb5⟩
        rw [H3.out]
        have hB5 := Blw.after (Blw.after hB3 hb4) hb5
        go_wp2_with fail
        go_ret
        exact ⟨rfl, hB5⟩
      · have H2 := Lib.hid (unfV_f (unfB_no (s := s) (c := lB) (wdB_long (by omega))))
        clear h H1
        generalize sumL (toL s) = n at *
        go_wp2_with fail
        refine (iTurnUnfold_c s lB W3).mono ?_
        rintro e W4 ⟨rfl, hb4⟩
        rw [H2.out]
        go_wp2_with fail
        refine (iTurnSum_c _ W4).mono ?_
        rintro e W5 ⟨rfl, hb5⟩
        have hB5 := Blw.after (Blw.after hB3 hb4) hb5
        go_wp2_with fail
        go_ret
        exact ⟨rfl, hB5⟩
    · have H1 := sumV_f h
      go_wp2_with fail
      refine (iTurnSum_c s W1).mono ?_
      rintro e W2 ⟨rfl, hb2⟩
      rw [H1]
      go_wp2_with fail
      refine (sTurnSum_c s W2).mono ?_
      rintro e W3 ⟨rfl, hb3⟩
      rw [H1]
      have hB3 := Blw.after (Blw.after hb1 hb2) hb3
      go_wp2_with fail
      go_ret
      exact ⟨rfl, hB3⟩

namespace lawFnSumTurns
set_option maxRecDepth 100000 in
theorem lifted (os : Os) (started : os.Started) (H : Type) (enc : TypeId × Value → H) :
    ReturnsInHanded {} Try.checked os 5 .any (Rows.fnSumTurnsSpec.pre6 enc Try.prog Try.f5 Rows.fnSumTurnsRow.domain false) (Rows.fnSumTurnsSpec.post enc Try.prog Try.f5 false true false false) := by
  refine returnsInHanded_of_change (C := Try.checked) own started (by kernel_rfl) Try.func5
    (ChangeSpec.witness6 (enc := enc) (C := Try.checked) false ⟨#[], #[.slice none 0 0], []⟩ 8 (by kernel_rfl) (by kernel_rfl) (by kernel_rfl) (by kernel_rfl)) ?_
  intro W base args ds gs before hval0 hW _ _
  have hval : ∀ (j : Nat) t v, Try.f5.params[j]? = some t → args[j]? = some v → Value.okWide Try.prog W .any base t v := hval0
  have hW' := hW
  obtain ⟨p, q, hA0, hV, rfl, _, _⟩ := hW
  have hA : DataW.TrodAll enc Try.prog W 0 (fun _ => true) true Try.f5.params.toList args.toList ds p := hA0
  rw [Try.params5] at hA hval
  obtain ⟨v0, vs0, d0, ds0, p0, q0, hargs, rfl, rfl, h0, r0⟩ := trodAll_cons hA
  obtain ⟨rfl, rfl, rfl⟩ := trodAll_nil r0
  obtain rfl : args = #[v0] := by cases args; simp_all
  obtain ⟨rfl, rfl⟩ := trodVars_none hV
  obtain ⟨a, len, cap, rfl⟩ := okWide_slice Try.underlying22 (hval 0 22 v0 rfl rfl)
  clear hA0 hval0
  simp only [List.append_nil] at hW'
  have hlt : ∀ x ∈ p0, x.block < W.heap.size := fun x hx => by simpa using hW'.lt x hx
  refine (lawSumTurns_c a len cap W (code_of h0)).mono fun e W' ⟨he, hg⟩ => ?_
  subst he
  have harg := Below.trod laidOut (by kernel_rfl) (of_decide_eq_true (by kernel_rfl)) h0 hg hlt
  refine ⟨_, rfl, _, _, _, [], p0, [], hW', ?_, ?_, ?_, hg.frame _, fun h => by cases h⟩
  · exact trodAll_cons_mk (shut_bool Try.underlying4 _) trodAll_mk0
  · exact trodAll_mk1 harg
  · rfl

theorem proved : Rows.FnSumTurnsSaid :=
  OpenClaim.holds_of_wide 5 Try.f5 rfl rfl rfl rfl rfl rfl rfl ⟨rfl, rfl, rfl, rfl, rfl⟩ rfl rfl rfl rfl rfl (by kernel_rfl) Try.func5 (by kernel_rfl)
    (of_decide_eq_true (by kernel_rfl)) (by unfold Func.isWrapper; first | (rw [if_pos (by decide +kernel)]; kernel_rfl) | (rw [if_neg (by decide +kernel)]; exact ⟨rfl, rfl⟩))
    (fun os started H enc _ => lifted os started H enc)
end lawFnSumTurns
end Go.Proofs.Ytphpbnkbmopkhaa

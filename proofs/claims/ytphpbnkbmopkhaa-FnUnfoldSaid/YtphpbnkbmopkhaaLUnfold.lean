/- FnUnfold: whatever the code draws, the word unfolded, turned back, is the word unfolded with the other letter. -/
import Derived.Test.YtphpbnkbmopkhaaDrawU
import Derived.Test.YtphpbnkbmopkhaaBaseP
namespace Go.Proofs.Ytphpbnkbmopkhaa
set_option linter.unusedSimpArgs false
set_option linter.unusedVariables false
open Go.ChangeShapes Go.WideShapes Go.ChangeAt Go.RowKit Go.Joins

theorem unf_len {s c : ByteArray} (hc : (toL c == [108]) = true ∨ (toL c == [114]) = true) : (bs (toL s ++ toL c ++ backL (toL s))).size = 2 * s.size + 1 := by
  have h1 : (toL c).length = 1 := by rcases hc with h | h <;> rw [eq_of_beq h] <;> rfl
  rw [bsz, List.length_append, List.length_append, backL_len, toL_len, h1]; omega
theorem unf_back {s : ByteArray} (hw : ∀ c ∈ toL s, wdC c = true) (c : UInt8) : backL (toL s ++ [c] ++ backL (toL s)) = toL s ++ [oth c] ++ backL (toL s) := by
  rw [backL_append, backL_snoc, backL_back hw]; simp
theorem unf_wd {s c : ByteArray} (h : wdB 511 s = true) (hc : (toL c == [108]) = true ∨ (toL c == [114]) = true) : wdB 1023 (bs (toL s ++ toL c ++ backL (toL s))) = true := by
  have hl := wdB_len h
  rw [wdB_of (by rw [unf_len hc]; omega)]
  refine onlyW_good ?_
  rw [toL_bs]
  intro a ha
  simp only [List.mem_append] at ha
  rcases ha with (ha | ha) | ha
  · exact wdB_all h a ha
  · rcases hc with h | h <;> rw [eq_of_beq h] at ha <;> simp at ha <;> rw [ha] <;> rfl
  · exact backL_wd _ a ha
theorem unf_turn {s c o : ByteArray} (h : wdB 511 s = true) (h1 : (toL c == [108]) = true ∧ toL o = [114] ∨ (toL c == [114]) = true ∧ toL o = [108]) :
    strV (wdB 1023 (bs (toL s ++ toL c ++ backL (toL s)))) (backL (toL (bs (toL s ++ toL c ++ backL (toL s))))) = .tuple #[.string (bs (toL s ++ toL o ++ backL (toL s))), .bool true] := by
  rw [strV_t (unf_wd h (h1.imp (·.1) (·.1))), toL_bs]
  rcases h1 with ⟨e, e'⟩ | ⟨e, e'⟩ <;> rw [eq_of_beq e, e', unf_back (wdB_all h)] <;> rfl
set_option maxHeartbeats 4000000 in
theorem lawUnfold_c (a : Option Addr) (len cap : Nat) (w : World) (hc : len ≤ 1048576 → Code (.slice a len cap) w) : Calls Try.prog 4 #[.slice a len cap] w fun e w' => e = .returned (.bool true) ∧ Below w.heap.size w w' := by
  by_cases hl : 1048576 < len
  · go_enter Try.func4, Try.ntmps4
    go_wp2_with fail
    go_ret
    exact ⟨rfl, by (repeat' (first | assumption | exact Below.refl _ _ | apply Blw.alloc | apply Blw.drew | apply Blw.drewN | (refine Blw.after ?_ (by assumption)) | (refine Blw.set ?_ (by first | (dsimp only; omega) | (simp; done) | (simp; omega)) _)))⟩
  · have hc' := hc (by omega)
    clear hc
    go_enter Try.func4, Try.ntmps4
    go_wp2_with fail
    refine (drawTurnUnfold_c _ w hc').mono ?_
    rintro e W1 ⟨s, c, rfl, ht, hu, hb1⟩
    clear hc'
    rcases Bool.eq_false_or_eq_true (unfB s c) with h | h
    · have h' := h
      unfold unfB at h'
      rw [Bool.and_eq_true, Bool.or_eq_true] at h'
      obtain ⟨hw, hcc⟩ := h'
      have H1 := unfV_t h
      have hUl := unf_len (s := s) hcc
      have hs5 := wdB_len hw
      rcases Bool.eq_false_or_eq_true (toL c == [108]) with hc1 | hc1
      all_goals
        first
        | have a1 : (c.toList == [108]) = true := by rw [toList_toL]; exact hc1
          have H2 := Lib.hid (unf_turn (o := ⟨#[114]⟩) hw (Or.inl ⟨hc1, rfl⟩))
          have H3 := Lib.hid (unfV_t (unfB_yes (c := ⟨#[114]⟩) hw (Or.inr rfl)))
          generalize bs (toL s ++ toL (⟨#[114]⟩ : ByteArray) ++ backL (toL s)) = V at H2 H3
        | have a1 : (c.toList == [108]) = false := by rw [toList_toL]; exact hc1
          have H2 := Lib.hid (unf_turn (o := ⟨#[108]⟩) hw (Or.inr ⟨hcc.resolve_left (by rw [hc1]; simp), rfl⟩))
          have H3 := Lib.hid (unfV_t (unfB_yes (c := ⟨#[108]⟩) hw (Or.inl rfl)))
          generalize bs (toL s ++ toL (⟨#[108]⟩ : ByteArray) ++ backL (toL s)) = V at H2 H3
        clear hc1 hcc hw h
        generalize hU : bs (toL s ++ toL c ++ backL (toL s)) = U at *
        go_wp2_with fail
        refine (iTurnUnfold_c s c W1).mono ?_
        rintro e W2 ⟨rfl, hb2⟩
        rw [H1]
        go_wp2_with fail
        refine (sTurnUnfold_c s c W2).mono ?_
        rintro e W3 ⟨rfl, hb3⟩
        rw [H1]
        have hB3 := Blw.after (Blw.after hb1 hb2) hb3
        clear H1
        go_wp2_with fail
        refine (iTurnBack_c U W3).mono ?_
        rintro e W4 ⟨rfl, hb4⟩
        rw [H2.out]
        go_wp2_with fail
        refine (iTurnUnfold_c s _ W4).mono ?_
        rintro e W5 ⟨rfl, hb5⟩
        rw [H3.out]
        have hB5 := Blw.after (Blw.after hB3 hb4) hb5
        go_wp2_with fail
        go_ret
        exact ⟨rfl, hB5⟩
    · have H1 := unfV_f h
      go_wp2_with fail
      refine (iTurnUnfold_c s c W1).mono ?_
      rintro e W2 ⟨rfl, hb2⟩
      rw [H1]
      go_wp2_with fail
      refine (sTurnUnfold_c s c W2).mono ?_
      rintro e W3 ⟨rfl, hb3⟩
      rw [H1]
      have hB3 := Blw.after (Blw.after hb1 hb2) hb3
      go_wp2_with fail
      go_ret
      exact ⟨rfl, hB3⟩

namespace lawFnUnfold
set_option maxRecDepth 100000 in
theorem lifted (os : Os) (started : os.Started) (H : Type) (enc : TypeId × Value → H) :
    ReturnsInHanded {} Try.checked os 4 .any (Rows.fnUnfoldSpec.pre6 enc Try.prog Try.f4 Rows.fnUnfoldRow.domain false) (Rows.fnUnfoldSpec.post enc Try.prog Try.f4 false true false false) := by
  refine returnsInHanded_of_change (C := Try.checked) own started (by kernel_rfl) Try.func4
    (ChangeSpec.witness6 (enc := enc) (C := Try.checked) false ⟨#[], #[.slice none 0 0], []⟩ 8 (by kernel_rfl) (by kernel_rfl) (by kernel_rfl) (by kernel_rfl)) ?_
  intro W base args ds gs before hval0 hW _ _
  have hval : ∀ (j : Nat) t v, Try.f4.params[j]? = some t → args[j]? = some v → Value.okWide Try.prog W .any base t v := hval0
  have hW' := hW
  obtain ⟨p, q, hA0, hV, rfl, _, _⟩ := hW
  have hA : DataW.TrodAll enc Try.prog W 0 (fun _ => true) true Try.f4.params.toList args.toList ds p := hA0
  rw [Try.params4] at hA hval
  obtain ⟨v0, vs0, d0, ds0, p0, q0, hargs, rfl, rfl, h0, r0⟩ := trodAll_cons hA
  obtain ⟨rfl, rfl, rfl⟩ := trodAll_nil r0
  obtain rfl : args = #[v0] := by cases args; simp_all
  obtain ⟨rfl, rfl⟩ := trodVars_none hV
  obtain ⟨a, len, cap, rfl⟩ := okWide_slice Try.underlying22 (hval 0 22 v0 rfl rfl)
  clear hA0 hval0
  simp only [List.append_nil] at hW'
  have hlt : ∀ x ∈ p0, x.block < W.heap.size := fun x hx => by simpa using hW'.lt x hx
  refine (lawUnfold_c a len cap W (code_of h0)).mono fun e W' ⟨he, hg⟩ => ?_
  subst he
  have harg := Below.trod laidOut (by kernel_rfl) (of_decide_eq_true (by kernel_rfl)) h0 hg hlt
  refine ⟨_, rfl, _, _, _, [], p0, [], hW', ?_, ?_, ?_, hg.frame _, fun h => by cases h⟩
  · exact trodAll_cons_mk (shut_bool Try.underlying4 _) trodAll_mk0
  · exact trodAll_mk1 harg
  · rfl

theorem proved : Rows.FnUnfoldSaid :=
  OpenClaim.holds_of_wide 4 Try.f4 rfl rfl rfl rfl rfl rfl rfl ⟨rfl, rfl, rfl, rfl, rfl⟩ rfl rfl rfl rfl rfl (by kernel_rfl) Try.func4 (by kernel_rfl)
    (of_decide_eq_true (by kernel_rfl)) (by unfold Func.isWrapper; first | (rw [if_pos (by decide +kernel)]; kernel_rfl) | (rw [if_neg (by decide +kernel)]; exact ⟨rfl, rfl⟩))
    (fun os started H enc _ => lifted os started H enc)
end lawFnUnfold
end Go.Proofs.Ytphpbnkbmopkhaa

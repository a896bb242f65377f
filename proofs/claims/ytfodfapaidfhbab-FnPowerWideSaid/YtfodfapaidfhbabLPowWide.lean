/- FnPowerWide: whatever the code draws, the powers in complex128 are those of the model, and multiplied by the base as often as they were divided they are 1; no condition. -/
import Derived.Test.YtfodfapaidfhbabSame
import Derived.Test.YtfodfapaidfhbabPb
import Derived.Test.YtfodfapaidfhbabDrawP
import Derived.Test.YtfodfapaidfhbabBaseP
namespace Go.Proofs.Ytfodfapaidfhbab
set_option linter.unusedSimpArgs false
set_option linter.unusedVariables false
open Go.ChangeShapes Go.WideShapes Go.ChangeAt Go.RowKit Go.Joins

set_option maxHeartbeats 4000000 in
set_option maxRecDepth 10000 in
theorem lawPowWide_c (a : Option Addr) (len cap : Nat) (w : World) (hc : len ≤ 1048576 → Code (.slice a len cap) w) : Calls Try.prog 5 #[.slice a len cap] w fun e w' => e = .returned (.bool true) ∧ Below w.heap.size w w' := by
  by_cases hl : 1048576 < len
  · go_enter Try.func5, Try.ntmps5
    go_wp2_with fail
    go_ret
    exact ⟨rfl, by (repeat' (first | assumption | exact Below.refl _ _ | apply Blw.alloc | apply Blw.drew | apply Blw.drewN | (refine Blw.after ?_ (by assumption)) | (refine Blw.set ?_ (by first | (dsimp only; omega) | (simp; done) | (simp; omega)) _)))⟩
  · have hc' := hc (by omega)
    clear hc
    go_enter Try.func5, Try.ntmps5
    go_wp2_with fail
    refine (drawPowerW_c _ w hc').mono ?_
    rintro e W1 ⟨k, rfl, hk, hb1⟩
    clear hc'
    rcases Bool.eq_false_or_eq_true (inR 0 320 k) with h1 | h1
    · obtain ⟨t, rfl⟩ : ∃ t : Nat, k = t := ⟨k.toNat, by simp [inR] at h1; omega⟩
      have ht : t ≤ 320 := by simp [inR] at h1; omega
      have V64 : powV .f64 (t : Int) = .tuple #[.complex .f64 (pw .f64 t).1 (pw .f64 t).2, .bool true] := powV_yes h1
      have hI : ∀ w, Calls Try.prog 21 #[.int .i64 t] w fun e w' => e = .returned (.tuple #[.complex .f64 (pw .f64 t).1 (pw .f64 t).2, .bool true]) ∧ w = w' := fun w => by rw [← V64]; exact iPowerWide_c _ w
      have hS : ∀ w, Calls Try.prog 22 #[.int .i64 t] w fun e w' => e = .returned (.tuple #[.complex .f64 (pw .f64 t).1 (pw .f64 t).2, .bool true]) ∧ w = w' := fun w => by rw [← V64]; exact sPowerWide_c _ w
      obtain ⟨o1, o2⟩ := pt_self (k := .f64) (pw_pt .f64 t)
      have hE := fun w => sameWide_c (pw .f64 t).1 (pw .f64 t).2 w o1 o2
      have hT := fun w => timesBase_c' (pw .f64 t).1 (pw .f64 t).2 t _ w (by omega) (pw_vl t).1 (pw_lt64 t) (fun j hj => by
        have h := back_all ht (j + 1) hj
        have h2 : tb (tbI j (val2 (pw .f64 t))) = val2 (pw .f64 (t - (j + 1))) := h
        rw [h2]; exact (pw_vl _).2)
      rw [back_all ht t (Nat.le_refl _), Nat.sub_self] at hT
      clear V64 h1
      generalize (pw .f64 t).1 = x at *
      generalize (pw .f64 t).2 = y at *
      go_wp2_with (first | (go_at_call 21; refine (hI _).mono ?_; rintro e w1 ⟨rfl, rfl⟩) | (go_at_call 22; refine (hS _).mono ?_; rintro e w1 ⟨rfl, rfl⟩) | (go_at_call 13; refine (hE _).mono ?_; rintro e w1 ⟨rfl, rfl⟩))
      refine (hT _).mono ?_
      rintro e W2 ⟨r, i, rfl, ⟨v1, v2⟩, -, rfl⟩
      have g1 : FloatKind.f64.format.order r 4607182418800017408 = some .eq := vl_same v1 one_val.1
      have g2 : FloatKind.f64.format.order i 0 = some .eq := vl_same v2 one_val.2
      clear v1 v2 hT
      go_wp2_with fail
      go_ret
      exact ⟨rfl, by (repeat' (first | assumption | exact Below.refl _ _ | apply Blw.alloc | apply Blw.drew | apply Blw.drewN | (refine Blw.after ?_ (by assumption)) | (refine Blw.set ?_ (by first | (dsimp only; omega) | (simp; done) | (simp; omega)) _)))⟩
    · have V64 : powV .f64 k = .tuple #[.complex .f64 0 0, .bool false] := powV_no h1
      have hI : ∀ w, Calls Try.prog 21 #[.int .i64 k] w fun e w' => e = .returned (.tuple #[.complex .f64 0 0, .bool false]) ∧ w = w' := fun w => by rw [← V64]; exact iPowerWide_c _ w
      have hS : ∀ w, Calls Try.prog 22 #[.int .i64 k] w fun e w' => e = .returned (.tuple #[.complex .f64 0 0, .bool false]) ∧ w = w' := fun w => by rw [← V64]; exact sPowerWide_c _ w
      have o1 : FloatKind.f64.format.order 0 0 = some .eq := by decide +kernel
      have hE := fun w => sameWide_c 0 0 w o1 o1
      go_wp2_with (first | (go_at_call 21; refine (hI _).mono ?_; rintro e w1 ⟨rfl, rfl⟩) | (go_at_call 22; refine (hS _).mono ?_; rintro e w1 ⟨rfl, rfl⟩) | (go_at_call 13; refine (hE _).mono ?_; rintro e w1 ⟨rfl, rfl⟩))
      go_ret
      exact ⟨rfl, by (repeat' (first | assumption | exact Below.refl _ _ | apply Blw.alloc | apply Blw.drew | apply Blw.drewN | (refine Blw.after ?_ (by assumption)) | (refine Blw.set ?_ (by first | (dsimp only; omega) | (simp; done) | (simp; omega)) _)))⟩

namespace lawFnPowerWide
set_option maxRecDepth 100000 in
theorem lifted (os : Os) (started : os.Started) (H : Type) (enc : TypeId × Value → H) :
    ReturnsInHanded {} Try.checked os 5 .any (Rows.fnPowerWideSpec.pre6 enc Try.prog Try.f5 Rows.fnPowerWideRow.domain false) (Rows.fnPowerWideSpec.post enc Try.prog Try.f5 false true false false) := by
  refine returnsInHanded_of_change (C := Try.checked) own started (by kernel_rfl) Try.func5
    (ChangeSpec.witness6 (enc := enc) (C := Try.checked) false ⟨#[], #[.slice none 0 0], []⟩ 8 (by kernel_rfl) (by kernel_rfl) (by kernel_rfl) (by kernel_rfl)) ?_
  intro W base args ds gs before hval0 hW _ _
  have hval : ∀ (j : Nat) t v, Try.f5.params[j]? = some t → args[j]? = some v → Value.okWide Try.prog W .any base t v := hval0
  have hW' := hW
  obtain ⟨p, q, hA0, hV, rfl, _, _⟩ := hW
  have hA : DataW.TrodAll enc Try.prog W 0 (fun _ => true) true Try.f5.params.toList args.toList ds p := hA0
  rw [Try.params5] at hA hval
  obtain ⟨v0, vs0, d0, ds0, p0, q0, hargs, rfl, rfl, h0, r0⟩ := trodAll_cons hA
  obtain ⟨rfl, rfl, rfl⟩ := trodAll_nil r0
  obtain rfl : args = #[v0] := by cases args; simp_all
  obtain ⟨rfl, rfl⟩ := trodVars_none hV
  obtain ⟨a, len, cap, rfl⟩ := okWide_slice Try.underlying22 (hval 0 22 v0 rfl rfl)
  clear hA0 hval0
  simp only [List.append_nil] at hW'
  have hlt : ∀ x ∈ p0, x.block < W.heap.size := fun x hx => by simpa using hW'.lt x hx
  refine (lawPowWide_c a len cap W (code_of h0)).mono fun e W' ⟨he, hg⟩ => ?_
  subst he
  have harg := Below.trod laidOut (by kernel_rfl) (of_decide_eq_true (by kernel_rfl)) h0 hg hlt
  refine ⟨_, rfl, _, _, _, [], p0, [], hW', ?_, ?_, ?_, hg.frame _, fun h => by cases h⟩
  · exact trodAll_cons_mk (shut_bool Try.underlying4 _) trodAll_mk0
  · exact trodAll_mk1 harg
  · rfl

theorem proved : Rows.FnPowerWideSaid :=
  OpenClaim.holds_of_wide 5 Try.f5 rfl rfl rfl rfl rfl rfl rfl ⟨rfl, rfl, rfl, rfl, rfl⟩ rfl rfl rfl rfl rfl (by kernel_rfl) Try.func5 (by kernel_rfl)
    (of_decide_eq_true (by kernel_rfl)) (by unfold Func.isWrapper; first | (rw [if_pos (by decide +kernel)]; kernel_rfl) | (rw [if_neg (by decide +kernel)]; exact ⟨rfl, rfl⟩))
    (fun os started H enc _ => lifted os started H enc)
end lawFnPowerWide
end Go.Proofs.Ytfodfapaidfhbab

/- FnPowerSingle: whatever the code draws, single powers are those of the model, equal to the wide ones up to 298, and 0 from 299 on; no condition. -/
import Derived.Test.YtfodfapaidfhbabSame
import Derived.Test.YtfodfapaidfhbabPt
import Derived.Test.YtfodfapaidfhbabDrawP
import Derived.Test.YtfodfapaidfhbabBaseP
namespace Go.Proofs.Ytfodfapaidfhbab
set_option linter.unusedSimpArgs false
set_option linter.unusedVariables false
open Go.ChangeShapes Go.WideShapes Go.ChangeAt Go.RowKit Go.Joins

theorem ret_true {a : Bool} (h : a = true) : Ending.returned (.bool a) = .returned (.bool true) := by rw [h]
theorem same_eq {a b : Nat} (h : same a b = true) : FloatKind.f64.format.order a b = some .eq := beq_iff_eq.1 h
theorem up_word {x X : Nat} (h : floatToFloatBits .f32 x .f64 = some X) : upW x = X := by unfold upW gd; rw [h]; rfl
theorem pow_cases {t : Nat} (ht : t ≤ 320) {X Y : Nat} (h1 : floatToFloatBits .f32 (pw .f32 t).1 .f64 = some X) (h2 : floatToFloatBits .f32 (pw .f32 t).2 .f64 = some Y) :
    (t ≤ 298 → FloatKind.f64.format.order X (pw .f64 t).1 = some .eq ∧ FloatKind.f64.format.order Y (pw .f64 t).2 = some .eq) ∧
    (299 ≤ t → FloatKind.f32.format.order (pw .f32 t).1 0 = some .eq ∧ FloatKind.f32.format.order (pw .f32 t).2 0 = some .eq) := by
  have h := one_at ht
  unfold chkOne at h
  rw [up_word h1, up_word h2] at h
  simp only [Bool.and_eq_true, Bool.or_eq_true, decide_eq_true_eq, beq_iff_eq] at h
  obtain ⟨a, b⟩ := h
  constructor
  · intro hh
    rcases a with a | a
    · omega
    · exact ⟨same_eq a.1, same_eq a.2⟩
  · intro hh
    rcases b with b | b
    · omega
    · exact ⟨b.1.2, b.2⟩
set_option maxHeartbeats 4000000 in
set_option maxRecDepth 10000 in
theorem lawPowSingle_c (a : Option Addr) (len cap : Nat) (w : World) (hc : len ≤ 1048576 → Code (.slice a len cap) w) : Calls Try.prog 6 #[.slice a len cap] w fun e w' => e = .returned (.bool true) ∧ Below w.heap.size w w' := by
  by_cases hl : 1048576 < len
  · go_enter Try.func6, Try.ntmps6
    go_wp2_with fail
    go_ret
    exact ⟨rfl, by (repeat' (first | assumption | exact Below.refl _ _ | apply Blw.alloc | apply Blw.drew | apply Blw.drewN | (refine Blw.after ?_ (by assumption)) | (refine Blw.set ?_ (by first | (dsimp only; omega) | (simp; done) | (simp; omega)) _)))⟩
  · have hc' := hc (by omega)
    clear hc
    go_enter Try.func6, Try.ntmps6
    go_wp2_with fail
    refine (drawPowerS_c _ w hc').mono ?_
    rintro e W1 ⟨k, rfl, hk, hb1⟩
    clear hc'
    rcases Bool.eq_false_or_eq_true (inR 0 320 k) with h1 | h1
    · obtain ⟨t, rfl⟩ : ∃ t : Nat, k = t := ⟨k.toNat, by simp [inR] at h1; omega⟩
      have ht : t ≤ 320 := by simp [inR] at h1; omega
      obtain ⟨X, Y, u1, u2, o1, o2⟩ := pt_upS (pw_pt .f32 t) (by omega)
      obtain ⟨q1, q2⟩ := pow_cases ht u1 u2
      have V32 : powV .f32 (t : Int) = .tuple #[.complex .f32 (pw .f32 t).1 (pw .f32 t).2, .bool true] := powV_yes h1
      have V64 : powV .f64 (t : Int) = .tuple #[.complex .f64 (pw .f64 t).1 (pw .f64 t).2, .bool true] := powV_yes h1
      have hI : ∀ w, Calls Try.prog 24 #[.int .i64 t] w fun e w' => e = .returned (.tuple #[.complex .f32 (pw .f32 t).1 (pw .f32 t).2, .bool true]) ∧ w = w' := fun w => by rw [← V32]; exact iPowerSingle_c _ w
      have hS : ∀ w, Calls Try.prog 25 #[.int .i64 t] w fun e w' => e = .returned (.tuple #[.complex .f32 (pw .f32 t).1 (pw .f32 t).2, .bool true]) ∧ w = w' := fun w => by rw [← V32]; exact sPowerSingle_c _ w
      have hW : ∀ w, Calls Try.prog 21 #[.int .i64 t] w fun e w' => e = .returned (.tuple #[.complex .f64 (pw .f64 t).1 (pw .f64 t).2, .bool true]) ∧ w = w' := fun w => by rw [← V64]; exact iPowerWide_c _ w
      clear V32 V64 h1
      generalize (pw .f32 t).1 = x at *
      generalize (pw .f32 t).2 = y at *
      generalize (pw .f64 t).1 = X' at *
      generalize (pw .f64 t).2 = Y' at *
      have hE := fun w => sameSingle_c x y X Y w u1 u2 o1 o2
      have f1 := conv_c Try.underlying31 Try.underlying24 u1 u2
      by_cases h299 : t ≤ 298
      · obtain ⟨g1, g2⟩ := q1 h299
        clear q1 q2
        have d1 : decide ((t : Int) < 299) = true := decide_eq_true (by omega)
        go_wp2_with (first | (go_at_call 24; refine (hI _).mono ?_; rintro e w1 ⟨rfl, rfl⟩) | (go_at_call 25; refine (hS _).mono ?_; rintro e w1 ⟨rfl, rfl⟩) | (go_at_call 21; refine (hW _).mono ?_; rintro e w1 ⟨rfl, rfl⟩) | (go_at_call 19; refine (hE _).mono ?_; rintro e w1 ⟨rfl, rfl⟩))
        go_ret
        exact ⟨ret_true (by simp [d1]), by (repeat' (first | assumption | exact Below.refl _ _ | apply Blw.alloc | apply Blw.drew | apply Blw.drewN | (refine Blw.after ?_ (by assumption)) | (refine Blw.set ?_ (by first | (dsimp only; omega) | (simp; done) | (simp; omega)) _)))⟩
      · obtain ⟨g1, g2⟩ := q2 (by omega)
        clear q1 q2
        have d1 : decide ((t : Int) < 299) = false := decide_eq_false (by omega)
        go_wp2_with (first | (go_at_call 24; refine (hI _).mono ?_; rintro e w1 ⟨rfl, rfl⟩) | (go_at_call 25; refine (hS _).mono ?_; rintro e w1 ⟨rfl, rfl⟩) | (go_at_call 21; refine (hW _).mono ?_; rintro e w1 ⟨rfl, rfl⟩) | (go_at_call 19; refine (hE _).mono ?_; rintro e w1 ⟨rfl, rfl⟩))
        go_ret
        exact ⟨ret_true (by simp [d1, g1, g2]), by (repeat' (first | assumption | exact Below.refl _ _ | apply Blw.alloc | apply Blw.drew | apply Blw.drewN | (refine Blw.after ?_ (by assumption)) | (refine Blw.set ?_ (by first | (dsimp only; omega) | (simp; done) | (simp; omega)) _)))⟩
    · have V32 : powV .f32 k = .tuple #[.complex .f32 0 0, .bool false] := powV_no h1
      have hI : ∀ w, Calls Try.prog 24 #[.int .i64 k] w fun e w' => e = .returned (.tuple #[.complex .f32 0 0, .bool false]) ∧ w = w' := fun w => by rw [← V32]; exact iPowerSingle_c _ w
      have hS : ∀ w, Calls Try.prog 25 #[.int .i64 k] w fun e w' => e = .returned (.tuple #[.complex .f32 0 0, .bool false]) ∧ w = w' := fun w => by rw [← V32]; exact sPowerSingle_c _ w
      have u1 : floatToFloatBits .f32 0 .f64 = some 0 := by decide +kernel
      have o1 : FloatKind.f64.format.order 0 0 = some .eq := by decide +kernel
      have hE := fun w => sameSingle_c 0 0 0 0 w u1 u1 o1 o1
      go_wp2_with (first | (go_at_call 24; refine (hI _).mono ?_; rintro e w1 ⟨rfl, rfl⟩) | (go_at_call 25; refine (hS _).mono ?_; rintro e w1 ⟨rfl, rfl⟩) | (go_at_call 19; refine (hE _).mono ?_; rintro e w1 ⟨rfl, rfl⟩))
      go_ret
      exact ⟨rfl, by (repeat' (first | assumption | exact Below.refl _ _ | apply Blw.alloc | apply Blw.drew | apply Blw.drewN | (refine Blw.after ?_ (by assumption)) | (refine Blw.set ?_ (by first | (dsimp only; omega) | (simp; done) | (simp; omega)) _)))⟩

namespace lawFnPowerSingle
set_option maxRecDepth 100000 in
theorem lifted (os : Os) (started : os.Started) (H : Type) (enc : TypeId × Value → H) :
    ReturnsInHanded {} Try.checked os 6 .any (Rows.fnPowerSingleSpec.pre6 enc Try.prog Try.f6 Rows.fnPowerSingleRow.domain false) (Rows.fnPowerSingleSpec.post enc Try.prog Try.f6 false true false false) := by
  refine returnsInHanded_of_change (C := Try.checked) own started (by kernel_rfl) Try.func6
    (ChangeSpec.witness6 (enc := enc) (C := Try.checked) false ⟨#[], #[.slice none 0 0], []⟩ 8 (by kernel_rfl) (by kernel_rfl) (by kernel_rfl) (by kernel_rfl)) ?_
  intro W base args ds gs before hval0 hW _ _
  have hval : ∀ (j : Nat) t v, Try.f6.params[j]? = some t → args[j]? = some v → Value.okWide Try.prog W .any base t v := hval0
  have hW' := hW
  obtain ⟨p, q, hA0, hV, rfl, _, _⟩ := hW
  have hA : DataW.TrodAll enc Try.prog W 0 (fun _ => true) true Try.f6.params.toList args.toList ds p := hA0
  rw [Try.params6] at hA hval
  obtain ⟨v0, vs0, d0, ds0, p0, q0, hargs, rfl, rfl, h0, r0⟩ := trodAll_cons hA
  obtain ⟨rfl, rfl, rfl⟩ := trodAll_nil r0
  obtain rfl : args = #[v0] := by cases args; simp_all
  obtain ⟨rfl, rfl⟩ := trodVars_none hV
  obtain ⟨a, len, cap, rfl⟩ := okWide_slice Try.underlying22 (hval 0 22 v0 rfl rfl)
  clear hA0 hval0
  simp only [List.append_nil] at hW'
  have hlt : ∀ x ∈ p0, x.block < W.heap.size := fun x hx => by simpa using hW'.lt x hx
  refine (lawPowSingle_c a len cap W (code_of h0)).mono fun e W' ⟨he, hg⟩ => ?_
  subst he
  have harg := Below.trod laidOut (by kernel_rfl) (of_decide_eq_true (by kernel_rfl)) h0 hg hlt
  refine ⟨_, rfl, _, _, _, [], p0, [], hW', ?_, ?_, ?_, hg.frame _, fun h => by cases h⟩
  · exact trodAll_cons_mk (shut_bool Try.underlying4 _) trodAll_mk0
  · exact trodAll_mk1 harg
  · rfl

theorem proved : Rows.FnPowerSingleSaid :=
  OpenClaim.holds_of_wide 6 Try.f6 rfl rfl rfl rfl rfl rfl rfl ⟨rfl, rfl, rfl, rfl, rfl⟩ rfl rfl rfl rfl rfl (by kernel_rfl) Try.func6 (by kernel_rfl)
    (of_decide_eq_true (by kernel_rfl)) (by unfold Func.isWrapper; first | (rw [if_pos (by decide +kernel)]; kernel_rfl) | (rw [if_neg (by decide +kernel)]; exact ⟨rfl, rfl⟩))
    (fun os started H enc _ => lifted os started H enc)
end lawFnPowerSingle
end Go.Proofs.Ytfodfapaidfhbab

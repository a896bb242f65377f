/- FnSubnormal: whatever the code draws, single powers are those of the model, and they have as many subnormal parts as the document says; no condition. -/
import Derived.Test.YtfodfapaidfhbabSame
import Derived.Test.YtfodfapaidfhbabSub2
import Derived.Test.YtfodfapaidfhbabDrawP
import Derived.Test.YtfodfapaidfhbabBaseP
namespace Go.Proofs.Ytfodfapaidfhbab
set_option linter.unusedSimpArgs false
set_option linter.unusedVariables false
open Go.ChangeShapes Go.WideShapes Go.ChangeAt Go.RowKit Go.Joins

set_option maxHeartbeats 4000000 in
set_option maxRecDepth 10000 in
theorem lawSubnormal_c (a : Option Addr) (len cap : Nat) (w : World) (hc : len ≤ 1048576 → Code (.slice a len cap) w) : Calls Try.prog 7 #[.slice a len cap] w fun e w' => e = .returned (.bool true) ∧ Below w.heap.size w w' := by
  by_cases hl : 1048576 < len
  · go_enter Try.func7, Try.ntmps7
    go_wp2_with fail
    go_ret
    exact ⟨rfl, by (repeat' (first | assumption | exact Below.refl _ _ | apply Blw.alloc | apply Blw.drew | apply Blw.drewN | (refine Blw.after ?_ (by assumption)) | (refine Blw.set ?_ (by first | (dsimp only; omega) | (simp; done) | (simp; omega)) _)))⟩
  · have hc' := hc (by omega)
    clear hc
    go_enter Try.func7, Try.ntmps7
    go_wp2_with fail
    refine (drawPowerS_c _ w hc').mono ?_
    rintro e W1 ⟨k, rfl, hk, hb1⟩
    clear hc'
    rcases Bool.eq_false_or_eq_true (inR 0 320 k) with h1 | h1
    · obtain ⟨t, rfl⟩ : ∃ t : Nat, k = t := ⟨k.toNat, by simp [inR] at h1; omega⟩
      have ht : t ≤ 320 := by simp [inR] at h1; omega
      obtain ⟨X, Y, u1, u2, o1, o2⟩ := pt_upS (pw_pt .f32 t) (by omega)
      have V32 : powV .f32 (t : Int) = .tuple #[.complex .f32 (pw .f32 t).1 (pw .f32 t).2, .bool true] := powV_yes h1
      have hI : ∀ w, Calls Try.prog 24 #[.int .i64 t] w fun e w' => e = .returned (.tuple #[.complex .f32 (pw .f32 t).1 (pw .f32 t).2, .bool true]) ∧ w = w' := fun w => by rw [← V32]; exact iPowerSingle_c _ w
      have hS : ∀ w, Calls Try.prog 25 #[.int .i64 t] w fun e w' => e = .returned (.tuple #[.complex .f32 (pw .f32 t).1 (pw .f32 t).2, .bool true]) ∧ w = w' := fun w => by rw [← V32]; exact sPowerSingle_c _ w
      have hN := sub_at ht
      have hT := fun w => partsSmall_c (pw .f32 t).1 (pw .f32 t).2 w (pw_lt t).1 (pw_lt t).2
      rw [hN] at hT
      clear V32 h1 hN
      generalize (pw .f32 t).1 = x at *
      generalize (pw .f32 t).2 = y at *
      have hE := fun w => sameSingle_c x y X Y w u1 u2 o1 o2
      by_cases h252 : 252 < t ∧ t < 299
      · rw [if_pos h252] at hT
        obtain ⟨j1, j2⟩ := h252
        have d1 : decide ((252 : Int) < (t : Int)) = true := decide_eq_true (by omega)
        have d2 : decide ((t : Int) < 299) = true := decide_eq_true (by omega)
        have d3 : (t : Int).tmod 2 = ((t % 2 : Nat) : Int) := by rw [Int.tmod_eq_emod_of_nonneg (by omega)]; rfl
        have d4 : (((1 + t % 2 : Nat) : Int) == 1 + ((t % 2 : Nat) : Int)) = true := by simp
        go_wp2_with (first | (go_at_call 24; refine (hI _).mono ?_; rintro e w1 ⟨rfl, rfl⟩) | (go_at_call 25; refine (hS _).mono ?_; rintro e w1 ⟨rfl, rfl⟩) | (go_at_call 26; refine (hT _).mono ?_; rintro e w1 ⟨rfl, rfl⟩) | (go_at_call 19; refine (hE _).mono ?_; rintro e w1 ⟨rfl, rfl⟩))
        go_ret
        exact ⟨rfl, by (repeat' (first | assumption | exact Below.refl _ _ | apply Blw.alloc | apply Blw.drew | apply Blw.drewN | (refine Blw.after ?_ (by assumption)) | (refine Blw.set ?_ (by first | (dsimp only; omega) | (simp; done) | (simp; omega)) _)))⟩
      · rw [if_neg h252] at hT
        by_cases j1 : 252 < t
        · have d1 : decide ((252 : Int) < (t : Int)) = true := decide_eq_true (by omega)
          have d2 : decide ((t : Int) < 299) = false := decide_eq_false (by omega)
          go_wp2_with (first | (go_at_call 24; refine (hI _).mono ?_; rintro e w1 ⟨rfl, rfl⟩) | (go_at_call 25; refine (hS _).mono ?_; rintro e w1 ⟨rfl, rfl⟩) | (go_at_call 26; refine (hT _).mono ?_; rintro e w1 ⟨rfl, rfl⟩) | (go_at_call 19; refine (hE _).mono ?_; rintro e w1 ⟨rfl, rfl⟩))
          go_ret
          exact ⟨rfl, by (repeat' (first | assumption | exact Below.refl _ _ | apply Blw.alloc | apply Blw.drew | apply Blw.drewN | (refine Blw.after ?_ (by assumption)) | (refine Blw.set ?_ (by first | (dsimp only; omega) | (simp; done) | (simp; omega)) _)))⟩
        · have d1 : decide ((252 : Int) < (t : Int)) = false := decide_eq_false (by omega)
          go_wp2_with (first | (go_at_call 24; refine (hI _).mono ?_; rintro e w1 ⟨rfl, rfl⟩) | (go_at_call 25; refine (hS _).mono ?_; rintro e w1 ⟨rfl, rfl⟩) | (go_at_call 26; refine (hT _).mono ?_; rintro e w1 ⟨rfl, rfl⟩) | (go_at_call 19; refine (hE _).mono ?_; rintro e w1 ⟨rfl, rfl⟩))
          go_ret
          exact ⟨rfl, by (repeat' (first | assumption | exact Below.refl _ _ | apply Blw.alloc | apply Blw.drew | apply Blw.drewN | (refine Blw.after ?_ (by assumption)) | (refine Blw.set ?_ (by first | (dsimp only; omega) | (simp; done) | (simp; omega)) _)))⟩
    · have V32 : powV .f32 k = .tuple #[.complex .f32 0 0, .bool false] := powV_no h1
      have hI : ∀ w, Calls Try.prog 24 #[.int .i64 k] w fun e w' => e = .returned (.tuple #[.complex .f32 0 0, .bool false]) ∧ w = w' := fun w => by rw [← V32]; exact iPowerSingle_c _ w
      have hS : ∀ w, Calls Try.prog 25 #[.int .i64 k] w fun e w' => e = .returned (.tuple #[.complex .f32 0 0, .bool false]) ∧ w = w' := fun w => by rw [← V32]; exact sPowerSingle_c _ w
      have u1 : floatToFloatBits .f32 0 .f64 = some 0 := by decide +kernel
      have o1 : FloatKind.f64.format.order 0 0 = some .eq := by decide +kernel
      have hE := fun w => sameSingle_c 0 0 0 0 w u1 u1 o1 o1
      go_wp2_with (first | (go_at_call 24; refine (hI _).mono ?_; rintro e w1 ⟨rfl, rfl⟩) | (go_at_call 25; refine (hS _).mono ?_; rintro e w1 ⟨rfl, rfl⟩) | (go_at_call 19; refine (hE _).mono ?_; rintro e w1 ⟨rfl, rfl⟩))
      go_ret
      exact ⟨rfl, by (repeat' (first | assumption | exact Below.refl _ _ | apply Blw.alloc | apply Blw.drew | apply Blw.drewN | (refine Blw.after ?_ (by assumption)) | (refine Blw.set ?_ (by first | (dsimp only; omega) | (simp; done) | (simp; omega)) _)))⟩

namespace lawFnSubnormal
set_option maxRecDepth 100000 in
theorem lifted (os : Os) (started : os.Started) (H : Type) (enc : TypeId × Value → H) :
    ReturnsInHanded {} Try.checked os 7 .any (Rows.fnSubnormalSpec.pre6 enc Try.prog Try.f7 Rows.fnSubnormalRow.domain false) (Rows.fnSubnormalSpec.post enc Try.prog Try.f7 false true false false) := by
  refine returnsInHanded_of_change (C := Try.checked) own started (by kernel_rfl) Try.func7
    (ChangeSpec.witness6 (enc := enc) (C := Try.checked) false ⟨#[], #[.slice none 0 0], []⟩ 8 (by kernel_rfl) (by kernel_rfl) (by kernel_rfl) (by kernel_rfl)) ?_
  intro W base args ds gs before hval0 hW _ _
  have hval : ∀ (j : Nat) t v, Try.f7.params[j]? = some t → args[j]? = some v → Value.okWide Try.prog W .any base t v := hval0
  have hW' := hW
  obtain ⟨p, q, hA0, hV, rfl, _, _⟩ := hW
  have hA : DataW.TrodAll enc Try.prog W 0 (fun _ => true) true Try.f7.params.toList args.toList ds p := hA0
  rw [Try.params7] at hA hval
  obtain ⟨v0, vs0, d0, ds0, p0, q0, hargs, rfl, rfl, h0, r0⟩ := trodAll_cons hA
  obtain ⟨rfl, rfl, rfl⟩ := trodAll_nil r0
  obtain rfl : args = #[v0] := by cases args; simp_all
  obtain ⟨rfl, rfl⟩ := trodVars_none hV
  obtain ⟨a, len, cap, rfl⟩ := okWide_slice Try.underlying22 (hval 0 22 v0 rfl rfl)
  clear hA0 hval0
  simp only [List.append_nil] at hW'
  have hlt : ∀ x ∈ p0, x.block < W.heap.size := fun x hx => by simpa using hW'.lt x hx
  refine (lawSubnormal_c a len cap W (code_of h0)).mono fun e W' ⟨he, hg⟩ => ?_
  subst he
  have harg := Below.trod laidOut (by kernel_rfl) (of_decide_eq_true (by kernel_rfl)) h0 hg hlt
  refine ⟨_, rfl, _, _, _, [], p0, [], hW', ?_, ?_, ?_, hg.frame _, fun h => by cases h⟩
  · exact trodAll_cons_mk (shut_bool Try.underlying4 _) trodAll_mk0
  · exact trodAll_mk1 harg
  · rfl

theorem proved : Rows.FnSubnormalSaid :=
  OpenClaim.holds_of_wide 7 Try.f7 rfl rfl rfl rfl rfl rfl rfl ⟨rfl, rfl, rfl, rfl, rfl⟩ rfl rfl rfl rfl rfl (by kernel_rfl) Try.func7 (by kernel_rfl)
    (of_decide_eq_true (by kernel_rfl)) (by unfold Func.isWrapper; first | (rw [if_pos (by decide +kernel)]; kernel_rfl) | (rw [if_neg (by decide +kernel)]; exact ⟨rfl, rfl⟩))
    (fun os started H enc _ => lifted os started H enc)
end lawFnSubnormal
end Go.Proofs.Ytfodfapaidfhbab

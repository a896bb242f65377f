/- Chapter 7: two words that are no NaN are the same. No law is stated here. -/
import Derived.Test.YtmdnfamjdogogaaDoorSame
import Derived.Test.YtmdnfamjdogogaaDoorZf
import Derived.Test.YtmdnfamjdogogaaDoorFm
namespace Go.Proofs.YtmdnfamjdogogaaDoor
set_option linter.unusedSimpArgs false
set_option linter.unusedVariables false
open Go.RowKit Ieee

theorem dropU_le {V n : Nat} (h : V < 2 ^ n) : dropU double 0 V ≤ n := by
  unfold dropU
  have : V.log2 ≤ n := by
    by_cases h0 : V = 0
    · subst h0; simp
    · exact Nat.le_of_lt ((Nat.log2_lt h0).2 h)
  omega
theorem nn_fl {x : Nat} (h : Nn x) : (∃ s, single.read x = .infinity s) ∨ ∃ s V K, Fl single x s V ∧ K ≤ 253 ∧ V < 2 ^ 24 * 2 ^ K := by
  have hn := h.2
  have hr : single.read x = if x % 2147483648 < 8388608 then .number (x / 2147483648 % 2 == 1) (x % 2147483648) single.leastPlace else if x % 2147483648 < 2139095040 then .number (x / 2147483648 % 2 == 1) (8388608 + x % 2147483648 % 8388608) (single.leastPlace + (x % 2147483648 / 8388608 - 1 : Nat)) else if x % 2147483648 = 2139095040 then .infinity (x / 2147483648 % 2 == 1) else .nan (x / 2147483648 % 2 == 1) (x % 2147483648 - 2139095040) := by
    unfold Format.read; simp only [sW, iR, bN]
  have e24 : (2 : Nat) ^ 24 = 16777216 := by decide
  have f24 : 2 ^ (single.fractionBits + 1) = 16777216 := by decide
  by_cases h1 : x % 2147483648 < 8388608
  · rw [if_pos h1] at hr
    refine Or.inr ⟨(x / 2147483648 % 2 == 1), x % 2147483648 * 2 ^ 0, 0, ⟨x % 2147483648, 0, by rw [hr]; simp, rfl, by rw [f24]; omega⟩, by omega, ?_⟩
    rw [Nat.pow_zero, Nat.mul_one, Nat.mul_one, e24]
    omega
  · rw [if_neg h1] at hr
    by_cases h2 : x % 2147483648 < 2139095040
    · rw [if_pos h2] at hr
      refine Or.inr ⟨(x / 2147483648 % 2 == 1), (8388608 + x % 2147483648 % 8388608) * 2 ^ (x % 2147483648 / 8388608 - 1), x % 2147483648 / 8388608 - 1, ⟨8388608 + x % 2147483648 % 8388608, x % 2147483648 / 8388608 - 1, hr, rfl, by rw [f24]; omega⟩, by omega, ?_⟩
      rw [e24]
      exact Nat.mul_lt_mul_of_pos_right (show 8388608 + x % 2147483648 % 8388608 < 16777216 by omega) (Nat.two_pow_pos _)
    · rw [if_neg h2] at hr
      by_cases h3 : x % 2147483648 = 2139095040
      · rw [if_pos h3] at hr; exact Or.inl ⟨_, hr⟩
      · rw [if_neg h3] at hr; rw [hr] at hn; cases hn
theorem conv_any {US T x K : Nat} (hw : Wd US T) (hT : T ≤ 925) {s : Bool} {V : Nat} (hx : Fl single x s V) (hK : K ≤ 253) (hV : V < 2 ^ 24 * 2 ^ K) :
    ∃ X, floatToFloatBits .f32 x .f64 = some X ∧ FloatKind.f64.format.order X X = some .eq := by
  have hl : dropU double 0 (V * 2 ^ T) - 0 + 2 < 2 ^ double.exponentBits - 1 := by
    have h1 : V * 2 ^ T < 2 ^ (24 + K + T) := by
      rw [Nat.pow_add, Nat.pow_add]
      exact Nat.mul_lt_mul_of_pos_right hV (Nat.two_pow_pos _)
    have h2 := dropU_le h1
    have h3 : 2 ^ double.exponentBits - 1 = 2047 := by decide
    omega
  have hF := fl_nearest double s (V * 2 ^ T) 0 (p := double.leastPlace) (by omega) hl
  refine ⟨double.nearest s (V * 2 ^ T) double.leastPlace, ?_, fl_self (k := .f64) hF⟩
  obtain ⟨m, k, h1, rfl⟩ := fl_place hx
  have ew : double.nearest s m (single.leastPlace + (k : Int)) = double.nearest s (m * 2 ^ k * 2 ^ T) double.leastPlace := by
    have h := nearest_shift double s m (k + T) (single.leastPlace + (k : Int))
    have e : single.leastPlace + (k : Int) - ((k + T : Nat) : Int) = double.leastPlace := by rw [hw.place]; omega
    rw [e, Nat.pow_add, ← Nat.mul_assoc] at h
    exact h.symm
  unfold floatToFloatBits
  rw [if_neg (by decide)]
  have hd : FloatKind.f32.decode x = .number s m (single.leastPlace + (k : Int)) := h1
  rw [hd]
  show (if (double.read (double.nearest s m (single.leastPlace + (k : Int)))).isInfinity = true then none else some (double.nearest s m (single.leastPlace + (k : Int)))) = _
  rw [ew, notInf hF, if_neg (by decide)]
theorem nn_up {x : Nat} (h : Nn x) : ∃ X, floatToFloatBits .f32 x .f64 = some X ∧ FloatKind.f64.format.order X X = some .eq := by
  rcases nn_fl h with ⟨s, hs⟩ | ⟨s, V, K, h1, hK, h2⟩
  · refine ⟨FloatKind.f64.encode (.infinity s), ?_, ?_⟩
    · unfold floatToFloatBits
      rw [if_neg (by decide), show FloatKind.f32.decode x = .infinity s from hs]
    · cases s <;> decide +kernel
  · exact conv_any wd (Nat.le_refl _) h1 hK h2
theorem sameNn_c (p : Nat × Nat) (w : World) (h : Nn2 p) : Calls Tryd.prog 15 #[encW p, encW p] w fun e w' => e = .returned (.bool true) ∧ w = w' := by
  obtain ⟨X, h1, h2⟩ := nn_up h.1
  obtain ⟨Y, h3, h4⟩ := nn_up h.2
  exact sameSingle_c p.1 p.2 X Y w h1 h3 h2 h4
set_option maxHeartbeats 4000000 in
theorem sameEntry_c (s : ByteArray) (p : Nat × Nat) (n : Nat) (w : World) (h : Nn2 p) : Calls Tryd.prog 13 #[encE s p n, encE s p n] w fun e w' => e = .returned (.bool true) ∧ Below w.heap.size w w' := by
  go_enter Tryd.func13, Tryd.ntmps13
  go_wp2_with (go_at_call 15; refine (sameNn_c _ _ h).mono ?_; rintro e w1 ⟨rfl, rfl⟩)
  go_ret
  exact ⟨rfl, by (first | ((repeat' with_reducible first | assumption | exact Below.refl _ _ | apply Blw.alloc | apply Blw.drew | apply Blw.drewN | (refine Blw.after ?_ (by assumption)) | (refine Blw.set ?_ (by first | (dsimp only; omega) | (simp; omega)) _)); done) | (repeat' (first | assumption | exact Below.refl _ _ | apply Blw.alloc | apply Blw.drew | apply Blw.drewN | (refine Blw.after ?_ (by assumption)) | (refine Blw.set ?_ (by first | (dsimp only; omega) | (simp; done) | (simp; omega)) _))))⟩
end Go.Proofs.YtmdnfamjdogogaaDoor

/- Floats by their values: sums and orders that are exact. No law is stated here. -/
import Derived.Test.YtmdnfamjdogogaaDoorPv
import GoSem.Op.Unary
namespace Go.Proofs.YtmdnfamjdogogaaDoor
set_option linter.unusedSimpArgs false
set_option linter.unusedVariables false
open Ieee
/-- a word that stands for v units -/
def Vl (k : FloatKind) (x : Nat) (v : Int) : Prop := ∃ s V, Fl k.format x s V ∧ sg s V = v
/-- exact, and not too great -/
def Okv (k : FloatKind) (v : Int) : Prop := Rep k.format v.natAbs ∧ v.natAbs ≤ 2000000 * 2 ^ un k
theorem limK (k : FloatKind) {u V : Nat} (h : V ≤ 2000000 * 2 ^ un k * 2 ^ u) : dropU k.format u V - u + 2 < 2 ^ k.format.exponentBits - 1 := by
  cases k
  · exact lim_s h
  · exact lim_d h
theorem vl_sum {k : FloatKind} {s t : Bool} {V W : Nat} (h : Okv k (sg s V + sg t W)) : Vl k (sumW k.format s V t W) (sg s V + sg t W) := by
  have hr : Rep k.format (sumA s V t W) := h.1
  have hl : sumA s V t W ≤ 2000000 * 2 ^ un k := h.2
  have h1 := fl_sum (f := k.format) s V t W (limK k (by rw [Nat.pow_zero, Nat.mul_one]; exact hl))
  rw [rnd_same hr] at h1
  refine ⟨_, _, h1, ?_⟩
  unfold sumS sumA
  generalize sg s V + sg t W = T
  split
  · rename_i h; rw [h]; unfold sg; split <;> rfl
  · unfold sg
    by_cases c : T < 0
    · simp [c]; omega
    · simp [c]; omega
theorem vl_add {k : FloatKind} {x y : Nat} {a b : Int} (hx : Vl k x a) (hy : Vl k y b) (h : Okv k (a + b)) : ∃ r, floatBits .add k x y = some r ∧ Vl k r (a + b) := by
  obtain ⟨s, V, h1, rfl⟩ := hx
  obtain ⟨t, W, h2, rfl⟩ := hy
  exact ⟨_, fl_add h1 h2, vl_sum h⟩
theorem vl_sub {k : FloatKind} {x y : Nat} {a b : Int} (hx : Vl k x a) (hy : Vl k y b) (h : Okv k (a - b)) : ∃ r, floatBits .sub k x y = some r ∧ Vl k r (a - b) := by
  obtain ⟨s, V, h1, rfl⟩ := hx
  obtain ⟨t, W, h2, rfl⟩ := hy
  have e : sg s V - sg t W = sg s V + sg (!t) W := by rw [sg_neg]; omega
  rw [e] at h ⊢
  exact ⟨_, fl_sub h1 h2, vl_sum h⟩
theorem scale_cmp (a b : Int) (t : Nat) : compare (a * 2 ^ t) (b * 2 ^ t) = compare a b := by
  have hp : (0 : Int) < 2 ^ t := by exact_mod_cast Nat.two_pow_pos t
  rcases Int.lt_trichotomy a b with h | h | h
  · rw [Int.compare_eq_lt.2 h, Int.compare_eq_lt.2 ((Int.mul_lt_mul_right hp).2 h)]
  · rw [h]; rw [Int.compare_eq_eq.2 rfl, Int.compare_eq_eq.2 rfl]
  · rw [Int.compare_eq_gt.2 h, Int.compare_eq_gt.2 ((Int.mul_lt_mul_right hp).2 h)]
theorem vl_order {k : FloatKind} {x y : Nat} {a b : Int} (hx : Vl k x a) (hy : Vl k y b) : k.format.order x y = some (compare a b) := by
  obtain ⟨s, V, ⟨m, i, h1, rfl, _⟩, rfl⟩ := hx
  obtain ⟨t, W, ⟨n, j, h2, rfl, _⟩, rfl⟩ := hy
  unfold Format.order
  rw [h1, h2]
  unfold Datum.order
  have hb : min (k.format.leastPlace + (i : Int)) (k.format.leastPlace + (j : Int)) = k.format.leastPlace + ((min i j : Nat) : Int) := by omega
  simp only [hb, signed_sg]
  rw [show (k.format.leastPlace + (i : Int) - (k.format.leastPlace + ((min i j : Nat) : Int))).toNat = i - min i j by omega, show (k.format.leastPlace + (j : Int) - (k.format.leastPlace + ((min i j : Nat) : Int))).toNat = j - min i j by omega]
  have e1 : sg s (m * 2 ^ i) = sg s (m * 2 ^ (i - min i j)) * 2 ^ min i j := by
    rw [← sg_scale, Nat.mul_assoc, ← Nat.pow_add, show i - min i j + min i j = i by omega]
  have e2 : sg t (n * 2 ^ j) = sg t (n * 2 ^ (j - min i j)) * 2 ^ min i j := by
    rw [← sg_scale, Nat.mul_assoc, ← Nat.pow_add, show j - min i j + min i j = j by omega]
  rw [e1, e2, scale_cmp]
theorem vl_same {k : FloatKind} {x y : Nat} {a : Int} (hx : Vl k x a) (hy : Vl k y a) : k.format.order x y = some .eq := by
  rw [vl_order hx hy, Int.compare_eq_eq.2 rfl]
/-- the sign bit turned -/
theorem xor_top {x w : Nat} (h : x < 2 ^ (w + 1)) : x ^^^ 2 ^ w = if x < 2 ^ w then 2 ^ w + x else x - 2 ^ w := by
  have hp := Nat.two_pow_pos w
  by_cases c : x < 2 ^ w
  · rw [if_pos c, Nat.xor_comm, Nat.add_comm]
    have := Nat.two_pow_add_eq_or_of_lt (i := w) c 1
    apply Nat.eq_of_testBit_eq
    intro i
    rw [Nat.testBit_xor, Nat.testBit_two_pow]
    rcases Nat.lt_trichotomy i w with h1 | h1 | h1
    · rw [Nat.add_comm, Nat.testBit_two_pow_add_gt h1]
      simp [show w ≠ i by omega]
    · subst h1
      rw [Nat.add_comm, Nat.testBit_two_pow_add_eq]
      simp
    · have e1 : x.testBit i = false := Nat.testBit_lt_two_pow (Nat.lt_of_lt_of_le c (Nat.pow_le_pow_right (by omega) (by omega)))
      have e2 : (x + 2 ^ w).testBit i = false := Nat.testBit_lt_two_pow (Nat.lt_of_lt_of_le (show x + 2 ^ w < 2 ^ (w + 1) by rw [Nat.pow_succ]; omega) (Nat.pow_le_pow_right (by omega) (by omega)))
      rw [e1, e2]
      simp [show w ≠ i by omega]
  · rw [if_neg c]
    obtain ⟨y, rfl⟩ : ∃ y, x = 2 ^ w + y := ⟨x - 2 ^ w, by omega⟩
    rw [Nat.pow_succ] at h
    have hy : y < 2 ^ w := by omega
    rw [Nat.add_sub_cancel_left]
    apply Nat.eq_of_testBit_eq
    intro i
    rw [Nat.testBit_xor, Nat.testBit_two_pow]
    rcases Nat.lt_trichotomy i w with h1 | h1 | h1
    · rw [Nat.testBit_two_pow_add_gt h1]
      simp [show w ≠ i by omega]
    · subst h1
      rw [Nat.testBit_two_pow_add_eq]
      have : y.testBit i = false := Nat.testBit_lt_two_pow hy
      simp [this]
    · have e1 : y.testBit i = false := Nat.testBit_lt_two_pow (Nat.lt_of_lt_of_le hy (Nat.pow_le_pow_right (by omega) (by omega)))
      have e2 : (2 ^ w + y).testBit i = false := Nat.testBit_lt_two_pow (Nat.lt_of_lt_of_le (show 2 ^ w + y < 2 ^ (w + 1) by rw [Nat.pow_succ]; omega) (Nat.pow_le_pow_right (by omega) (by omega)))
      rw [e1, e2]
      simp [show w ≠ i by omega]
theorem vl_neg {k : FloatKind} {x : Nat} {a : Int} (hx : Vl k x a) (hl : x < 2 ^ k.format.width) : Vl k (Op.negFloat k x) (-a) := by
  obtain ⟨s, V, ⟨m, i, h1, h2, h3⟩, rfl⟩ := hx
  refine ⟨!s, V, ⟨m, i, ?_, h2, h3⟩, sg_neg s V⟩
  have hw : k.format.width = (k.format.exponentBits + k.format.fractionBits) + 1 := by unfold Format.width; omega
  rw [hw] at hl
  unfold Op.negFloat
  rw [xor_top hl]
  have hp := Nat.two_pow_pos (k.format.exponentBits + k.format.fractionBits)
  have hsw : k.format.signWeight = 2 ^ (k.format.exponentBits + k.format.fractionBits) := rfl
  unfold Format.read at h1 ⊢
  rw [hsw] at h1 ⊢
  rw [Nat.pow_succ] at hl
  generalize 2 ^ (k.format.exponentBits + k.format.fractionBits) = S at *
  by_cases c : x < S
  · rw [if_pos c]
    have e1 : (S + x) % S = x % S := Nat.add_mod_left _ _
    have e2 : x / S = 0 := Nat.div_eq_of_lt c
    have e3 : (S + x) / S = 1 := by rw [Nat.add_div_left _ hp, e2]
    simp only [e1, e2, e3] at h1 ⊢
    revert h1
    repeat' split
    all_goals first | (intro h1; cases h1; done) | (intro h1; injection h1 with a1 a2 a3; subst a1 a2; first | (rw [a3]; simp; done) | (simp; exact a3))
  · rw [if_neg c]
    obtain ⟨y, rfl⟩ : ∃ y, x = S + y := ⟨x - S, by omega⟩
    rw [Nat.add_sub_cancel_left]
    have hy : y < S := by omega
    have e1 : (S + y) % S = y % S := Nat.add_mod_left _ _
    have e2 : y / S = 0 := Nat.div_eq_of_lt hy
    have e3 : (S + y) / S = 1 := by rw [Nat.add_div_left _ hp, e2]
    simp only [e1, e2, e3] at h1 ⊢
    revert h1
    repeat' split
    all_goals first | (intro h1; cases h1; done) | (intro h1; injection h1 with a1 a2 a3; subst a1 a2; first | (rw [a3]; simp; done) | (simp; exact a3))
end Go.Proofs.YtmdnfamjdogogaaDoor

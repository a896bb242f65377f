/- How far rounding goes: sums and halves of floats, by their values. No law is stated here. -/
import Derived.Test.YtlcafjdinjdllabVl
namespace Go.Proofs.Ytlcafjdinjdllab
set_option linter.unusedSimpArgs false
set_option linter.unusedVariables false
open Ieee

theorem rnd_near (n p : Nat) : 2 * (rnd n p * 2 ^ p) ≤ 2 * n + 2 ^ p ∧ 2 * n ≤ 2 * (rnd n p * 2 ^ p) + 2 ^ p := by
  have h1 := Nat.div_add_mod n (2 ^ p)
  have h2 := Nat.mod_lt n (Nat.two_pow_pos p)
  have key : (rnd n p = n / 2 ^ p + 1 ∧ 2 ^ p ≤ 2 * (n % 2 ^ p)) ∨ (rnd n p = n / 2 ^ p ∧ 2 * (n % 2 ^ p) ≤ 2 ^ p) := by
    unfold rnd
    by_cases c : 2 ^ p < 2 * (n % 2 ^ p)
    · left; rw [decide_eq_true c]; exact ⟨rfl, by omega⟩
    · rw [decide_eq_false c, Bool.false_or]
      cases c2 : (2 ^ p == 2 * (n % 2 ^ p) && n / 2 ^ p % 2 == 1)
      · right; exact ⟨rfl, by omega⟩
      · left
        simp only [Bool.and_eq_true, beq_iff_eq] at c2
        exact ⟨rfl, by omega⟩
  generalize n / 2 ^ p = q at *
  generalize n % 2 ^ p = r at *
  generalize 2 ^ p = P at *
  have e : (q + 1) * P = P * q + P := by rw [Nat.add_mul, Nat.mul_comm q P]; omega
  have e' : q * P = P * q := Nat.mul_comm q P
  rcases key with ⟨k1, k2⟩ | ⟨k1, k2⟩
  · rw [k1, e]; omega
  · rw [k1, e']; omega
theorem rndU_near (f : Format) (u V : Nat) : 2 ^ (f.fractionBits + 1) * (rndU f u V * 2 ^ u) ≤ 2 ^ (f.fractionBits + 1) * V + (V + 2 ^ (f.fractionBits + 1 + u)) ∧
    2 ^ (f.fractionBits + 1) * V ≤ 2 ^ (f.fractionBits + 1) * (rndU f u V * 2 ^ u) + (V + 2 ^ (f.fractionBits + 1 + u)) := by
  have hD : u ≤ dropU f u V := Nat.le_max_right _ _
  have e : rndU f u V * 2 ^ u = rnd V (dropU f u V) * 2 ^ dropU f u V := by
    unfold rndU; rw [Nat.mul_assoc, ← Nat.pow_add, Nat.sub_add_cancel hD]
  have key : 2 ^ f.fractionBits * 2 ^ dropU f u V ≤ V + 2 ^ (f.fractionBits + 1 + u) := by
    rw [← Nat.pow_add]
    rcases Nat.le_total (V.log2 - f.fractionBits) u with h | h
    · have e1 : dropU f u V = u := Nat.max_eq_right h
      rw [e1]
      have := Nat.pow_le_pow_right (show 0 < 2 by omega) (show f.fractionBits + u ≤ f.fractionBits + 1 + u by omega)
      omega
    · have e1 : dropU f u V = V.log2 - f.fractionBits := Nat.max_eq_left h
      rw [e1]
      by_cases hz : V.log2 - f.fractionBits = 0
      · rw [hz]
        have := Nat.pow_le_pow_right (show 0 < 2 by omega) (show f.fractionBits + 0 ≤ f.fractionBits + 1 + u by omega)
        omega
      · have hV : V ≠ 0 := fun h0 => hz (by rw [h0, Nat.log2_zero]; omega)
        have := Nat.log2_self_le hV
        rw [show f.fractionBits + (V.log2 - f.fractionBits) = V.log2 by omega]
        exact Nat.le_trans this (Nat.le_add_right _ _)
  obtain ⟨a, b⟩ := rnd_near V (dropU f u V)
  rw [e]
  generalize rnd V (dropU f u V) * 2 ^ dropU f u V = R at *
  have a' := Nat.mul_le_mul_left (2 ^ f.fractionBits) a
  have b' := Nat.mul_le_mul_left (2 ^ f.fractionBits) b
  rw [Nat.pow_succ]
  generalize 2 ^ (f.fractionBits + 1 + u) = T at *
  have e1 : ∀ z, 2 ^ f.fractionBits * 2 * z = 2 ^ f.fractionBits * (2 * z) := fun z => Nat.mul_assoc _ _ _
  rw [e1, e1]
  rw [Nat.mul_add] at a' b'
  omega
/-- in both widths -/
theorem rndK_near (k : FloatKind) (u V B : Nat) (h : V ≤ B * 2 ^ un k * 2 ^ u) : 16777216 * (rndU k.format u V * 2 ^ u) ≤ 16777216 * V + (B + 1) * 2 ^ un k * 2 ^ u ∧ 16777216 * V ≤ 16777216 * (rndU k.format u V * 2 ^ u) + (B + 1) * 2 ^ un k * 2 ^ u := by
  have hx := rndU_near k.format u V
  have e : (B + 1) * 2 ^ un k * 2 ^ u = B * 2 ^ un k * 2 ^ u + 2 ^ un k * 2 ^ u := by rw [Nat.add_mul, Nat.one_mul, Nat.add_mul]
  rw [e]
  cases k
  · have f1 : FloatKind.f32.format.fractionBits + 1 = 24 := rfl
    rw [f1] at hx
    have h2 : 2 ^ (24 + u) ≤ 2 ^ un .f32 * 2 ^ u := by rw [← Nat.pow_add]; exact Nat.pow_le_pow_right (by omega) (by show 24 + u ≤ 149 + u; omega)
    generalize 2 ^ (24 + u) = T at *
    generalize rndU FloatKind.f32.format u V * 2 ^ u = R at *
    generalize B * 2 ^ un FloatKind.f32 * 2 ^ u = M at *
    generalize 2 ^ un FloatKind.f32 * 2 ^ u = N at *
    have e2 : 2 ^ 24 = 16777216 := rfl
    rw [e2] at hx
    omega
  · have f1 : FloatKind.f64.format.fractionBits + 1 = 53 := rfl
    rw [f1] at hx
    have h2 : 2 ^ (53 + u) ≤ 2 ^ un .f64 * 2 ^ u := by rw [← Nat.pow_add]; exact Nat.pow_le_pow_right (by omega) (by show 53 + u ≤ 1074 + u; omega)
    generalize 2 ^ (53 + u) = T at *
    generalize rndU FloatKind.f64.format u V * 2 ^ u = R at *
    generalize B * 2 ^ un FloatKind.f64 * 2 ^ u = M at *
    generalize 2 ^ un FloatKind.f64 * 2 ^ u = N at *
    have e2 : 2 ^ 53 = 9007199254740992 := rfl
    rw [e2] at hx
    omega
/-- a and b differ by at most M over 2 to the power of 24 -/
def Nr (M : Nat) (a b : Int) : Prop := 16777216 * a ≤ 16777216 * b + M ∧ 16777216 * b ≤ 16777216 * a + M
theorem vl_sumE {k : FloatKind} {s t : Bool} {V W B : Nat} (h : (sg s V + sg t W).natAbs ≤ B * 2 ^ un k) (hB : B ≤ 2000000) : ∃ c, Vl k (sumW k.format s V t W) c ∧ Nr ((B + 1) * 2 ^ un k) c (sg s V + sg t W) := by
  have hl : sumA s V t W ≤ 2000000 * 2 ^ un k := Nat.le_trans h (Nat.mul_le_mul_right _ hB)
  have h1 := fl_sum (f := k.format) s V t W (limK k (by rw [Nat.pow_zero, Nat.mul_one]; exact hl))
  have h2 := rndK_near k 0 (sumA s V t W) B (by rw [Nat.pow_zero, Nat.mul_one]; exact h)
  rw [Nat.pow_zero, Nat.mul_one, Nat.mul_one] at h2
  refine ⟨_, ⟨_, _, h1, rfl⟩, ?_⟩
  have e : ((sumA s V t W : Nat) : Int) = ((sg s V + sg t W).natAbs : Nat) := rfl
  have hz : sumA s V t W = 0 → rndU k.format 0 (sumA s V t W) = 0 := fun h => by rw [h]; exact rndU_zero _ _
  generalize (B + 1) * 2 ^ un k = M at *
  generalize rndU k.format 0 (sumA s V t W) = R at *
  generalize sumA s V t W = A at *
  unfold sumS Nr
  generalize sg s V + sg t W = T at *
  split
  · rename_i h0
    have hA : A = 0 := by omega
    have hR := hz hA
    subst hR
    rw [h0, sg0]; omega
  · unfold sg
    by_cases c : T < 0
    · rw [decide_eq_true c]; simp only [if_true]; omega
    · rw [decide_eq_false c]; simp only [Bool.false_eq_true, if_false]; omega
theorem vl_addE {k : FloatKind} {x y B : Nat} {a b : Int} (hx : Vl k x a) (hy : Vl k y b) (h : (a + b).natAbs ≤ B * 2 ^ un k) (hB : B ≤ 2000000) : ∃ r c, floatBits .add k x y = some r ∧ Vl k r c ∧ Nr ((B + 1) * 2 ^ un k) c (a + b) := by
  obtain ⟨s, V, h1, rfl⟩ := hx
  obtain ⟨t, W, h2, rfl⟩ := hy
  obtain ⟨c, c1, c2⟩ := vl_sumE h hB
  exact ⟨_, c, fl_add h1 h2, c1, c2⟩
theorem vl_subE {k : FloatKind} {x y B : Nat} {a b : Int} (hx : Vl k x a) (hy : Vl k y b) (h : (a - b).natAbs ≤ B * 2 ^ un k) (hB : B ≤ 2000000) : ∃ r c, floatBits .sub k x y = some r ∧ Vl k r c ∧ Nr ((B + 1) * 2 ^ un k) c (a - b) := by
  obtain ⟨s, V, h1, rfl⟩ := hx
  obtain ⟨t, W, h2, rfl⟩ := hy
  have e : sg s V - sg t W = sg s V + sg (!t) W := by rw [sg_neg]; omega
  rw [e] at h ⊢
  obtain ⟨c, c1, c2⟩ := vl_sumE h hB
  exact ⟨_, c, fl_sub h1 h2, c1, c2⟩
theorem vl_halfE {k : FloatKind} {x B : Nat} {a : Int} (hx : Vl k x a) (h : a.natAbs ≤ B * 2 ^ un k * 2) (hB : B ≤ 2000000) : ∃ r c, floatBits .quo k x (two k) = some r ∧ Vl k r c ∧ Nr ((B + 1) * 2 ^ un k * 2) (2 * c) a := by
  obtain ⟨s, V, h1, rfl⟩ := hx
  rw [sg_abs] at h
  have hq : floatBits .quo k x (two k) = some (k.format.nearest s V (k.format.leastPlace - 1)) := by
    cases k
    · exact fl_div2 h1 two_s
    · exact fl_div2 h1 two_d
  have hl : V ≤ 2000000 * 2 ^ un k * 2 ^ 1 := by
    rw [Nat.pow_one]
    exact Nat.le_trans h (Nat.mul_le_mul_right _ (Nat.mul_le_mul_right _ hB))
  have h3 := fl_half (f := k.format) s V (limK k hl)
  have h2 := rndK_near k 1 V B (by rw [Nat.pow_one]; exact h)
  rw [Nat.pow_one] at h2
  refine ⟨_, _, hq, ⟨_, _, h3, rfl⟩, ?_⟩
  generalize (B + 1) * 2 ^ un k * 2 = M at *
  generalize rndU k.format 1 V = R at *
  unfold Nr sg
  cases s
  · simp only [Bool.false_eq_true, if_false]; omega
  · simp only [if_true]; omega
end Go.Proofs.Ytlcafjdinjdllab

/- Plain numbers, no Go in sight: quotients and rests of Gaussian numbers. -/
import Derived.KernelRfl
namespace Go.Proofs.Ytaleeoghifcadaa
set_option linter.unusedSimpArgs false
set_option linter.unusedVariables false
/-- the parts of a product -/
def mre (x y x' y' : Int) : Int := x * x' - y * y'
def mim (x y x' y' : Int) : Int := x * y' + y * x'
def nrm (x y : Int) : Int := x * x + y * y
/-- rounded to the nearest, up for a half -/
def near (t n : Int) : Int := (2 * t + n) / (2 * n)
def qx (x y x' y' : Int) : Int := near (mre x y x' (-y')) (nrm x' y')
def qy (x y x' y' : Int) : Int := near (mim x y x' (-y')) (nrm x' y')
def rx (x y x' y' : Int) : Int := x - mre (qx x y x' y') (qy x y x' y') x' y'
def ry (x y x' y' : Int) : Int := y - mim (qx x y x' y') (qy x y x' y') x' y'
abbrev in6 (x y : Int) : Prop := -1000000 ≤ x ∧ x ≤ 1000000 ∧ -1000000 ≤ y ∧ y ≤ 1000000
abbrev in9 (x y : Int) : Prop := -1000000000 ≤ x ∧ x ≤ 1000000000 ∧ -1000000000 ≤ y ∧ y ≤ 1000000000
theorem small9 {x y : Int} (h : in6 x y) : in9 x y := by unfold in9; omega
theorem mulK {x y a b : Int} (hx : -a ≤ x ∧ x ≤ a) (hy : -b ≤ y ∧ y ≤ b) : -(a * b) ≤ x * y ∧ x * y ≤ a * b := by
  have h1 : (x * y).natAbs ≤ a.toNat * b.toNat := by rw [Int.natAbs_mul]; exact Nat.mul_le_mul (by omega) (by omega)
  have h2 : ((a.toNat * b.toNat : Nat) : Int) = a * b := by
    rw [Int.natCast_mul, Int.toNat_of_nonneg (by omega), Int.toNat_of_nonneg (by omega)]
  omega
theorem mul9 {x y : Int} (hx : -1000000000 ≤ x ∧ x ≤ 1000000000) (hy : -1000000000 ≤ y ∧ y ≤ 1000000000) : -1000000000000000000 ≤ x * y ∧ x * y ≤ 1000000000000000000 := by
  have := mulK hx hy
  omega
theorem sq_nonneg (x : Int) : 0 ≤ x * x := by
  have h : x * x = ((x.natAbs * x.natAbs : Nat) : Int) := (Int.natAbs_mul_self).symm
  omega
theorem sq_ge (x : Int) : x ≤ x * x ∧ -x ≤ x * x := by
  have h : x * x = ((x.natAbs * x.natAbs : Nat) : Int) := (Int.natAbs_mul_self).symm
  have h2 : x.natAbs ≤ x.natAbs * x.natAbs := by
    cases h0 : x.natAbs with
    | zero => simp
    | succ n => exact Nat.le_mul_of_pos_left _ (by omega)
  omega
theorem nrm_pos {x y : Int} (h : ¬ (x = 0 ∧ y = 0)) : 1 ≤ nrm x y := by
  have h1 := sq_ge x
  have h2 := sq_ge y
  unfold nrm
  omega
theorem nrm_nonneg (x y : Int) : 0 ≤ nrm x y := by
  have h1 := sq_nonneg x
  have h2 := sq_nonneg y
  unfold nrm
  omega
theorem nrm_le {x y : Int} (h : in6 x y) : nrm x y ≤ 2000000000000 := by
  have h1 := mulK (a := 1000000) (b := 1000000) ⟨h.1, h.2.1⟩ ⟨h.1, h.2.1⟩
  have h2 := mulK (a := 1000000) (b := 1000000) ⟨h.2.2.1, h.2.2.2⟩ ⟨h.2.2.1, h.2.2.2⟩
  unfold nrm
  omega
/-- |x x' + y y'| is at most a million norms -/
theorem dot_le {x y x' y' : Int} (h : in6 x y) : -(1000000 * nrm x' y') ≤ x * x' + y * y' ∧ x * x' + y * y' ≤ 1000000 * nrm x' y' := by
  obtain ⟨h1, h2, h3, h4⟩ := h
  have key : ∀ a b : Int, -1000000 ≤ a → a ≤ 1000000 → -(1000000 * (b * b)) ≤ a * b ∧ a * b ≤ 1000000 * (b * b) := by
    intro a b ha ha'
    have e : b * b = ((b.natAbs * b.natAbs : Nat) : Int) := (Int.natAbs_mul_self).symm
    have e2 : (a * b).natAbs ≤ 1000000 * b.natAbs := by rw [Int.natAbs_mul]; exact Nat.mul_le_mul (by omega) (Nat.le_refl _)
    have e3 : b.natAbs ≤ b.natAbs * b.natAbs := by
      cases h0 : b.natAbs with
      | zero => simp
      | succ n => exact Nat.le_mul_of_pos_left _ (by omega)
    rw [e]
    omega
  have k1 := key x x' h1 h2
  have k2 := key y y' h3 h4
  unfold nrm
  omega
theorem near_in {t n : Int} (hn : 1 ≤ n) (h : -(1000000 * n) ≤ t ∧ t ≤ 1000000 * n) : -1000000 ≤ near t n ∧ near t n ≤ 1000000 := by
  unfold near
  constructor
  · apply Int.le_ediv_of_mul_le (by omega); omega
  · have : (2 * t + n) / (2 * n) < 1000001 := by apply Int.ediv_lt_of_lt_mul (by omega); omega
    omega
theorem mre_neg (x y x' y' : Int) : mre x y x' (-y') = x * x' + y * y' := by unfold mre; rw [Int.mul_neg]; omega
theorem mim_neg (x y x' y' : Int) : mim x y x' (-y') = y * x' + -x * y' := by unfold mim; rw [Int.mul_neg, Int.neg_mul]; omega
theorem qx_in {x y x' y' : Int} (h : in6 x y) (hn : 1 ≤ nrm x' y') : -1000000 ≤ qx x y x' y' ∧ qx x y x' y' ≤ 1000000 := by
  unfold qx
  refine near_in hn ?_
  rw [mre_neg]
  exact dot_le h
theorem qy_in {x y x' y' : Int} (h : in6 x y) (hn : 1 ≤ nrm x' y') : -1000000 ≤ qy x y x' y' ∧ qy x y x' y' ≤ 1000000 := by
  unfold qy
  refine near_in hn ?_
  rw [mim_neg]
  exact dot_le ⟨h.2.2.1, h.2.2.2, by omega, by omega⟩
theorem q_in {x y x' y' : Int} (h : in6 x y) (hn : 1 ≤ nrm x' y') : in6 (qx x y x' y') (qy x y x' y') :=
  ⟨(qx_in h hn).1, (qx_in h hn).2, (qy_in h hn).1, (qy_in h hn).2⟩
theorem near_off {t n : Int} (hn : 1 ≤ n) : -n ≤ 2 * (t - n * near t n) ∧ 2 * (t - n * near t n) ≤ n := by
  unfold near
  have h1 := Int.mul_ediv_add_emod (2 * t + n) (2 * n)
  have h2 := Int.emod_nonneg (2 * t + n) (show 2 * n ≠ 0 by omega)
  have h3 := Int.emod_lt_of_pos (2 * t + n) (show 0 < 2 * n by omega)
  have h4 : 2 * n * ((2 * t + n) / (2 * n)) = 2 * (n * ((2 * t + n) / (2 * n))) := by rw [Int.mul_assoc]
  omega
/-- the rest's norm is at most half of the divisor's -/
theorem rest_half {x y x' y' : Int} (hn : 1 ≤ nrm x' y') : 2 * nrm (rx x y x' y') (ry x y x' y') ≤ nrm x' y' := by
  obtain ⟨a1, a2⟩ := near_off (t := mre x y x' (-y')) hn
  obtain ⟨b1, b2⟩ := near_off (t := mim x y x' (-y')) hn
  have id1 : nrm (rx x y x' y') (ry x y x' y') * nrm x' y' = (mre x y x' (-y') - nrm x' y' * qx x y x' y') * (mre x y x' (-y') - nrm x' y' * qx x y x' y') + (mim x y x' (-y') - nrm x' y' * qy x y x' y') * (mim x y x' (-y') - nrm x' y' * qy x y x' y') := by
    generalize hq : qx x y x' y' = q
    generalize hp : qy x y x' y' = p
    unfold rx ry
    rw [hq, hp]
    unfold nrm mre mim
    grind
  generalize he : mre x y x' (-y') - nrm x' y' * qx x y x' y' = e at id1
  generalize hf : mim x y x' (-y') - nrm x' y' * qy x y x' y' = f at id1
  have e1 : -nrm x' y' ≤ 2 * e ∧ 2 * e ≤ nrm x' y' := by rw [← he]; exact ⟨a1, a2⟩
  have f1 : -nrm x' y' ≤ 2 * f ∧ 2 * f ≤ nrm x' y' := by rw [← hf]; exact ⟨b1, b2⟩
  generalize nrm x' y' = n at *
  generalize nrm (rx x y x' y') (ry x y x' y') = r at *
  have s1 := (mulK e1 e1).2
  have s2 := (mulK f1 f1).2
  have t1 : 2 * e * (2 * e) = 4 * (e * e) := by grind
  have t2 : 2 * f * (2 * f) = 4 * (f * f) := by grind
  -- 4 r n ≤ 2 n n
  have t3 : 4 * (r * n) ≤ 2 * (n * n) := by omega
  apply Int.le_of_mul_le_mul_right (a := n) (c := n) (b := 2 * r) _ (by omega) <;> skip
  have t4 : 2 * r * n = 2 * (r * n) := by rw [Int.mul_assoc]
  omega
theorem part_le {x y n : Int} (h : nrm x y ≤ n) (k : Int) (hk : 0 ≤ k) (hn : n < (k + 1) * (k + 1)) : -k ≤ x ∧ x ≤ k ∧ -k ≤ y ∧ y ≤ k := by
  unfold nrm at h
  have h1 := sq_nonneg x
  have h2 := sq_nonneg y
  have key : ∀ z : Int, z * z < (k + 1) * (k + 1) → -k ≤ z ∧ z ≤ k := by
    intro z hz
    have e : z * z = ((z.natAbs * z.natAbs : Nat) : Int) := (Int.natAbs_mul_self).symm
    have e2 : (k + 1) * (k + 1) = (((k + 1).toNat * (k + 1).toNat : Nat) : Int) := by rw [Int.natCast_mul, Int.toNat_of_nonneg (by omega)]
    have e3 : z.natAbs < (k + 1).toNat := by
      refine Nat.lt_of_not_le fun hle => ?_
      have := Nat.mul_le_mul hle hle
      omega
    omega
  have k1 := key x (by omega)
  have k2 := key y (by omega)
  exact ⟨k1.1, k1.2, k2.1, k2.2⟩
theorem rest_in {x y x' y' : Int} (hn : 1 ≤ nrm x' y') (h' : in6 x' y') : in6 (rx x y x' y') (ry x y x' y') := by
  have h1 := rest_half (x := x) (y := y) hn
  have h2 := nrm_le h'
  exact part_le (n := 1000000000000) (by omega) 1000000 (by omega) (by omega)
theorem tdiv_in {a b k : Int} (h : -k ≤ a ∧ a ≤ k) : -k ≤ a.tdiv b ∧ a.tdiv b ≤ k := by
  have h1 : (a.tdiv b).natAbs ≤ a.natAbs := by rw [Int.natAbs_tdiv]; exact Nat.div_le_self _ _
  omega
theorem tdiv_floor {a b : Int} (hb : 0 < b) : a / b = (if a.tmod b ≠ 0 ∧ a < 0 then a.tdiv b - 1 else a.tdiv b) := by
  rw [Int.tdiv_eq_ediv, Int.tmod_eq_emod]
  by_cases h0 : 0 ≤ a
  · rw [if_neg (by omega), if_pos (Or.inl h0)]; omega
  · by_cases hd : b ∣ a
    · rw [if_neg (by rw [if_pos (Or.inr hd), Int.emod_eq_zero_of_dvd hd]; omega), if_pos (Or.inr hd)]; omega
    · have hne : ¬ (0 ≤ a ∨ b ∣ a) := by rintro (h | h) <;> contradiction
      have h3 := Int.emod_lt_of_pos a hb
      rw [if_neg hne, if_neg hne, if_pos ⟨by omega, by omega⟩, Int.sign_eq_one_of_pos hb]
      omega
theorem tmod_neg_iff {a b : Int} (hb : 0 < b) : (a.tmod b < 0) ↔ (a.tmod b ≠ 0 ∧ a < 0) := by
  rw [Int.tmod_eq_emod]
  have h2 := Int.emod_nonneg a (show b ≠ 0 by omega)
  have h3 := Int.emod_lt_of_pos a hb
  by_cases h0 : 0 ≤ a
  · rw [if_pos (Or.inl h0)]; omega
  · by_cases hd : b ∣ a
    · rw [if_pos (Or.inr hd), Int.emod_eq_zero_of_dvd hd]; omega
    · have hne : ¬ (0 ≤ a ∨ b ∣ a) := by rintro (h | h) <;> contradiction
      rw [if_neg hne]
      omega

/-! ### the first of the four turns -/
def firstX (a b : Int) : Int := if 0 < a ∧ 0 ≤ b then a else if b < 0 ∧ 0 ≤ a then -b else if a < 0 ∧ b ≤ 0 then -a else b
def firstY (a b : Int) : Int := if 0 < a ∧ 0 ≤ b then b else if b < 0 ∧ 0 ≤ a then a else if a < 0 ∧ b ≤ 0 then -b else -a
def turns (a b : Int) : Nat := if 0 < a ∧ 0 ≤ b then 0 else if b < 0 ∧ 0 ≤ a then 1 else if a < 0 ∧ b ≤ 0 then 2 else if a = 0 ∧ b = 0 then 0 else 3
theorem first_stop {a b : Int} (h : 0 < a ∧ 0 ≤ b) : firstX a b = a ∧ firstY a b = b := by
  unfold firstX firstY; rw [if_pos h, if_pos h]; exact ⟨rfl, rfl⟩
theorem first_zero : firstX 0 0 = 0 ∧ firstY 0 0 = 0 := by decide
theorem first_turn {a b : Int} (h : ¬ (0 < a ∧ 0 ≤ b)) (hz : ¬ (a = 0 ∧ b = 0)) : firstX (-b) a = firstX a b ∧ firstY (-b) a = firstY a b ∧ turns (-b) a < turns a b := by
  unfold firstX firstY turns
  refine ⟨?_, ?_, ?_⟩
  all_goals
    repeat' split
  all_goals omega
theorem first_in {a b : Int} (h : in6 a b) : in6 (firstX a b) (firstY a b) := by
  unfold firstX firstY
  split
  · omega
  · split
    · omega
    · split <;> omega
theorem turns_le (a b : Int) : turns a b ≤ 3 := by
  unfold turns
  repeat' split
  all_goals omega
theorem neg_in6 {a b : Int} (h : in6 a b) : in6 (-b) a := by unfold in6 at *; omega

/-! ### dividing again and again -/
def gcdF : Nat → Int → Int → Int → Int → Int × Int
  | 0, x, y, _, _ => (x, y)
  | n + 1, x, y, x', y' => if x' = 0 ∧ y' = 0 then (x, y) else gcdF n x' y' (rx x y x' y') (ry x y x' y')
theorem gcdF_zero (n : Nat) (x y : Int) : gcdF n x y 0 0 = (x, y) := by cases n <;> simp [gcdF]
theorem gcdF_step {n : Nat} {x y x' y' : Int} (h : ¬ (x' = 0 ∧ y' = 0)) (hn : nrm x' y' ≤ (n : Int)) : ∃ k, k < n ∧ nrm (rx x y x' y') (ry x y x' y') ≤ (k : Int) ∧ gcdF k x' y' (rx x y x' y') (ry x y x' y') = gcdF n x y x' y' := by
  have h1 := nrm_pos h
  have h2 := rest_half (x := x) (y := y) h1
  cases n with
  | zero => omega
  | succ k =>
    refine ⟨k, by omega, by omega, ?_⟩
    rw [gcdF, if_neg h]
theorem nrm_toNat (x y : Int) : nrm x y ≤ ((nrm x y).toNat : Int) := by have := nrm_nonneg x y; omega
/-- the divisor that comes out -/
def gcdX (x y x' y' : Int) : Int := (gcdF (nrm x' y').toNat x y x' y').1
def gcdY (x y x' y' : Int) : Int := (gcdF (nrm x' y').toNat x y x' y').2
end Go.Proofs.Ytaleeoghifcadaa

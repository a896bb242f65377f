/- Whole numbers as words of complex128: sums and products are exact. No law is stated here. -/
import Derived.Test.YtfodfapaidfhbacEx
namespace Go.Proofs.Ytfodfapaidfhbac
set_option linter.unusedSimpArgs false
set_option linter.unusedVariables false
open Go.RowKit Ieee

/-- a word that stands for a whole number -/
def Wn (x : Nat) (a : Int) : Prop := Vl .f64 x (a * 2 ^ un .f64)
theorem lim_w {u V : Nat} (h : V ≤ 2 ^ 50 * 2 ^ un .f64 * 2 ^ u) : dropU double u V - u + 2 < 2 ^ double.exponentBits - 1 := by
  have hu : un .f64 = 1074 := rfl
  have h1 : dropU double u V - u ≤ 50 + un .f64 := drop_lim (by
    rw [← Nat.pow_add, ← Nat.pow_add] at h
    refine Nat.lt_of_le_of_lt h (Nat.pow_lt_pow_right (by omega) ?_)
    show 50 + un .f64 + u < 52 + 1 + u + (50 + un .f64)
    omega)
  have e : (2 : Nat) ^ double.exponentBits - 1 = 2047 := by decide
  omega
theorem small53 {m : Nat} (h : m ≤ 2 ^ 50) : m < 2 ^ (double.fractionBits + 1) := by
  have : (2 : Nat) ^ 50 < 2 ^ (double.fractionBits + 1) := by decide
  omega
theorem wn_nearest (s : Bool) {m : Nat} (hm : m ≤ 2 ^ 50) : Fl double (double.nearest s m 0) s (m * 2 ^ un .f64) := by
  have h := nearest_shift double s m (un .f64) 0
  have e : (0 : Int) - (un .f64 : Int) = double.leastPlace := by decide
  rw [e] at h
  rw [← h]
  have h2 := fl_nearest double s (m * 2 ^ un .f64) 0 (p := double.leastPlace) (by omega) (lim_w (by rw [Nat.pow_zero, Nat.mul_one]; exact Nat.mul_le_mul_right _ hm))
  rw [rnd_same (rep_scale (rep_small (small53 hm)) _)] at h2
  exact h2
theorem wn_int {n : Int} (h : n.natAbs ≤ 2 ^ 50) : Wn (floatOfInt .f64 n) n := by
  refine ⟨_, _, wn_nearest (decide (n < 0)) h, ?_⟩
  rw [sg_scale]
  congr 1
  by_cases c : n < 0
  · rw [decide_eq_true c]; show -((n.natAbs : Nat) : Int) = n; omega
  · rw [decide_eq_false c]; show ((n.natAbs : Nat) : Int) = n; omega
theorem wn_sum {s t : Bool} {V W : Nat} {n : Int} (h : sg s V + sg t W = n * 2 ^ un .f64) (hn : n.natAbs ≤ 2 ^ 50) : Wn (sumW double s V t W) n := by
  have hA : sumA s V t W = n.natAbs * 2 ^ un .f64 := by unfold sumA; rw [h, natAbs_pow]
  have h1 := fl_sum (f := double) s V t W (lim_w (u := 0) (by rw [hA, Nat.pow_zero, Nat.mul_one]; exact Nat.mul_le_mul_right _ hn))
  rw [hA, rnd_same (rep_scale (rep_small (small53 hn)) _)] at h1
  refine ⟨_, _, h1, ?_⟩
  rw [← natAbs_pow, ← h]
  unfold sumS
  generalize sg s V + sg t W = T
  split
  · rename_i h; rw [h]; unfold sg; split <;> rfl
  · unfold sg
    by_cases c : T < 0
    · simp [c]; omega
    · simp [c]; omega
theorem wn_add {x y : Nat} {a b : Int} (hx : Wn x a) (hy : Wn y b) (h : (a + b).natAbs ≤ 2 ^ 50) : ∃ r, floatBits .add .f64 x y = some r ∧ Wn r (a + b) := by
  obtain ⟨s, V, h1, e1⟩ := hx
  obtain ⟨t, W, h2, e2⟩ := hy
  exact ⟨_, fl_add h1 h2, wn_sum (by rw [e1, e2, Int.add_mul]) h⟩
theorem wn_sub {x y : Nat} {a b : Int} (hx : Wn x a) (hy : Wn y b) (h : (a - b).natAbs ≤ 2 ^ 50) : ∃ r, floatBits .sub .f64 x y = some r ∧ Wn r (a - b) := by
  obtain ⟨s, V, h1, e1⟩ := hx
  obtain ⟨t, W, h2, e2⟩ := hy
  exact ⟨_, fl_sub h1 h2, wn_sum (by rw [sg_neg, e1, e2, Int.sub_mul]; rfl) h⟩
theorem wn_sign {s : Bool} {V : Nat} {a : Int} (h : sg s V = a * 2 ^ un .f64) : V = a.natAbs * 2 ^ un .f64 ∧ a = sg s a.natAbs := by
  have hV := sg_of h
  refine ⟨hV, ?_⟩
  rw [hV, sg_scale] at h
  have hp : (2 : Int) ^ un .f64 ≠ 0 := Int.pow_ne_zero (by decide)
  exact (Int.eq_of_mul_eq_mul_right hp h).symm
theorem sg_mul (s t : Bool) (m n : Nat) : sg s m * sg t n = sg (s ^^ t) (m * n) := by
  cases s <;> cases t <;> simp [sg, Int.neg_mul, Int.mul_neg]
theorem wn_mul {x y : Nat} {a b : Int} (hx : Wn x a) (hy : Wn y b) (h : (a * b).natAbs ≤ 2 ^ 50) : ∃ r, floatBits .mul .f64 x y = some r ∧ Wn r (a * b) := by
  obtain ⟨s, V, ⟨m, i, h1, e1, _⟩, v1⟩ := hx
  obtain ⟨t, W, ⟨n, j, h2, e2, _⟩, v2⟩ := hy
  obtain ⟨p1, p2⟩ := wn_sign v1
  obtain ⟨q1, q2⟩ := wn_sign v2
  rw [Int.natAbs_mul] at h
  have hw : floatBits .mul .f64 x y = some (double.nearest (s ^^ t) (m * n) (double.leastPlace + (i : Int) + (double.leastPlace + (j : Int)))) := by
    have a1 : double.read x = .number s m (double.leastPlace + (i : Int)) := h1
    have a2 : double.read y = .number t n (double.leastPlace + (j : Int)) := h2
    show ((double.read x).product (double.read y)).map double.write = _
    rw [a1, a2]; rfl
  have hsh := nearest_shift double (s ^^ t) (m * n) (i + j) (double.leastPlace + (i : Int) + (double.leastPlace + (j : Int)))
  have ep : double.leastPlace + (i : Int) + (double.leastPlace + (j : Int)) - ((i + j : Nat) : Int) = double.leastPlace - (un .f64 : Int) := by rw [least_d]; have : un .f64 = 1074 := rfl; omega
  have em : m * n * 2 ^ (i + j) = a.natAbs * b.natAbs * 2 ^ un .f64 * 2 ^ un .f64 := by
    have : m * n * 2 ^ (i + j) = (m * 2 ^ i) * (n * 2 ^ j) := by rw [Nat.pow_add]; ac_rfl
    rw [this, e1, e2, p1, q1]
    generalize 2 ^ un .f64 = P
    ac_rfl
  rw [ep, em] at hsh
  have hF := fl_nearest double (s ^^ t) (a.natAbs * b.natAbs * 2 ^ un .f64 * 2 ^ un .f64) (un .f64) (p := double.leastPlace - (un .f64 : Int)) (by omega) (lim_w (Nat.mul_le_mul_right _ (Nat.mul_le_mul_right _ h)))
  rw [rndU_exact (rep_scale (rep_small (small53 h)) _), hsh] at hF
  refine ⟨_, hw, s ^^ t, _, hF, ?_⟩
  rw [sg_scale, ← sg_mul, ← p2, ← q2]
theorem sq50 {a b : Int} (ha : -1000000 ≤ a ∧ a ≤ 1000000) (hb : -1000000 ≤ b ∧ b ≤ 1000000) : (a * b).natAbs ≤ 1000000000000 := by
  rw [Int.natAbs_mul]
  have := Nat.mul_le_mul (show a.natAbs ≤ 1000000 by omega) (show b.natAbs ≤ 1000000 by omega)
  omega
/-- the product of two complex numbers with small whole parts -/
theorem cmul_exact {A B C D : Nat} {a b c d : Int} (hA : Wn A a) (hB : Wn B b) (hC : Wn C c) (hD : Wn D d) (ha : -1000000 ≤ a ∧ a ≤ 1000000) (hb : -1000000 ≤ b ∧ b ≤ 1000000) (hc : -1000000 ≤ c ∧ c ≤ 1000000) (hd : -1000000 ≤ d ∧ d ≤ 1000000) :
    ∃ re im, cMulBits A B C D = some (re, im) ∧ Wn re (a * c - b * d) ∧ Wn im (a * d + b * c) := by
  have e50 : (2 : Nat) ^ 50 = 1125899906842624 := by decide
  have q1 := sq50 ha hc
  have q2 := sq50 hb hd
  have q3 := sq50 ha hd
  have q4 := sq50 hb hc
  obtain ⟨ac, x1, y1⟩ := wn_mul hA hC (by omega)
  obtain ⟨bd, x2, y2⟩ := wn_mul hB hD (by omega)
  obtain ⟨ad, x3, y3⟩ := wn_mul hA hD (by omega)
  obtain ⟨bc, x4, y4⟩ := wn_mul hB hC (by omega)
  obtain ⟨re, x5, y5⟩ := wn_sub y1 y2 (by omega)
  obtain ⟨im, x6, y6⟩ := wn_add y3 y4 (by omega)
  exact ⟨re, im, by simp [cMulBits, x1, x2, x3, x4, x5, x6], y5, y6⟩
theorem wn_same {x y : Nat} {a : Int} (hx : Wn x a) (hy : Wn y a) : FloatKind.f64.format.order x y = some .eq := vl_same hx hy
end Go.Proofs.Ytfodfapaidfhbac

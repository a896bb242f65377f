/- Chapter 5: points that a path may visit, of both sides. No law is stated here. -/
import Derived.Test.YtmdnfamjdogogaaCm
import Derived.Test.YtmdnfamjdogogaaGa
import Derived.Test.YtmdnfamjdogogaaPo
import Derived.Laws.Externs
namespace Go.Proofs.Ytmdnfamjdogogaa
set_option linter.unusedSimpArgs false
set_option linter.unusedVariables false
open Go.RowKit Ieee

theorem cut_zeroC (s : Bool) (n p : Nat) : Toward.zero.cut s n p = n / 2 ^ p := by
  unfold Toward.cut
  simp only [Nat.one_shiftLeft, Bool.toNat_false, Nat.add_zero]
  rcases Nat.le_total p (n.log2 + 2) with h | h
  · rw [Nat.min_eq_left h]
  · rw [Nat.min_eq_right h]
    have h1 : n < 2 ^ (n.log2 + 1) := Nat.lt_log2_self
    have h2 : 2 ^ (n.log2 + 2) = 2 * 2 ^ (n.log2 + 1) := by rw [Nat.pow_succ]; omega
    have h3 : 2 ^ (n.log2 + 2) ≤ 2 ^ p := Nat.pow_le_pow_right (by omega) h
    rw [Nat.div_eq_of_lt (by omega), Nat.div_eq_of_lt (by omega)]
theorem toInt_sw (k : FloatKind) (s : Bool) {n : Nat} (h : n ≤ 2000000) : (k.decode (sw k s n)).toInt .zero = some (sg s n) := by
  obtain ⟨m, i, h1, h2, _⟩ := fl_sw k s h
  have hd : k.decode (sw k s n) = .number s m (k.format.leastPlace + (i : Int)) := h1
  rw [hd]
  unfold Datum.toInt Datum.integral
  simp only [cut_zeroC, Nat.shiftLeft_eq, signed_sg, Nat.pow_zero, Nat.mul_one]
  rw [least_un]
  generalize un k = u at *
  have e : m * 2 ^ (-(u : Int) + (i : Int)).toNat / 2 ^ (-(-(u : Int) + (i : Int))).toNat = n := by
    rcases Nat.le_total u i with c | c
    · rw [show (-(-(u : Int) + (i : Int))).toNat = 0 by omega, Nat.pow_zero, Nat.div_one, show (-(u : Int) + (i : Int)).toNat = i - u by omega]
      have e2 : m * 2 ^ i = m * 2 ^ (i - u) * 2 ^ u := by rw [Nat.mul_assoc, ← Nat.pow_add, show i - u + u = i by omega]
      rw [e2] at h2
      exact Nat.eq_of_mul_eq_mul_right (Nat.two_pow_pos _) h2
    · rw [show (-(u : Int) + (i : Int)).toNat = 0 by omega, Nat.pow_zero, Nat.mul_one, show (-(-(u : Int) + (i : Int))).toNat = u - i by omega]
      have e2 : n * 2 ^ u = n * 2 ^ (u - i) * 2 ^ i := by rw [Nat.mul_assoc, ← Nat.pow_add, show u - i + i = u by omega]
      rw [e2] at h2
      rw [Nat.eq_of_mul_eq_mul_right (Nat.two_pow_pos _) h2, Nat.mul_div_cancel _ (Nat.two_pow_pos _)]
  rw [e]
theorem toInt_swv (k : FloatKind) (s : Bool) {n : Nat} (h : n ≤ 1000000) : floatToIntVal k (sw k s n) .i64 = some (sg s n) := by
  have hs : -1000000 ≤ sg s n ∧ sg s n ≤ 1000000 := by unfold sg; split <;> omega
  unfold floatToIntVal
  rw [toInt_sw k s (by omega)]
  have e1 : IntKind.i64.min = -9223372036854775808 := rfl
  have e2 : IntKind.i64.max = 9223372036854775807 := rfl
  simp only [e1, e2]
  rw [if_pos (by omega)]
/-- a word's order beside a whole number's -/
theorem ws_order (k : FloatKind) (s : Bool) {n : Nat} {a : Int} (h : n ≤ 2000000) (ha : a.natAbs ≤ 2000000) : k.format.order (sw k s n) (floatOfInt k a) = some (compare (sg s n) a) := by
  rw [fw_sw, sw_order _ _ _ h ha, own_sg]
theorem sw_wsorder (k : FloatKind) (s : Bool) {n : Nat} {a : Int} (h : n ≤ 2000000) (ha : a.natAbs ≤ 2000000) : k.format.order (floatOfInt k a) (sw k s n) = some (compare a (sg s n)) := by
  rw [fw_sw, sw_order _ _ _ ha h, own_sg]
theorem cmp_le {a b : Int} (h : a ≤ b) : (some (compare a b) == some Ordering.lt || some (compare a b) == some Ordering.eq) = true := by
  rcases Int.lt_or_eq_of_le h with h | h
  · rw [Int.compare_eq_lt.2 h]; rfl
  · rw [Int.compare_eq_eq.2 h]; rfl
theorem cmp_ge {a b : Int} (h : b ≤ a) : (some (compare a b) == some Ordering.gt || some (compare a b) == some Ordering.eq) = true := by
  rcases Int.lt_or_eq_of_le h with h | h
  · rw [Int.compare_eq_gt.2 h]; rfl
  · rw [Int.compare_eq_eq.2 h.symm]; rfl
theorem sg_in (s : Bool) {n B : Nat} (h : n ≤ B) : -(B : Int) ≤ sg s n ∧ sg s n ≤ B := by unfold sg; split <;> omega

/-! ### noughts with a sign -/
def okN (p : Bool × Nat) : Bool := !(p.1 && decide (p.2 = 0))
def okQ (q : SZ) : Bool := okN q.1 && okN q.2
theorem okN_own {p : Bool × Nat} (h : okN p = true) : p = (decide (sg p.1 p.2 < 0), (sg p.1 p.2).natAbs) := by
  obtain ⟨s, n⟩ := p
  unfold okN at h
  cases s
  · simp [sg]
  · simp [sg] at h ⊢; omega
theorem okQ_enc {q : SZ} (h : okQ q = true) : encZ q = encP (val q) := by
  unfold okQ at h
  rw [Bool.and_eq_true] at h
  have h1 := okN_own h.1
  have h2 := okN_own h.2
  have e1 : xr q = px (val q) := by
    unfold xr px val
    rw [fw_sw]
    conv => lhs; rw [h1]
  have e2 : xi q = py (val q) := by
    unfold xi py val
    rw [fw_sw]
    conv => lhs; rw [h2]
  unfold encZ encP
  rw [e1, e2]
theorem wz_neg : sw .f32 true 0 = 2147483648 := by decide +kernel
theorem neg_word (s : Bool) {n : Nat} (h : n ≤ 2000000) : (((sw .f32 s n : Nat) : Int) == 2147483648) = (s && decide (n = 0)) := by
  by_cases h0 : n = 0
  · subst h0
    cases s
    · rw [show sw .f32 false 0 = 0 from w0s]; rfl
    · rw [wz_neg]; rfl
  · have : ¬ sw .f32 s n = 2147483648 := by
      intro e
      have h1 := sw_order .f32 s true h (show 0 ≤ 2000000 by omega)
      rw [wz_neg, e] at h1
      have h2 := sw_order .f32 true true (show 0 ≤ 2000000 by omega) (show 0 ≤ 2000000 by omega)
      rw [wz_neg, h1, Int.compare_eq_eq.2 rfl, sg0] at h2
      have h3 := Int.compare_eq_eq.1 (Option.some.inj h2)
      have := congrArg Int.natAbs h3
      rw [sg_abs] at this
      exact h0 (by simpa using this)
    have e1 : (((sw .f32 s n : Nat) : Int) == 2147483648) = false := by simp; omega
    rw [e1]; simp [h0]
theorem f32bitsC_run (x : Nat) (w : World) : (Extern.MathFloatBits.float32bits #[.float .f32 x]).run Try.prog w = .ok (.int .u32 (x : Nat)) w := rfl
end Go.Proofs.Ytmdnfamjdogogaa

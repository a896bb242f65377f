/- Words of whole numbers with a sign, of either width: sums, products and conversions give just these words. No law is stated here. -/
import Derived.Test.YtmdnfamjdogogaaDoorVl
namespace Go.Proofs.YtmdnfamjdogogaaDoor
set_option linter.unusedSimpArgs false
set_option linter.unusedVariables false
open Ieee

def sw (k : FloatKind) (s : Bool) (m : Nat) : Nat := k.format.nearest s m 0
theorem fw_sw (k : FloatKind) (n : Int) : floatOfInt k n = sw k (decide (n < 0)) n.natAbs := rfl
theorem least_un (k : FloatKind) : k.format.leastPlace = -(un k : Int) := by cases k <;> decide
theorem sw_units (k : FloatKind) (s : Bool) (m : Nat) : sw k s m = k.format.nearest s (m * 2 ^ un k) k.format.leastPlace := by
  have h := nearest_shift k.format s m (un k) 0
  rw [show (0 : Int) - (un k : Int) = k.format.leastPlace by rw [least_un]; omega] at h
  exact h.symm
theorem sw_zero (k : FloatKind) (s : Bool) : sw k s 0 = k.format.word s 0 := nearest_zero _ _ _
def sgS (s : Bool) (m : Nat) (t : Bool) (n : Nat) : Bool := if sg s m + sg t n = 0 then s && t else decide (sg s m + sg t n < 0)
def sgN (s : Bool) (m : Nat) (t : Bool) (n : Nat) : Nat := (sg s m + sg t n).natAbs
theorem sgN_le (s : Bool) (m : Nat) (t : Bool) (n : Nat) : sgN s m t n ≤ m + n := by
  unfold sgN sg
  cases s <;> cases t <;> simp <;> omega
theorem pow_scale (T : Int) (b : Nat) : ((T * 2 ^ b = 0) = (T = 0)) ∧ ((T * 2 ^ b < 0) = (T < 0)) ∧ (T * 2 ^ b).natAbs = T.natAbs * 2 ^ b := by
  have hp : (0 : Int) < 2 ^ b := by exact_mod_cast Nat.two_pow_pos b
  refine ⟨propext ⟨fun h => ?_, fun h => by rw [h, Int.zero_mul]⟩, propext ⟨fun h => ?_, fun h => Int.mul_neg_of_neg_of_pos h hp⟩, by rw [Int.natAbs_mul, Int.natAbs_pow]; rfl⟩
  · rcases Int.mul_eq_zero.1 h with h | h
    · exact h
    · omega
  · rcases Int.lt_or_le T 0 with h2 | h2
    · exact h2
    · have := Int.mul_nonneg h2 (Int.le_of_lt hp); omega
theorem sumW_sw (k : FloatKind) (s : Bool) (m : Nat) (t : Bool) (n : Nat) : sumW k.format s (m * 2 ^ un k) t (n * 2 ^ un k) = sw k (sgS s m t n) (sgN s m t n) := by
  rw [sw_units]
  unfold sumW sgS sgN
  rw [sg_scale, sg_scale, ← Int.add_mul]
  generalize sg s m + sg t n = T
  obtain ⟨c1, c2, c3⟩ := pow_scale T (un k)
  simp only [c1, c2, c3]
theorem fl_sw (k : FloatKind) (s : Bool) {m : Nat} (h : m ≤ 2000000) : Fl k.format (sw k s m) s (m * 2 ^ un k) := by
  cases k
  · exact fl_whole (f := single) (by decide) (by decide) lim_s s h
  · exact fl_whole (f := double) (by decide) (by decide) lim_d s h
theorem sw_add {k : FloatKind} (s t : Bool) {m n : Nat} (hm : m ≤ 2000000) (hn : n ≤ 2000000) : floatBits .add k (sw k s m) (sw k t n) = some (sw k (sgS s m t n) (sgN s m t n)) := by
  have h := fl_add (fl_sw k s hm) (fl_sw k t hn)
  rw [sumW_sw] at h
  exact h
theorem sw_sub {k : FloatKind} (s t : Bool) {m n : Nat} (hm : m ≤ 2000000) (hn : n ≤ 2000000) : floatBits .sub k (sw k s m) (sw k t n) = some (sw k (sgS s m (!t) n) (sgN s m (!t) n)) := by
  have h := fl_sub (fl_sw k s hm) (fl_sw k t hn)
  rw [sumW_sw] at h
  exact h
theorem sw_mul {k : FloatKind} (s t : Bool) {m n : Nat} (hm : m ≤ 2000000) (hn : n ≤ 2000000) : floatBits .mul k (sw k s m) (sw k t n) = some (sw k (s ^^ t) (m * n)) := by
  obtain ⟨m', i, h1, e1, _⟩ := fl_sw k s hm
  obtain ⟨n', j, h2, e2, _⟩ := fl_sw k t hn
  have hw : floatBits .mul k (sw k s m) (sw k t n) = some (k.format.nearest (s ^^ t) (m' * n') (k.format.leastPlace + (i : Int) + (k.format.leastPlace + (j : Int)))) := by
    show ((k.format.read (sw k s m)).product (k.format.read (sw k t n))).map k.format.write = _
    rw [h1, h2]; rfl
  rw [hw]
  have hsh := nearest_shift k.format (s ^^ t) (m' * n') (i + j) (k.format.leastPlace + (i : Int) + (k.format.leastPlace + (j : Int)))
  have hs2 := nearest_shift k.format (s ^^ t) (m * n) (un k + un k) 0
  have em : m' * n' * 2 ^ (i + j) = m * n * 2 ^ (un k + un k) := by
    have : m' * n' * 2 ^ (i + j) = (m' * 2 ^ i) * (n' * 2 ^ j) := by rw [Nat.pow_add]; ac_rfl
    rw [this, e1, e2, Nat.pow_add]
    generalize 2 ^ un k = P
    ac_rfl
  have ep : k.format.leastPlace + (i : Int) + (k.format.leastPlace + (j : Int)) - ((i + j : Nat) : Int) = 0 - ((un k + un k : Nat) : Int) := by rw [least_un]; omega
  rw [← hsh, em, ep, hs2]
  rfl
theorem sw_conv (k l : FloatKind) (s : Bool) {m : Nat} (hm : m ≤ 2000000) : floatToFloatBits k (sw k s m) l = some (sw l s m) := by
  by_cases c : k = l
  · subst c; simp [floatToFloatBits]
  · obtain ⟨m', i, h1, e1, _⟩ := fl_sw k s hm
    have h1' : k.decode (sw k s m) = .number s m' (k.format.leastPlace + (i : Int)) := h1
    have hr : l.encode (.number s m' (k.format.leastPlace + (i : Int))) = sw l s m := by
      show l.format.nearest s m' (k.format.leastPlace + (i : Int)) = _
      have hsh := nearest_shift l.format s m' i (k.format.leastPlace + (i : Int))
      have hs2 := nearest_shift l.format s m (un k) 0
      rw [← hsh, e1, show k.format.leastPlace + (i : Int) - (i : Int) = 0 - (un k : Int) by rw [least_un]; omega, hs2]
      rfl
    have hi : (l.decode (sw l s m)).isInfinity = false := notInf (fl_sw l s hm)
    simp [floatToFloatBits, c, h1', hr, hi]
theorem sw_order (k : FloatKind) (s t : Bool) {m n : Nat} (hm : m ≤ 2000000) (hn : n ≤ 2000000) : k.format.order (sw k s m) (sw k t n) = some (compare (sg s m) (sg t n)) := by
  have h := vl_order (k := k) ⟨_, _, fl_sw k s hm, rfl⟩ ⟨_, _, fl_sw k t hn, rfl⟩
  rw [sg_scale, sg_scale, scale_cmp] at h
  exact h
/-- a number's own sign -/
theorem own_sg (a : Int) : sg (decide (a < 0)) a.natAbs = a := by
  by_cases c : a < 0
  · rw [decide_eq_true c]; show -((a.natAbs : Nat) : Int) = a; omega
  · rw [decide_eq_false c]; show ((a.natAbs : Nat) : Int) = a; omega
theorem own_sum {a : Int} {t : Bool} {n : Nat} : sgS (decide (a < 0)) a.natAbs t n = decide (a + sg t n < 0) ∧ sgN (decide (a < 0)) a.natAbs t n = (a + sg t n).natAbs := by
  unfold sgS sgN
  rw [own_sg]
  refine ⟨?_, rfl⟩
  by_cases c : a + sg t n = 0
  · rw [if_pos c, c]
    unfold sg at c
    cases t
    · simp
    · simp at c ⊢; omega
  · rw [if_neg c]
theorem fw_add {k : FloatKind} {a : Int} (t : Bool) {n : Nat} (ha : a.natAbs ≤ 2000000) (hn : n ≤ 2000000) : floatBits .add k (floatOfInt k a) (sw k t n) = some (floatOfInt k (a + sg t n)) := by
  rw [fw_sw, sw_add _ _ ha hn, own_sum.1, own_sum.2]; rfl
theorem fw_sub {k : FloatKind} {a : Int} (t : Bool) {n : Nat} (ha : a.natAbs ≤ 2000000) (hn : n ≤ 2000000) : floatBits .sub k (floatOfInt k a) (sw k t n) = some (floatOfInt k (a - sg t n)) := by
  rw [fw_sw, sw_sub _ _ ha hn, own_sum.1, own_sum.2, sg_neg]; rfl
theorem ff_add {k : FloatKind} {a b : Int} (ha : a.natAbs ≤ 2000000) (hb : b.natAbs ≤ 2000000) : floatBits .add k (floatOfInt k a) (floatOfInt k b) = some (floatOfInt k (a + b)) := by
  rw [fw_sw k b, fw_add _ ha hb, own_sg]
theorem ff_sub {k : FloatKind} {a b : Int} (ha : a.natAbs ≤ 2000000) (hb : b.natAbs ≤ 2000000) : floatBits .sub k (floatOfInt k a) (floatOfInt k b) = some (floatOfInt k (a - b)) := by
  rw [fw_sw k b, fw_sub _ ha hb, own_sg]
theorem sqw_nonneg (a : Int) : ¬ a * a < 0 := by
  have : 0 ≤ a * a := by
    rcases Int.le_total 0 a with h | h
    · exact Int.mul_nonneg h h
    · exact Int.mul_nonneg_of_nonpos_of_nonpos h h
  omega
theorem ff_sq {k : FloatKind} {a : Int} (ha : a.natAbs ≤ 2000000) : floatBits .mul k (floatOfInt k a) (floatOfInt k a) = some (floatOfInt k (a * a)) := by
  rw [fw_sw k a, sw_mul _ _ ha ha, fw_sw, Bool.xor_self, Int.natAbs_mul, decide_eq_false (sqw_nonneg a)]
theorem ff_order {k : FloatKind} {a b : Int} (ha : a.natAbs ≤ 2000000) (hb : b.natAbs ≤ 2000000) : k.format.order (floatOfInt k a) (floatOfInt k b) = some (compare a b) := by
  rw [fw_sw, fw_sw, sw_order _ _ _ ha hb, own_sg, own_sg]
theorem ff_conv (k l : FloatKind) {a : Int} (ha : a.natAbs ≤ 2000000) : floatToFloatBits k (floatOfInt k a) l = some (floatOfInt l a) := sw_conv k l _ ha
theorem ff_inj {k : FloatKind} {a b : Int} (ha : a.natAbs ≤ 2000000) (hb : b.natAbs ≤ 2000000) (h : floatOfInt k a = floatOfInt k b) : a = b := by
  have h1 := ff_order (k := k) ha hb
  rw [h, ff_order hb hb, Int.compare_eq_eq.2 rfl] at h1
  exact Int.compare_eq_eq.1 (Option.some.inj h1).symm
section
variable {P : Program} (w : World)
/-- products of complex64 with whole parts, whatever the signs of their zeros -/
theorem run_cmul32 (t : TypeId) (s1 s2 s3 s4 : Bool) {a b c d : Nat} (ha : a ≤ 1000) (hb : b ≤ 1000) (hc : c ≤ 1000) (hd : d ≤ 1000) :
    (binOp .mul t (.complex .f32 (sw .f32 s1 a) (sw .f32 s2 b)) (.complex .f32 (sw .f32 s3 c) (sw .f32 s4 d))).run P w =
      .ok (.complex .f32 (sw .f32 (sgS (s1 ^^ s3) (a * c) (!(s2 ^^ s4)) (b * d)) (sgN (s1 ^^ s3) (a * c) (!(s2 ^^ s4)) (b * d))) (sw .f32 (sgS (s1 ^^ s4) (a * d) (s2 ^^ s3) (b * c)) (sgN (s1 ^^ s4) (a * d) (s2 ^^ s3) (b * c)))) w := by
  have m1 : a * c ≤ 1000000 := Nat.mul_le_mul ha hc
  have m2 : b * d ≤ 1000000 := Nat.mul_le_mul hb hd
  have m3 : a * d ≤ 1000000 := Nat.mul_le_mul ha hd
  have m4 : b * c ≤ 1000000 := Nat.mul_le_mul hb hc
  have u1 := run_floatToFloat w (P := P) (sw_conv .f32 .f64 s1 (m := a) (by omega))
  have u2 := run_floatToFloat w (P := P) (sw_conv .f32 .f64 s2 (m := b) (by omega))
  have u3 := run_floatToFloat w (P := P) (sw_conv .f32 .f64 s3 (m := c) (by omega))
  have u4 := run_floatToFloat w (P := P) (sw_conv .f32 .f64 s4 (m := d) (by omega))
  have h1 := run_carith w (P := P) (sw_mul (k := .f64) s1 s3 (m := a) (n := c) (by omega) (by omega))
  have h2 := run_carith w (P := P) (sw_mul (k := .f64) s2 s4 (m := b) (n := d) (by omega) (by omega))
  have h3 := run_carith w (P := P) (sw_mul (k := .f64) s1 s4 (m := a) (n := d) (by omega) (by omega))
  have h4 := run_carith w (P := P) (sw_mul (k := .f64) s2 s3 (m := b) (n := c) (by omega) (by omega))
  have h5 := run_carith w (P := P) (sw_sub (k := .f64) (s1 ^^ s3) (s2 ^^ s4) (m := a * c) (n := b * d) (by omega) (by omega))
  have h6 := run_carith w (P := P) (sw_add (k := .f64) (s1 ^^ s4) (s2 ^^ s3) (m := a * d) (n := b * c) (by omega) (by omega))
  have n1 := sgN_le (s1 ^^ s3) (a * c) (!(s2 ^^ s4)) (b * d)
  have n2 := sgN_le (s1 ^^ s4) (a * d) (s2 ^^ s3) (b * c)
  have d1 := run_floatToFloat w (P := P) (sw_conv .f64 .f32 (sgS (s1 ^^ s3) (a * c) (!(s2 ^^ s4)) (b * d)) (m := sgN (s1 ^^ s3) (a * c) (!(s2 ^^ s4)) (b * d)) (by omega))
  have d2 := run_floatToFloat w (P := P) (sw_conv .f64 .f32 (sgS (s1 ^^ s4) (a * d) (s2 ^^ s3) (b * c)) (m := sgN (s1 ^^ s4) (a * d) (s2 ^^ s3) (b * c)) (by omega))
  simp [binOp, Op.complexOp, Op.Complex.conv, Op.Complex.product, Op.Complex.mul, Op.Complex.sub, Op.Complex.add, u1, u2, u3, u4, h1, h2, h3, h4, h5, h6, d1, d2]
theorem run_cadd {k : FloatKind} (t : TypeId) {a b c d : Int} (ha : a.natAbs ≤ 2000000) (hb : b.natAbs ≤ 2000000) (hc : c.natAbs ≤ 2000000) (hd : d.natAbs ≤ 2000000) :
    (binOp .add t (.complex k (floatOfInt k a) (floatOfInt k b)) (.complex k (floatOfInt k c) (floatOfInt k d))).run P w = .ok (.complex k (floatOfInt k (a + c)) (floatOfInt k (b + d))) w :=
  run_complex_sum w .add (.inl rfl) t k _ _ _ _ _ _ (by simp [cSumBits, ff_add ha hc, ff_add hb hd])
theorem run_csub {k : FloatKind} (t : TypeId) {a b c d : Int} (ha : a.natAbs ≤ 2000000) (hb : b.natAbs ≤ 2000000) (hc : c.natAbs ≤ 2000000) (hd : d.natAbs ≤ 2000000) :
    (binOp .sub t (.complex k (floatOfInt k a) (floatOfInt k b)) (.complex k (floatOfInt k c) (floatOfInt k d))).run P w = .ok (.complex k (floatOfInt k (a - c)) (floatOfInt k (b - d))) w :=
  run_complex_sum w .sub (.inr rfl) t k _ _ _ _ _ _ (by simp [cSumBits, ff_sub ha hc, ff_sub hb hd])
theorem run_caddS {k : FloatKind} (t : TypeId) {a b : Int} (s3 s4 : Bool) {c d : Nat} (ha : a.natAbs ≤ 2000000) (hb : b.natAbs ≤ 2000000) (hc : c ≤ 2000000) (hd : d ≤ 2000000) :
    (binOp .add t (.complex k (floatOfInt k a) (floatOfInt k b)) (.complex k (sw k s3 c) (sw k s4 d))).run P w = .ok (.complex k (floatOfInt k (a + sg s3 c)) (floatOfInt k (b + sg s4 d))) w :=
  run_complex_sum w .add (.inl rfl) t k _ _ _ _ _ _ (by simp [cSumBits, fw_add _ ha hc, fw_add _ hb hd])
theorem cmp_sg (a b : Int) : (compare a b == Ordering.eq) = decide (a = b) := by
  by_cases c : a = b
  · rw [Int.compare_eq_eq.2 c, decide_eq_true c]; rfl
  · rw [decide_eq_false c]
    rcases Int.lt_or_gt_of_ne c with h | h
    · rw [Int.compare_eq_lt.2 h]; rfl
    · rw [Int.compare_eq_gt.2 h]; rfl
theorem run_ceqS {k : FloatKind} (t : TypeId) (s1 s2 s3 s4 : Bool) {a b c d : Nat} (ha : a ≤ 2000000) (hb : b ≤ 2000000) (hc : c ≤ 2000000) (hd : d ≤ 2000000) :
    (binOp .eql t (.complex k (sw k s1 a) (sw k s2 b)) (.complex k (sw k s3 c) (sw k s4 d))).run P w = .ok (.bool (decide (sg s1 a = sg s3 c) && decide (sg s2 b = sg s4 d))) w := by
  have h1 := sw_order k s1 s3 ha hc
  have h2 := sw_order k s2 s4 hb hd
  simp [binOp, Op.complexOp, Op.Complex.cmp, Op.floatCmp, h1, h2, cmp_sg, asBool]
end
end Go.Proofs.YtmdnfamjdogogaaDoor

/- Merged texts: Cw Cm Cs Za Zb Zw Zx Draw DrawB DrawD Bq Wb Wc DrawW DrawC Zd Ca Ze Zf Wd We Zi Zr Zn. No law is stated here. -/
import Derived.Laws.BitsAllLaws
import Derived.Laws.Externs
import Derived.Test.YtmdnfamjdogogaaGreatDoorShelf
import Derived.Test.YtmdnfamjdogogaaGreatDoorRows
import Derived.WalkKit
import Derived.ProofKit
import Derived.WalkSpells
import Derived.WalkLawsBesides
import Derived.Lib.Hide
import Derived.Laws.ResultCell
import Derived.Deep.QuietTactic
import Derived.BigQuiet
import Derived.Outline
import Derived.Deep.LoopGhost
import Derived.Laws.RangeString
import Derived.Sort.AtCall
import Derived.Deep.Cut
import Derived.StillTailTactics
import Derived.Deep.DeepCutAuto
import Derived.RegionCalls
import Derived.Deep.RegionHeld
import Derived.RangeFuncBox
import Derived.RangeFuncLeaves
import Derived.RangeFuncNested
import Derived.Shelf.Abstract
import Derived.OwnWalkIn
import Derived.TacticsInMore
import Derived.LoopNIn
import Derived.LoopIn
import Derived.Maps.AppendAt
import Derived.Laws.StructEq
import Derived.Test.YtmdnfamjdogogaaGreatDoorZ1
namespace Go.Proofs.YtmdnfamjdogogaaGreatDoor
set_option linter.unusedSimpArgs false
set_option linter.unusedVariables false
open Ieee

def sw (k : FloatKind) (s : Bool) (m : Nat) : Nat := k.format.nearest s m 0
theorem fw_sw (k : FloatKind) (n : Int) : floatOfInt k n = sw k (decide (n < 0)) n.natAbs := rfl
theorem least_un (k : FloatKind) : k.format.leastPlace = -(un k : Int) := by cases k <;> decide
theorem sw_units (k : FloatKind) (s : Bool) (m : Nat) : sw k s m = k.format.nearest s (m * 2 ^ un k) k.format.leastPlace := by
  have h := nearest_shift k.format s m (un k) 0
  rw [show (0 : Int) - (un k : Int) = k.format.leastPlace by rw [least_un]; omega] at h
  exact h.symm
theorem sw_zero (k : FloatKind) (s : Bool) : sw k s 0 = k.format.word s 0 := nearest_zero _ _ _
def sgS (s : Bool) (m : Nat) (t : Bool) (n : Nat) : Bool := if sg s m + sg t n = 0 then s && t else decide (sg s m + sg t n < 0)
def sgN (s : Bool) (m : Nat) (t : Bool) (n : Nat) : Nat := (sg s m + sg t n).natAbs
theorem sgN_le (s : Bool) (m : Nat) (t : Bool) (n : Nat) : sgN s m t n ≤ m + n := by
  unfold sgN sg
  cases s <;> cases t <;> simp <;> omega
theorem pow_scale (T : Int) (b : Nat) : ((T * 2 ^ b = 0) = (T = 0)) ∧ ((T * 2 ^ b < 0) = (T < 0)) ∧ (T * 2 ^ b).natAbs = T.natAbs * 2 ^ b := by
  have hp : (0 : Int) < 2 ^ b := by exact_mod_cast Nat.two_pow_pos b
  refine ⟨propext ⟨fun h => ?_, fun h => by rw [h, Int.zero_mul]⟩, propext ⟨fun h => ?_, fun h => Int.mul_neg_of_neg_of_pos h hp⟩, by rw [Int.natAbs_mul, Int.natAbs_pow]; rfl⟩
  · rcases Int.mul_eq_zero.1 h with h | h
    · exact h
    · omega
  · rcases Int.lt_or_le T 0 with h2 | h2
    · exact h2
    · have := Int.mul_nonneg h2 (Int.le_of_lt hp); omega
theorem sumW_sw (k : FloatKind) (s : Bool) (m : Nat) (t : Bool) (n : Nat) : sumW k.format s (m * 2 ^ un k) t (n * 2 ^ un k) = sw k (sgS s m t n) (sgN s m t n) := by
  rw [sw_units]
  unfold sumW sgS sgN
  rw [sg_scale, sg_scale, ← Int.add_mul]
  generalize sg s m + sg t n = T
  obtain ⟨c1, c2, c3⟩ := pow_scale T (un k)
  simp only [c1, c2, c3]
theorem fl_sw (k : FloatKind) (s : Bool) {m : Nat} (h : m ≤ 2000000) : Fl k.format (sw k s m) s (m * 2 ^ un k) := by
  cases k
  · exact fl_whole (f := single) (by decide) (by decide) lim_s s h
  · exact fl_whole (f := double) (by decide) (by decide) lim_d s h
theorem sw_add {k : FloatKind} (s t : Bool) {m n : Nat} (hm : m ≤ 2000000) (hn : n ≤ 2000000) : floatBits .add k (sw k s m) (sw k t n) = some (sw k (sgS s m t n) (sgN s m t n)) := by
  have h := fl_add (fl_sw k s hm) (fl_sw k t hn)
  rw [sumW_sw] at h
  exact h
theorem sw_sub {k : FloatKind} (s t : Bool) {m n : Nat} (hm : m ≤ 2000000) (hn : n ≤ 2000000) : floatBits .sub k (sw k s m) (sw k t n) = some (sw k (sgS s m (!t) n) (sgN s m (!t) n)) := by
  have h := fl_sub (fl_sw k s hm) (fl_sw k t hn)
  rw [sumW_sw] at h
  exact h
theorem sw_mul {k : FloatKind} (s t : Bool) {m n : Nat} (hm : m ≤ 2000000) (hn : n ≤ 2000000) : floatBits .mul k (sw k s m) (sw k t n) = some (sw k (s ^^ t) (m * n)) := by
  obtain ⟨m', i, h1, e1, _⟩ := fl_sw k s hm
  obtain ⟨n', j, h2, e2, _⟩ := fl_sw k t hn
  have hw : floatBits .mul k (sw k s m) (sw k t n) = some (k.format.nearest (s ^^ t) (m' * n') (k.format.leastPlace + (i : Int) + (k.format.leastPlace + (j : Int)))) := by
    show ((k.format.read (sw k s m)).product (k.format.read (sw k t n))).map k.format.write = _
    rw [h1, h2]; rfl
  rw [hw]
  have hsh := nearest_shift k.format (s ^^ t) (m' * n') (i + j) (k.format.leastPlace + (i : Int) + (k.format.leastPlace + (j : Int)))
  have hs2 := nearest_shift k.format (s ^^ t) (m * n) (un k + un k) 0
  have em : m' * n' * 2 ^ (i + j) = m * n * 2 ^ (un k + un k) := by
    have : m' * n' * 2 ^ (i + j) = (m' * 2 ^ i) * (n' * 2 ^ j) := by rw [Nat.pow_add]; ac_rfl
    rw [this, e1, e2, Nat.pow_add]
    generalize 2 ^ un k = P
    ac_rfl
  have ep : k.format.leastPlace + (i : Int) + (k.format.leastPlace + (j : Int)) - ((i + j : Nat) : Int) = 0 - ((un k + un k : Nat) : Int) := by rw [least_un]; omega
  rw [← hsh, em, ep, hs2]
  rfl
theorem sw_conv (k l : FloatKind) (s : Bool) {m : Nat} (hm : m ≤ 2000000) : floatToFloatBits k (sw k s m) l = some (sw l s m) := by
  by_cases c : k = l
  · subst c; simp [floatToFloatBits]
  · obtain ⟨m', i, h1, e1, _⟩ := fl_sw k s hm
    have h1' : k.decode (sw k s m) = .number s m' (k.format.leastPlace + (i : Int)) := h1
    have hr : l.encode (.number s m' (k.format.leastPlace + (i : Int))) = sw l s m := by
      show l.format.nearest s m' (k.format.leastPlace + (i : Int)) = _
      have hsh := nearest_shift l.format s m' i (k.format.leastPlace + (i : Int))
      have hs2 := nearest_shift l.format s m (un k) 0
      rw [← hsh, e1, show k.format.leastPlace + (i : Int) - (i : Int) = 0 - (un k : Int) by rw [least_un]; omega, hs2]
      rfl
    have hi : (l.decode (sw l s m)).isInfinity = false := notInf (fl_sw l s hm)
    simp [floatToFloatBits, c, h1', hr, hi]
theorem sw_order (k : FloatKind) (s t : Bool) {m n : Nat} (hm : m ≤ 2000000) (hn : n ≤ 2000000) : k.format.order (sw k s m) (sw k t n) = some (compare (sg s m) (sg t n)) := by
  have h := vl_order (k := k) ⟨_, _, fl_sw k s hm, rfl⟩ ⟨_, _, fl_sw k t hn, rfl⟩
  rw [sg_scale, sg_scale, scale_cmp] at h
  exact h
/-- a number's own sign -/
theorem own_sg (a : Int) : sg (decide (a < 0)) a.natAbs = a := by
  by_cases c : a < 0
  · rw [decide_eq_true c]; show -((a.natAbs : Nat) : Int) = a; omega
  · rw [decide_eq_false c]; show ((a.natAbs : Nat) : Int) = a; omega
theorem own_sum {a : Int} {t : Bool} {n : Nat} : sgS (decide (a < 0)) a.natAbs t n = decide (a + sg t n < 0) ∧ sgN (decide (a < 0)) a.natAbs t n = (a + sg t n).natAbs := by
  unfold sgS sgN
  rw [own_sg]
  refine ⟨?_, rfl⟩
  by_cases c : a + sg t n = 0
  · rw [if_pos c, c]
    unfold sg at c
    cases t
    · simp
    · simp at c ⊢; omega
  · rw [if_neg c]
theorem fw_add {k : FloatKind} {a : Int} (t : Bool) {n : Nat} (ha : a.natAbs ≤ 2000000) (hn : n ≤ 2000000) : floatBits .add k (floatOfInt k a) (sw k t n) = some (floatOfInt k (a + sg t n)) := by
  rw [fw_sw, sw_add _ _ ha hn, own_sum.1, own_sum.2]; rfl
theorem fw_sub {k : FloatKind} {a : Int} (t : Bool) {n : Nat} (ha : a.natAbs ≤ 2000000) (hn : n ≤ 2000000) : floatBits .sub k (floatOfInt k a) (sw k t n) = some (floatOfInt k (a - sg t n)) := by
  rw [fw_sw, sw_sub _ _ ha hn, own_sum.1, own_sum.2, sg_neg]; rfl
theorem ff_add {k : FloatKind} {a b : Int} (ha : a.natAbs ≤ 2000000) (hb : b.natAbs ≤ 2000000) : floatBits .add k (floatOfInt k a) (floatOfInt k b) = some (floatOfInt k (a + b)) := by
  rw [fw_sw k b, fw_add _ ha hb, own_sg]
theorem ff_sub {k : FloatKind} {a b : Int} (ha : a.natAbs ≤ 2000000) (hb : b.natAbs ≤ 2000000) : floatBits .sub k (floatOfInt k a) (floatOfInt k b) = some (floatOfInt k (a - b)) := by
  rw [fw_sw k b, fw_sub _ ha hb, own_sg]
theorem sqw_nonneg (a : Int) : ¬ a * a < 0 := by
  have : 0 ≤ a * a := by
    rcases Int.le_total 0 a with h | h
    · exact Int.mul_nonneg h h
    · exact Int.mul_nonneg_of_nonpos_of_nonpos h h
  omega
theorem ff_sq {k : FloatKind} {a : Int} (ha : a.natAbs ≤ 2000000) : floatBits .mul k (floatOfInt k a) (floatOfInt k a) = some (floatOfInt k (a * a)) := by
  rw [fw_sw k a, sw_mul _ _ ha ha, fw_sw, Bool.xor_self, Int.natAbs_mul, decide_eq_false (sqw_nonneg a)]
theorem ff_order {k : FloatKind} {a b : Int} (ha : a.natAbs ≤ 2000000) (hb : b.natAbs ≤ 2000000) : k.format.order (floatOfInt k a) (floatOfInt k b) = some (compare a b) := by
  rw [fw_sw, fw_sw, sw_order _ _ _ ha hb, own_sg, own_sg]
theorem ff_conv (k l : FloatKind) {a : Int} (ha : a.natAbs ≤ 2000000) : floatToFloatBits k (floatOfInt k a) l = some (floatOfInt l a) := sw_conv k l _ ha
theorem ff_inj {k : FloatKind} {a b : Int} (ha : a.natAbs ≤ 2000000) (hb : b.natAbs ≤ 2000000) (h : floatOfInt k a = floatOfInt k b) : a = b := by
  have h1 := ff_order (k := k) ha hb
  rw [h, ff_order hb hb, Int.compare_eq_eq.2 rfl] at h1
  exact Int.compare_eq_eq.1 (Option.some.inj h1).symm
section
variable {P : Program} (w : World)
/-- products of complex64 with whole parts, whatever the signs of their zeros -/
theorem run_cmul32 (t : TypeId) (s1 s2 s3 s4 : Bool) {a b c d : Nat} (ha : a ≤ 1000) (hb : b ≤ 1000) (hc : c ≤ 1000) (hd : d ≤ 1000) :
    (binOp .mul t (.complex .f32 (sw .f32 s1 a) (sw .f32 s2 b)) (.complex .f32 (sw .f32 s3 c) (sw .f32 s4 d))).run P w =
      .ok (.complex .f32 (sw .f32 (sgS (s1 ^^ s3) (a * c) (!(s2 ^^ s4)) (b * d)) (sgN (s1 ^^ s3) (a * c) (!(s2 ^^ s4)) (b * d))) (sw .f32 (sgS (s1 ^^ s4) (a * d) (s2 ^^ s3) (b * c)) (sgN (s1 ^^ s4) (a * d) (s2 ^^ s3) (b * c)))) w := by
  have m1 : a * c ≤ 1000000 := Nat.mul_le_mul ha hc
  have m2 : b * d ≤ 1000000 := Nat.mul_le_mul hb hd
  have m3 : a * d ≤ 1000000 := Nat.mul_le_mul ha hd
  have m4 : b * c ≤ 1000000 := Nat.mul_le_mul hb hc
  have u1 := run_floatToFloat w (P := P) (sw_conv .f32 .f64 s1 (m := a) (by omega))
  have u2 := run_floatToFloat w (P := P) (sw_conv .f32 .f64 s2 (m := b) (by omega))
  have u3 := run_floatToFloat w (P := P) (sw_conv .f32 .f64 s3 (m := c) (by omega))
  have u4 := run_floatToFloat w (P := P) (sw_conv .f32 .f64 s4 (m := d) (by omega))
  have h1 := run_carith w (P := P) (sw_mul (k := .f64) s1 s3 (m := a) (n := c) (by omega) (by omega))
  have h2 := run_carith w (P := P) (sw_mul (k := .f64) s2 s4 (m := b) (n := d) (by omega) (by omega))
  have h3 := run_carith w (P := P) (sw_mul (k := .f64) s1 s4 (m := a) (n := d) (by omega) (by omega))
  have h4 := run_carith w (P := P) (sw_mul (k := .f64) s2 s3 (m := b) (n := c) (by omega) (by omega))
  have h5 := run_carith w (P := P) (sw_sub (k := .f64) (s1 ^^ s3) (s2 ^^ s4) (m := a * c) (n := b * d) (by omega) (by omega))
  have h6 := run_carith w (P := P) (sw_add (k := .f64) (s1 ^^ s4) (s2 ^^ s3) (m := a * d) (n := b * c) (by omega) (by omega))
  have n1 := sgN_le (s1 ^^ s3) (a * c) (!(s2 ^^ s4)) (b * d)
  have n2 := sgN_le (s1 ^^ s4) (a * d) (s2 ^^ s3) (b * c)
  have d1 := run_floatToFloat w (P := P) (sw_conv .f64 .f32 (sgS (s1 ^^ s3) (a * c) (!(s2 ^^ s4)) (b * d)) (m := sgN (s1 ^^ s3) (a * c) (!(s2 ^^ s4)) (b * d)) (by omega))
  have d2 := run_floatToFloat w (P := P) (sw_conv .f64 .f32 (sgS (s1 ^^ s4) (a * d) (s2 ^^ s3) (b * c)) (m := sgN (s1 ^^ s4) (a * d) (s2 ^^ s3) (b * c)) (by omega))
  simp [binOp, Op.complexOp, Op.Complex.conv, Op.Complex.product, Op.Complex.mul, Op.Complex.sub, Op.Complex.add, u1, u2, u3, u4, h1, h2, h3, h4, h5, h6, d1, d2]
theorem run_cadd {k : FloatKind} (t : TypeId) {a b c d : Int} (ha : a.natAbs ≤ 2000000) (hb : b.natAbs ≤ 2000000) (hc : c.natAbs ≤ 2000000) (hd : d.natAbs ≤ 2000000) :
    (binOp .add t (.complex k (floatOfInt k a) (floatOfInt k b)) (.complex k (floatOfInt k c) (floatOfInt k d))).run P w = .ok (.complex k (floatOfInt k (a + c)) (floatOfInt k (b + d))) w :=
  run_complex_sum w .add (.inl rfl) t k _ _ _ _ _ _ (by simp [cSumBits, ff_add ha hc, ff_add hb hd])
theorem run_csub {k : FloatKind} (t : TypeId) {a b c d : Int} (ha : a.natAbs ≤ 2000000) (hb : b.natAbs ≤ 2000000) (hc : c.natAbs ≤ 2000000) (hd : d.natAbs ≤ 2000000) :
    (binOp .sub t (.complex k (floatOfInt k a) (floatOfInt k b)) (.complex k (floatOfInt k c) (floatOfInt k d))).run P w = .ok (.complex k (floatOfInt k (a - c)) (floatOfInt k (b - d))) w :=
  run_complex_sum w .sub (.inr rfl) t k _ _ _ _ _ _ (by simp [cSumBits, ff_sub ha hc, ff_sub hb hd])
theorem run_caddS {k : FloatKind} (t : TypeId) {a b : Int} (s3 s4 : Bool) {c d : Nat} (ha : a.natAbs ≤ 2000000) (hb : b.natAbs ≤ 2000000) (hc : c ≤ 2000000) (hd : d ≤ 2000000) :
    (binOp .add t (.complex k (floatOfInt k a) (floatOfInt k b)) (.complex k (sw k s3 c) (sw k s4 d))).run P w = .ok (.complex k (floatOfInt k (a + sg s3 c)) (floatOfInt k (b + sg s4 d))) w :=
  run_complex_sum w .add (.inl rfl) t k _ _ _ _ _ _ (by simp [cSumBits, fw_add _ ha hc, fw_add _ hb hd])
theorem cmp_sg (a b : Int) : (compare a b == Ordering.eq) = decide (a = b) := by
  by_cases c : a = b
  · rw [Int.compare_eq_eq.2 c, decide_eq_true c]; rfl
  · rw [decide_eq_false c]
    rcases Int.lt_or_gt_of_ne c with h | h
    · rw [Int.compare_eq_lt.2 h]; rfl
    · rw [Int.compare_eq_gt.2 h]; rfl
theorem run_ceqS {k : FloatKind} (t : TypeId) (s1 s2 s3 s4 : Bool) {a b c d : Nat} (ha : a ≤ 2000000) (hb : b ≤ 2000000) (hc : c ≤ 2000000) (hd : d ≤ 2000000) :
    (binOp .eql t (.complex k (sw k s1 a) (sw k s2 b)) (.complex k (sw k s3 c) (sw k s4 d))).run P w = .ok (.bool (decide (sg s1 a = sg s3 c) && decide (sg s2 b = sg s4 d))) w := by
  have h1 := sw_order k s1 s3 ha hc
  have h2 := sw_order k s2 s4 hb hd
  simp [binOp, Op.complexOp, Op.Complex.cmp, Op.floatCmp, h1, h2, cmp_sg, asBool]
end
end Go.Proofs.YtmdnfamjdogogaaGreatDoor

namespace Go.Proofs.YtmdnfamjdogogaaGreatDoor
set_option linter.unusedSimpArgs false
set_option linter.unusedVariables false
open Ieee

/-- a step turned at a letter -/
def trn (c : UInt8) (z : Int × Int) : Int × Int := if c = 108 then (-z.2, z.1) else (z.2, -z.1)
def addP (a b : Int × Int) : Int × Int := (a.1 + b.1, a.2 + b.2)
def subP (a b : Int × Int) : Int × Int := (a.1 - b.1, a.2 - b.2)
/-- the step and the point behind the letters -/
def stPt (l : List UInt8) : (Int × Int) × (Int × Int) := l.foldl (fun q c => (trn c q.1, addP q.2 (trn c q.1))) ((1, 0), (1, 0))
def stP (l : List UInt8) : Int × Int := (stPt l).1
def psP (l : List UInt8) : Int × Int := (stPt l).2
theorem stP_nil : stP [] = (1, 0) := rfl
theorem psP_nil : psP [] = (1, 0) := rfl
theorem stP_snoc (l : List UInt8) (c : UInt8) : stP (l ++ [c]) = trn c (stP l) := by unfold stP stPt; rw [List.foldl_append]; rfl
theorem psP_snoc (l : List UInt8) (c : UInt8) : psP (l ++ [c]) = addP (psP l) (trn c (stP l)) := by unfold psP stP stPt; rw [List.foldl_append]; rfl
/-- the points of the curve of a word -/
def crvL (l : List UInt8) : List (Int × Int) := (0, 0) :: (List.range (l.length + 1)).map fun k => psP (l.take k)
theorem crvL_len (l : List UInt8) : (crvL l).length = l.length + 2 := by simp [crvL]
theorem crvL_zero (l : List UInt8) : (crvL l)[0]? = some (0, 0) := rfl
theorem crvL_succ {l : List UInt8} {k : Nat} (h : k ≤ l.length) : (crvL l)[k + 1]? = some (psP (l.take k)) := by
  unfold crvL
  rw [List.getElem?_cons_succ, List.getElem?_map, List.getElem?_range (by omega)]; rfl
theorem crvL_take {l : List UInt8} {k : Nat} (h : k ≤ l.length) : (crvL l).take (k + 2) = (crvL l).take (k + 1) ++ [psP (l.take k)] := by
  rw [List.take_add_one, crvL_succ h]; rfl
theorem crvL_one (l : List UInt8) : (crvL l).take 1 = [(0, 0)] := rfl
theorem crvL_all (l : List UInt8) : (crvL l).take (l.length + 2) = crvL l := List.take_of_length_le (by rw [crvL_len]; omega)
theorem stP_unit (l : List UInt8) : (stP l).1.natAbs ≤ 1 ∧ (stP l).2.natAbs ≤ 1 := by
  induction l using rev_ind with
  | h0 => decide
  | h1 l c ih =>
    rw [stP_snoc]
    unfold trn
    split <;> simp <;> omega
theorem psP_in (l : List UInt8) : (psP l).1.natAbs ≤ l.length + 1 ∧ (psP l).2.natAbs ≤ l.length + 1 := by
  induction l using rev_ind with
  | h0 => decide
  | h1 l c ih =>
    have h := stP_unit (l ++ [c])
    rw [stP_snoc] at h
    rw [psP_snoc, List.length_append, List.length_singleton]
    unfold addP
    dsimp only
    omega
theorem crvL_in (l : List UInt8) : ∀ z ∈ crvL l, z.1.natAbs ≤ l.length + 1 ∧ z.2.natAbs ≤ l.length + 1 := by
  intro z hz
  rcases List.mem_cons.1 hz with rfl | hz
  · simp
  · obtain ⟨k, hk, rfl⟩ := List.mem_map.1 hz
    have h := psP_in (l.take k)
    have : (l.take k).length ≤ l.length := by rw [List.length_take]; omega
    omega

/-! ### numbers with a sign -/
abbrev SZ := (Bool × Nat) × (Bool × Nat)
def val (q : SZ) : Int × Int := (sg q.1.1 q.1.2, sg q.2.1 q.2.2)
theorem val_sum (s : Bool) (m : Nat) (t : Bool) (n : Nat) : sg (sgS s m t n) (sgN s m t n) = sg s m + sg t n := by
  unfold sgS sgN
  generalize sg s m + sg t n = T
  split
  · rename_i h; rw [h]; exact sg0 _
  · exact own_sg T
/-- times i, or times -i -/
def mulq (r : Bool) (q : SZ) : SZ :=
  ((sgS (q.1.1 ^^ false) (q.1.2 * 0) (!(q.2.1 ^^ r)) (q.2.2 * 1), sgN (q.1.1 ^^ false) (q.1.2 * 0) (!(q.2.1 ^^ r)) (q.2.2 * 1)),
   (sgS (q.1.1 ^^ r) (q.1.2 * 1) (q.2.1 ^^ false) (q.2.2 * 0), sgN (q.1.1 ^^ r) (q.1.2 * 1) (q.2.1 ^^ false) (q.2.2 * 0)))
theorem val_mulq (r : Bool) (q : SZ) : val (mulq r q) = if r then ((val q).2, -(val q).1) else (-(val q).2, (val q).1) := by
  obtain ⟨⟨s, m⟩, t, n⟩ := q
  unfold mulq val
  simp only [val_sum, Nat.mul_zero, Nat.mul_one, sg0, Int.zero_add, Int.add_zero]
  cases r <;> cases s <;> cases t <;> simp [sg]
theorem mulq_in (r : Bool) {q : SZ} (h : q.1.2 ≤ 1 ∧ q.2.2 ≤ 1) : (mulq r q).1.2 ≤ 1 ∧ (mulq r q).2.2 ≤ 1 := by
  have h1 := sgN_le (q.1.1 ^^ false) (q.1.2 * 0) (!(q.2.1 ^^ r)) (q.2.2 * 1)
  have h2 := sgN_le (q.1.1 ^^ r) (q.1.2 * 1) (q.2.1 ^^ false) (q.2.2 * 0)
  unfold mulq
  dsimp only
  omega
def rgt (c : UInt8) : Bool := c != 108
def stZ (l : List UInt8) : SZ := l.foldl (fun q c => mulq (rgt c) q) ((false, 1), (false, 0))
theorem stZ_nil : stZ [] = ((false, 1), (false, 0)) := rfl
theorem stZ_snoc (l : List UInt8) (c : UInt8) : stZ (l ++ [c]) = mulq (rgt c) (stZ l) := by unfold stZ; rw [List.foldl_append]; rfl
theorem stZ_in (l : List UInt8) : (stZ l).1.2 ≤ 1 ∧ (stZ l).2.2 ≤ 1 := by
  induction l using rev_ind with
  | h0 => decide
  | h1 l c ih => rw [stZ_snoc]; exact mulq_in _ ih
theorem stZ_val (l : List UInt8) : val (stZ l) = stP l := by
  induction l using rev_ind with
  | h0 => rfl
  | h1 l c ih =>
    rw [stZ_snoc, val_mulq, stP_snoc, ih]
    unfold trn rgt
    by_cases h : c = 108
    · simp [h]
    · simp [h]

/-! ### their words -/
def xr (q : SZ) : Nat := sw .f32 q.1.1 q.1.2
def xi (q : SZ) : Nat := sw .f32 q.2.1 q.2.2
def px (z : Int × Int) : Nat := floatOfInt .f32 z.1
def py (z : Int × Int) : Nat := floatOfInt .f32 z.2
abbrev encZ (q : SZ) : Value := .complex .f32 (xr q) (xi q)
abbrev encP (z : Int × Int) : Value := .complex .f32 (px z) (py z)
theorem w0 (k : FloatKind) : floatOfInt k 0 = 0 := by cases k <;> decide +kernel
theorem w0s : floatOfInt .f32 0 = 0 := by decide +kernel
theorem w1s : floatOfInt .f32 1 = 1065353216 := by decide +kernel
theorem wm1s : floatOfInt .f32 (-1) = 3212836864 := by decide +kernel
theorem enc00 : encP (0, 0) = .complex .f32 0 0 := by unfold encP px py; rw [w0s]
theorem enc10 : encP (1, 0) = .complex .f32 1065353216 0 := by unfold encP px py; rw [w0s, w1s]
theorem encZ10 : encZ ((false, 1), (false, 0)) = .complex .f32 1065353216 0 := enc10
theorem z00 : (Value.complex .f32 0 0) = encP (0, 0) := enc00.symm
def Sm (z : Int × Int) : Prop := z.1.natAbs ≤ 1000000 ∧ z.2.natAbs ≤ 1000000
section
variable {P : Program} (w : World)
theorem run_left (t : TypeId) {q : SZ} (h : q.1.2 ≤ 1 ∧ q.2.2 ≤ 1) : (binOp .mul t (encZ q) (.complex .f32 0 1065353216)).run P w = .ok (encZ (mulq false q)) w := by
  have e := run_cmul32 (P := P) w t q.1.1 q.2.1 false false (a := q.1.2) (b := q.2.2) (c := 0) (d := 1) (by omega) (by omega) (by omega) (by omega)
  rw [show sw .f32 false 0 = 0 from w0s, show sw .f32 false 1 = 1065353216 from w1s] at e
  exact e
theorem run_right (t : TypeId) {q : SZ} (h : q.1.2 ≤ 1 ∧ q.2.2 ≤ 1) : (binOp .mul t (encZ q) (.complex .f32 0 3212836864)).run P w = .ok (encZ (mulq true q)) w := by
  have e := run_cmul32 (P := P) w t q.1.1 q.2.1 false true (a := q.1.2) (b := q.2.2) (c := 0) (d := 1) (by omega) (by omega) (by omega) (by omega)
  rw [show sw .f32 false 0 = 0 from w0s, show sw .f32 true 1 = 3212836864 from wm1s] at e
  exact e
theorem run_pstep (t : TypeId) {p : Int × Int} {q : SZ} (hp : Sm p) (h : q.1.2 ≤ 1 ∧ q.2.2 ≤ 1) : (binOp .add t (encP p) (encZ q)).run P w = .ok (encP (addP p (val q))) w :=
  run_caddS (P := P) w t q.1.1 q.2.1 (by have := hp.1; omega) (by have := hp.2; omega) (by omega) (by omega)
theorem run_padd (t : TypeId) {p q : Int × Int} (hp : Sm p) (hq : Sm q) : (binOp .add t (encP p) (encP q)).run P w = .ok (encP (addP p q)) w :=
  run_cadd (P := P) w t (by have := hp.1; omega) (by have := hp.2; omega) (by have := hq.1; omega) (by have := hq.2; omega)
theorem run_psub (t : TypeId) {p q : Int × Int} (hp : Sm p) (hq : Sm q) : (binOp .sub t (encP p) (encP q)).run P w = .ok (encP (subP p q)) w :=
  run_csub (P := P) w t (by have := hp.1; omega) (by have := hp.2; omega) (by have := hq.1; omega) (by have := hq.2; omega)
end
theorem neg_bits {a : Int} (h : a.natAbs ≤ 1000000) : floatBits .sub .f32 0 (floatOfInt .f32 a) = some (floatOfInt .f32 (-a)) := by
  have := ff_sub (k := .f32) (a := 0) (b := a) (by decide) (by omega)
  rw [w0s, Int.zero_sub] at this
  exact this
end Go.Proofs.YtmdnfamjdogogaaGreatDoor

namespace Go.Proofs.YtmdnfamjdogogaaGreatDoor
set_option linter.unusedSimpArgs false
set_option linter.unusedVariables false
open Go.RowKit Ieee

theorem infoC : (Tryz.prog.info? 23).map (fun i => (i.zero, i.size, i.bytes)) = some (some (.complex .f32 0 0), 1, 8) := by kernel_rfl
/-- a slice that reads as the list -/
def CSl (a : Option Addr) (l : List Value) (w : World) : Prop := l = [] ∨ ∃ g o, a = some ⟨g, o, none⟩ ∧ ∀ (k : Nat) (x : Value), l[k]? = some x → w.cell? ⟨g, o + k, none⟩ = some x
theorem CSl.keep {a : Option Addr} {l : List Value} {w w' : World} (h : CSl a l w) (hb : Below w.heap.size w w') : CSl a l w' := by
  refine h.imp id ?_
  rintro ⟨g, o, rfl, hc⟩
  exact ⟨g, o, rfl, fun k x hk => keepcell hb (hc k x hk)⟩
theorem CSl.at {a : Option Addr} {l : List Value} {w : World} (h : CSl a l w) {k : Nat} (hk : k < l.length) : ∃ g o, a = some ⟨g, o, none⟩ ∧ w.cell? ⟨g, o + k, none⟩ = some l[k] := by
  rcases h with h0 | ⟨g, o, rfl, hc⟩
  · rw [h0] at hk; simp at hk
  · exact ⟨g, o, rfl, hc k _ (List.getElem?_eq_getElem hk)⟩
/-- an owned row reads so -/
theorem own_csl {w : World} {B n : Nat} {v : Value} {l : List Value} (h : w.ownsRow B 23 1 v n l) : ∃ a c, v = .slice a l.length c ∧ CSl a l w ∧ (l = [] ∨ ∃ g, a = some ⟨g, 0, none⟩ ∧ B ≤ g ∧ g < w.heap.size ∧ ∀ j, w.frozen? ⟨g, j, none⟩ = false) := by
  have hl := h.1
  rw [Nat.mul_one] at hl
  subst hl
  rcases h.2 with ⟨rfl, h0⟩ | ⟨g, cap, cur, rfl, hg, hgg, -⟩
  · have : l = [] := List.eq_nil_of_length_eq_zero h0
    subst this
    exact ⟨none, 0, rfl, Or.inl rfl, Or.inl rfl⟩
  · refine ⟨_, cap, rfl, Or.inr ⟨g, 0, rfl, fun k x hk => ?_⟩, Or.inr ⟨g, rfl, hg, (Array.getElem?_eq_some_iff.1 hgg).1, fun j => h.frozenAt j⟩⟩
    have hk' : k < l.length := (List.getElem?_eq_some_iff.1 hk).1
    rw [Nat.zero_add]
    exact (h.cellAt _ (by omega)).trans hk
theorem one_c (x y : Nat) : ∀ u ∈ [Value.complex .f32 x y], u.oneCell' = true := one1 _ rfl
theorem own_iterX {w : World} {B e n sz : Nat} {v : Value} {xs : List Value} (h : w.ownsRow B e sz v n xs) {k : Nat} {s0 : ByteArray} {p0 : Nat} (hk : w.heap[k]? = some (.stringIter s0 p0)) (s : ByteArray) (pos : Nat) : (w.iterAt k s pos).ownsRow B e sz v n xs := by
  refine ⟨h.1, h.2.imp id ?_⟩
  rintro ⟨g', cap', cur, h1, h2, h3, h4⟩
  have hne : g' ≠ k := by
    rintro rfl
    rw [h3] at hk
    cases hk
  exact ⟨g', cap', cur, h1, h2, (Lib.iterAt_other w k g' s pos hne).trans h3, h4⟩
theorem iter_other {w : World} {B e n sz : Nat} {v : Value} {xs : List Value} (h : w.ownsRow B e sz v n xs) {k : Nat} {s0 : ByteArray} {p0 : Nat} (hk : w.heap[k]? = some (.stringIter s0 p0)) : some k ≠ v.ownBlock := by
  rcases h.2 with ⟨rfl, _⟩ | ⟨g, cap, cur, rfl, hg, hgg, _⟩
  · simp [Value.ownBlock]
  · simp only [Value.ownBlock]
    intro e1
    simp only [Option.some.injEq] at e1
    subst e1
    rw [hgg] at hk
    cases hk
end Go.Proofs.YtmdnfamjdogogaaGreatDoor

namespace Go.Proofs.YtmdnfamjdogogaaGreatDoor
set_option linter.unusedSimpArgs false
set_option linter.unusedVariables false
open Go.RowKit Ieee

/-- a word of a float32 that is no NaN -/
def Nn (x : Nat) : Prop := x < 4294967296 ∧ (single.read x).isNaN = false
theorem sW : single.signWeight = 2147483648 := by decide
theorem iR : single.infRung = 2139095040 := by decide
theorem bN : single.binade = 8388608 := by decide
theorem nn_word (s : Bool) {r : Nat} (h : r ≤ single.infRung) : Nn (single.word s r) := by
  rw [iR] at h
  have hm : single.word s r % 2147483648 = r := by
    unfold Format.word; rw [sW]; cases s <;> simp <;> omega
  refine ⟨by unfold Format.word; rw [sW]; cases s <;> simp <;> omega, ?_⟩
  unfold Format.read
  simp only [sW, iR, bN, hm]
  split
  · rfl
  · split
    · rfl
    · rw [if_pos (by omega)]; rfl
theorem nn_nearest (s : Bool) (m : Nat) (p : Int) : Nn (single.nearest s m p) := by
  unfold Format.nearest
  split
  · exact nn_word s (Nat.zero_le _)
  · exact nn_word s (Nat.min_le_right _ _)
theorem nn_write {d : Datum} (h : d.isNaN = false) : Nn (single.write d) := by
  cases d with
  | number s m p => exact nn_nearest s m p
  | infinity s => exact nn_word s (Nat.le_refl _)
  | nan s t => cases h
theorem sum_some {d e : Datum} (h : d.isNaN = false) (he : ∃ s m p, e = .number s m p) : ∃ r, d.sum e = some r ∧ r.isNaN = false := by
  obtain ⟨s, m, p, rfl⟩ := he
  cases d with
  | number t n q => exact ⟨_, rfl, rfl⟩
  | infinity t => exact ⟨_, rfl, rfl⟩
  | nan t u => cases h
def fA (x y : Nat) : Nat := (floatBits .add .f32 x y).getD 0
theorem num_read {a : Int} (h : a.natAbs ≤ 2000000) : ∃ s m p, single.read (floatOfInt .f32 a) = .number s m p := by
  obtain ⟨m, k, e, -, -⟩ := fl_sw .f32 (decide (a < 0)) h
  exact ⟨_, _, _, e⟩
theorem nn_num {a : Int} : Nn (floatOfInt .f32 a) := nn_nearest _ _ _
theorem fA_nn {x : Nat} {a : Int} (hx : Nn x) (h : a.natAbs ≤ 2000000) : floatBits .add .f32 x (floatOfInt .f32 a) = some (fA x (floatOfInt .f32 a)) ∧ Nn (fA x (floatOfInt .f32 a)) := by
  obtain ⟨r, hr, hn⟩ := sum_some hx.2 (num_read h)
  have e : floatBits .add .f32 x (floatOfInt .f32 a) = some (single.write r) := by
    show ((single.read x).sum (single.read (floatOfInt .f32 a))).map single.write = _
    rw [hr]; rfl
  have e2 : fA x (floatOfInt .f32 a) = single.write r := by unfold fA; rw [e]; rfl
  rw [e2]
  exact ⟨e, nn_write hn⟩
/-- two words of numbers that are equal -/
def eqw (x y : Nat) : Bool := FloatKind.f32.format.order x y == some .eq
theorem ord_self {d : Datum} (h : d.isNaN = false) : d.order d = some .eq := by
  cases d with
  | number s m p => unfold Datum.order; simp only; rw [Int.compare_eq_eq.2 rfl]
  | infinity s => unfold Datum.order; simp only; rw [Nat.compare_eq_eq.2 rfl]
  | nan s t => cases h
theorem eqw_self {x : Nat} (h : Nn x) : eqw x x = true := by
  unfold eqw
  rw [show FloatKind.f32.format.order x x = some .eq from ord_self h.2]; rfl
theorem eqw_nan {x : Nat} (h : (single.read x).isNaN = true) (y : Nat) : eqw x y = false := by
  unfold eqw
  show ((single.read x).order (single.read y) == some .eq) = false
  cases hd : single.read x with
  | number s m p => rw [hd] at h; cases h
  | infinity s => rw [hd] at h; cases h
  | nan s t => rfl
theorem cmpI_comm (a b : Int) : (compare a b == Ordering.eq) = (compare b a == Ordering.eq) := by rw [cmp_sg, cmp_sg]; exact decide_eq_decide.2 ⟨Eq.symm, Eq.symm⟩
theorem ord_comm (d e : Datum) : (d.order e == some .eq) = (e.order d == some .eq) := by
  cases d with
  | number s m p => cases e with
    | number t n q =>
      unfold Datum.order
      have h := cmpI_comm (signed s m (p - min p q).toNat) (signed t n (q - min p q).toNat)
      show (some (compare _ _) == some Ordering.eq) = (some (compare _ _) == some Ordering.eq)
      rw [Int.min_comm q p]
      exact h
    | infinity t => cases t <;> rfl
    | nan t u => rfl
  | infinity s => cases e with
    | number t n q => cases s <;> rfl
    | infinity t => cases s <;> cases t <;> rfl
    | nan t u => rfl
  | nan s t => cases e <;> rfl
theorem eqw_comm (x y : Nat) : eqw x y = eqw y x := ord_comm _ _

/-! ### words of complex64 -/
abbrev encW (p : Nat × Nat) : Value := .complex .f32 p.1 p.2
def Nn2 (p : Nat × Nat) : Prop := Nn p.1 ∧ Nn p.2
def W32 (p : Nat × Nat) : Prop := p.1 < 4294967296 ∧ p.2 < 4294967296
theorem Nn2.w {p : Nat × Nat} (h : Nn2 p) : W32 p := ⟨h.1.1, h.2.1⟩
def aW (s : Nat × Nat) (z : Int × Int) : Nat × Nat := (fA s.1 (px z), fA s.2 (py z))
theorem aW_nn {s : Nat × Nat} {z : Int × Int} (hs : Nn2 s) (hz : Sm z) : Nn2 (aW s z) := ⟨(fA_nn hs.1 (by have := hz.1; omega)).2, (fA_nn hs.2 (by have := hz.2; omega)).2⟩
def eqW (p q : Nat × Nat) : Bool := eqw p.1 q.1 && eqw p.2 q.2
theorem eqW_self {p : Nat × Nat} (h : Nn2 p) : eqW p p = true := by unfold eqW; rw [eqw_self h.1, eqw_self h.2]; rfl
theorem eqW_comm (p q : Nat × Nat) : eqW p q = eqW q p := by unfold eqW; rw [eqw_comm p.1, eqw_comm p.2]
theorem nn_of_eq {p : Nat × Nat} (h : W32 p) (he : eqW p p = true) : Nn2 p := by
  unfold eqW at he
  rw [Bool.and_eq_true] at he
  refine ⟨⟨h.1, ?_⟩, h.2, ?_⟩
  · cases hn : (single.read p.1).isNaN
    · rfl
    · rw [eqw_nan hn] at he; exact absurd he.1 (by simp)
  · cases hn : (single.read p.2).isNaN
    · rfl
    · rw [eqw_nan hn] at he; exact absurd he.2 (by simp)
section
variable {P : Program} (w : World)
theorem run_wadd (t : TypeId) {s : Nat × Nat} {z : Int × Int} (hs : Nn2 s) (hz : Sm z) : (binOp .add t (encW s) (encP z)).run P w = .ok (encW (aW s z)) w :=
  run_complex_sum w .add (.inl rfl) t .f32 _ _ _ _ _ _ (by simp [cSumBits, px, py, (fA_nn hs.1 (a := z.1) (by have := hz.1; omega)).1, (fA_nn hs.2 (a := z.2) (by have := hz.2; omega)).1, aW])
theorem run_weq (t : TypeId) (p q : Nat × Nat) : (binOp .eql t (encW p) (encW q)).run P w = .ok (.bool (eqW p q)) w := by
  simp [binOp, Op.complexOp, Op.Complex.cmp, Op.floatCmp, asBool, eqW, eqw]
theorem run_wne (t : TypeId) (p q : Nat × Nat) : (binOp .neq t (encW p) (encW q)).run P w = .ok (.bool (!eqW p q)) w := by
  simp [binOp, Op.complexOp, Op.Complex.cmp, Op.floatCmp, asBool, eqW, eqw]
end

/-! ### checksums -/
def smN (h x : Nat) : Nat := (h ^^^ x) * 16777619 % 4294967296
theorem smN_lt (h x : Nat) : smN h x < 4294967296 := Nat.mod_lt _ (by decide)
theorem sm_wrap {h x : Nat} (hh : h < 4294967296) (hx : x < 4294967296) : IntKind.u32.wrap (bits .xor .u32 (h : Int) (x : Int) * 16777619) = ((smN h x : Nat) : Int) := by
  rw [u32_xor_nat h x hh hx]
  unfold smN
  show ((h ^^^ x : Nat) : Int) * 16777619 % ((2 ^ 32 : Nat) : Int) = _
  omega
def smP (h : Nat) (p : Nat × Nat) : Nat := smN (smN h p.1) p.2
def sumN (L : List (Nat × Nat)) : Nat := L.foldl smP 2166136261
theorem sumN_nil : sumN [] = 2166136261 := rfl
theorem sumN_snoc (L : List (Nat × Nat)) (p : Nat × Nat) : sumN (L ++ [p]) = smP (sumN L) p := by unfold sumN; rw [List.foldl_append, List.foldl_cons, List.foldl_nil]
theorem sumN_lt (L : List (Nat × Nat)) : sumN L < 4294967296 := by
  rcases List.eq_nil_or_concat L with rfl | ⟨l, p, rfl⟩
  · decide
  · rw [List.concat_eq_append, sumN_snoc]; exact smN_lt _ _
theorem sm_back {h x : Nat} (hh : h < 4294967296) (hx : x < 4294967296) : smN h x * 899433627 % 4294967296 = h ^^^ x := by
  have hl : h ^^^ x < 2 ^ 32 := Nat.xor_lt_two_pow (by omega) (by omega)
  unfold smN
  generalize h ^^^ x = g at *
  omega
theorem xor_right {a b x : Nat} (h : a ^^^ x = b ^^^ x) : a = b := by
  have := congrArg (· ^^^ x) h
  simpa [Nat.xor_assoc] using this
theorem sm_inj {a b x : Nat} (ha : a < 4294967296) (hb : b < 4294967296) (hx : x < 4294967296) (h : smN a x = smN b x) : a = b := by
  have this : smN a x * 899433627 % 4294967296 = smN b x * 899433627 % 4294967296 := by rw [h]
  rw [sm_back ha hx, sm_back hb hx] at this
  exact xor_right this
/-- a checksum sees a 1 in place of a 0 -/
theorem sum_sees (L : List (Nat × Nat)) : sumN (L ++ [(0, 0)]) ≠ sumN (L ++ [(1065353216, 0)]) := by
  rw [sumN_snoc, sumN_snoc]
  intro h
  unfold smP at h
  have h1 := sm_inj (smN_lt _ _) (smN_lt _ _) (by decide) h
  have h2 : smN (sumN L) 0 * 899433627 % 4294967296 = smN (sumN L) 1065353216 * 899433627 % 4294967296 := by rw [h1]
  rw [sm_back (sumN_lt L) (by decide), sm_back (sumN_lt L) (by decide)] at h2
  have := congrArg (sumN L ^^^ ·) h2
  simp [← Nat.xor_assoc] at this
end Go.Proofs.YtmdnfamjdogogaaGreatDoor

namespace Go.Proofs.YtmdnfamjdogogaaGreatDoor
set_option linter.unusedSimpArgs false
set_option linter.unusedVariables false
open Go.RowKit Ieee

theorem f32bitsZ_run (x : Nat) (w : World) : (Extern.MathFloatBits.float32bits #[.float .f32 x]).run Tryz.prog w = .ok (.int .u32 (x : Nat)) w := rfl
set_option maxRecDepth 100000 in
theorem summed_c (h x : Nat) (w : World) (hh : h < 4294967296) (hx : x < 4294967296) : Calls Tryz.prog 51 #[.int .u32 h, .float .f32 x] w fun e w' => e = .returned (.int .u32 (smN h x : Nat)) ∧ w = w' := by
  have f1 := sm_wrap hh hx
  clear hh hx
  generalize smN h x = r at *
  go_enter Tryz.func51, Tryz.ntmps51
  go_wp2
  rw [run_callFunc_extern Tryz.func28 (by kernel_rfl) (by kernel_rfl) (by kernel_rfl) (e := Extern.MathFloatBits.float32bits) (by kernel_rfl), f32bitsZ_run]
  simp only [Result.andThen]
  rw [Oper.upon_value]
  go_wp2
  go_ret
  exact ⟨rfl, rfl⟩
def SuRel (L : List (Nat × Nat)) (w : World) (m : Nat) (s i : Value) (wr : World) : Prop :=
  ∃ k n : Nat, k + m = L.length ∧ i = .int .i64 k ∧ s = .int .u32 n ∧ n = sumN (L.take k) ∧ n < 4294967296 ∧ wr = w
theorem su_take {L : List (Nat × Nat)} {k : Nat} (h : k < L.length) : sumN (L.take (k + 1)) = smN (smN (sumN (L.take k)) L[k].1) L[k].2 := by
  rw [List.take_add_one, List.getElem?_eq_getElem h]
  exact sumN_snoc _ _
set_option maxRecDepth 100000 in
set_option maxHeartbeats 4000000 in
theorem iSumPoints_c (a : Option Addr) (c : Nat) (L : List (Nat × Nat)) (w : World) (hl : L.length ≤ 1000000) (hS : ∀ q ∈ L, W32 q) (h : CSl a (L.map encW) w) : Calls Tryz.prog 31 #[.slice a L.length c] w fun e w' => e = .returned (.int .u32 (sumN L : Nat)) ∧ w = w' := by
  have HC := Lib.hid h
  have HS := Lib.hid hS
  have HT := Lib.hid (List.take_length (l := L))
  clear h hS
  go_enter Tryz.func31, Tryz.ntmps31
  go_wp2_with fail
  go_loopg [3, 5, 8] L.length (fun m s z i wr => SuRel L w m s i wr)
  case atStart => exact ⟨0, 2166136261, by omega, rfl, rfl, by rw [List.take_zero]; exact sumN_nil.symm, by omega, rfl⟩
  case round =>
    obtain ⟨k, n, hk, rfl, rfl, hn, hn2, rfl⟩ := hrel
    by_cases hlt : k < L.length
    · obtain ⟨g, o, rfl, c0⟩ := HC.out.at (k := k) (by rw [List.length_map]; exact hlt)
      rw [List.getElem_map] at c0
      have hb := HS.out L[k] (List.getElem_mem hlt)
      have hs := su_take hlt
      rw [← hn] at hs
      generalize L[k] = q at *
      have Lg : g < wr.heap.size := World.block_lt_of_cell? wr _ c0
      have H1 := Lib.hid (fun w => summed_c n q.1 w hn2 hb.1)
      have H2 := Lib.hid (fun w => summed_c (smN n q.1) q.2 w (smN_lt _ _) hb.2)
      have HL := Lib.hid (smN_lt (smN n q.1) q.2)
      have HR := Lib.hid hs
      clear hn hn2 hb hs
      generalize smN n q.1 = n1 at *
      generalize smN n1 q.2 = n2 at *
      go_wp2_with (first | (go_at_call 51; refine (H1.out _).mono ?_; rintro e w' ⟨rfl, rfl⟩) | (go_at_call 51; refine (H2.out _).mono ?_; rintro e w' ⟨rfl, rfl⟩))
      go_roundg (gk - 1)
      case measure => omega
      case rel => exact ⟨k + 1, n2, by omega, by go_num, rfl, HR.out.symm, HL.out, rfl⟩
    · obtain rfl : k = L.length := by omega
      rw [HT.out] at hn
      have HN := Lib.hid hn
      clear hn
      go_wp2_with fail
      go_ret
      exact ⟨congrArg (fun n : Nat => Ending.returned (.int .u32 (n : Int))) HN.out, rfl⟩
set_option maxRecDepth 100000 in
set_option maxHeartbeats 4000000 in
theorem sSumPoints_c (a : Option Addr) (c : Nat) (L : List (Nat × Nat)) (w : World) (hl : L.length ≤ 1000000) (hS : ∀ q ∈ L, W32 q) (h : CSl a (L.map encW) w) : Calls Tryz.prog 37 #[.slice a L.length c] w fun e w' => e = .returned (.int .u32 (sumN L : Nat)) ∧ w = w' := by
  have HC := Lib.hid h
  have HS := Lib.hid hS
  have HT := Lib.hid (List.take_length (l := L))
  clear h hS
  go_enter Tryz.func37, Tryz.ntmps37
  go_wp2_with fail
  go_loopg [3, 4] L.length (fun m s i wr => SuRel L w m s i wr)
  case atStart => exact ⟨0, 2166136261, by omega, rfl, rfl, by rw [List.take_zero]; exact sumN_nil.symm, by omega, rfl⟩
  case round =>
    obtain ⟨k, n, hk, rfl, rfl, hn, hn2, rfl⟩ := hrel
    by_cases hlt : k < L.length
    · obtain ⟨g, o, rfl, c0⟩ := HC.out.at (k := k) (by rw [List.length_map]; exact hlt)
      rw [List.getElem_map] at c0
      have hb := HS.out L[k] (List.getElem_mem hlt)
      have hs := su_take hlt
      rw [← hn] at hs
      generalize L[k] = q at *
      have Lg : g < wr.heap.size := World.block_lt_of_cell? wr _ c0
      have f1 := sm_wrap (h := n) (x := q.1) hn2 hb.1
      have f2 := sm_wrap (h := smN n q.1) (x := q.2) (smN_lt _ _) hb.2
      have HL := Lib.hid (smN_lt (smN n q.1) q.2)
      have HR := Lib.hid hs
      clear hn hn2 hb hs
      generalize smN n q.1 = n1 at *
      generalize smN n1 q.2 = n2 at *
      go_wp2
      rw [run_callFunc_extern Tryz.func28 (by kernel_rfl) (by kernel_rfl) (by kernel_rfl) (e := Extern.MathFloatBits.float32bits) (by kernel_rfl), f32bitsZ_run]
      simp only [Result.andThen]
      rw [Oper.upon_value]
      go_wp2
      rw [run_callFunc_extern Tryz.func28 (by kernel_rfl) (by kernel_rfl) (by kernel_rfl) (e := Extern.MathFloatBits.float32bits) (by kernel_rfl), f32bitsZ_run]
      simp only [Result.andThen]
      rw [Oper.upon_value]
      go_wp2
      go_roundg (gk - 1)
      case measure => omega
      case rel => exact ⟨k + 1, n2, by omega, by go_num, rfl, HR.out.symm, HL.out, rfl⟩
    · obtain rfl : k = L.length := by omega
      rw [HT.out] at hn
      have HN := Lib.hid hn
      clear hn
      go_wp2_with fail
      go_ret
      exact ⟨congrArg (fun n : Nat => Ending.returned (.int .u32 (n : Int))) HN.out, rfl⟩
end Go.Proofs.YtmdnfamjdogogaaGreatDoor

namespace Go.Proofs.YtmdnfamjdogogaaGreatDoor
set_option linter.unusedSimpArgs false
set_option linter.unusedVariables false
open Go.RowKit


theorem hbs_cat (l m : List UInt8) : bs l ++ bs m = bs (l ++ m) := toL_ext (by rw [toL_bs]; simp [toL, bs, ByteArray.data_append])
theorem hbs_sz (l : List UInt8) : (bs l).size = l.length := by rw [← toL_len, toL_bs]
theorem isPow16_c (w : World) : Calls Tryz.prog 105 #[.int .i64 16] w fun e w' => e = .returned (.bool true) ∧ w = w' := by
  have h : bits .and .i64 16 15 = 0 := by decide
  go_enter Tryz.func105, Tryz.ntmps105
  go_wp2
  go_ret
  exact ⟨rfl, rfl⟩
theorem hset_same {w : World} {g o : Nat} {u v : Value} (h : w.cell? ⟨g, o, none⟩ = some u) : (w.setCell ⟨g, o, none⟩ v).cell? ⟨g, o, none⟩ = some v := by
  go_simp
theorem hset_other {w : World} {g o o' : Nat} {v : Value} (hne : o' ≠ o) : (w.setCell ⟨g, o, none⟩ v).cell? ⟨g, o', none⟩ = w.cell? ⟨g, o', none⟩ := by
  simp only [World.setCell, World.cell?, Array.getElem?_modify, if_true]
  cases w.heap[g]? with
  | none => rfl
  | some x => cases x <;> simp [Array.getElem?_setIfInBounds, Ne.symm hne]
theorem hset_froz {w : World} {g o o' : Nat} {v : Value} : (w.setCell ⟨g, o, none⟩ v).frozen? ⟨g, o', none⟩ = w.frozen? ⟨g, o', none⟩ := by
  simp only [World.setCell, World.frozen?, Array.getElem?_modify, if_true]
  cases w.heap[g]? with
  | none => rfl
  | some x => cases x <;> rfl
def OpenH (g n : Nat) (w : World) : Prop := ∀ j, j < n → (∃ u, w.cell? ⟨g, j, none⟩ = some u) ∧ w.frozen? ⟨g, j, none⟩ = false
theorem OpenH.set {g n o : Nat} {w : World} {v : Value} (h : OpenH g n w) : OpenH g n (w.setCell ⟨g, o, none⟩ v) := fun j hj => by
  refine ⟨?_, hset_froz.trans (h j hj).2⟩
  by_cases e : j = o
  · subst e; obtain ⟨u, hu⟩ := (h j hj).1; exact ⟨v, hset_same hu⟩
  · rw [hset_other e]; exact (h j hj).1
theorem openH_alloc (w : World) (C : Array Value) (t : TypeId) (n : Nat) (h : C.size = n) : OpenH w.heap.size n (w.alloc (.cells C t)) := by
  intro j hj
  refine ⟨⟨C[j]'(by omega), ?_⟩, ?_⟩
  · rw [World.cell?_alloc_new]; simp [h, hj]
  · rw [frozen?_alloc_cells]; simp [World.frozen?]
theorem zero65H (w : World) : Sem.run Tryz.prog (zeroValue 133) w = .ok (.agg (Array.replicate 65 (.int .u8 0))) w := by kernel_rfl
def FhRel (n : Nat) (w : World) (m : Nat) (u i : Value) (wr : World) : Prop :=
  ∃ k q K : Nat, k + m = 7 ∧ q = n / 16 ^ k ∧ K = 65 - k ∧ u = .int .u64 (q : Nat) ∧ i = .int .i64 (K : Nat) ∧ (∀ j, j < k → wr.cell? ⟨w.heap.size, 64 - j, none⟩ = some (encB (hexc (n / 16 ^ j % 16)))) ∧ OpenH w.heap.size 65 wr ∧ Below w.heap.size w wr
theorem fh_cells {n k : Nat} {w wr : World} (h : ∀ j, j < k → wr.cell? ⟨w.heap.size, 64 - j, none⟩ = some (encB (hexc (n / 16 ^ j % 16)))) (ho : OpenH w.heap.size 65 wr) (hk : k ≤ 64) {x : Int} (hx : .int .u8 x = encB (hexc (n / 16 ^ k % 16))) :
    ∀ j, j < k + 1 → (wr.setCell ⟨w.heap.size, 64 - k, none⟩ (.int .u8 x)).cell? ⟨w.heap.size, 64 - j, none⟩ = some (encB (hexc (n / 16 ^ j % 16))) := by
  intro j hj
  by_cases e : j = k
  · subst e
    obtain ⟨u, hu⟩ := (ho (64 - j) (by omega)).1
    rw [hset_same hu, hx]
  · rw [hset_other (by omega)]; exact h j (by omega)
theorem sliceH_c (b k : Nat) (W : World) (hk : k ≤ 64) : (Instr.sliceAt 133 (.pointer (some ⟨b, 0, none⟩)) (some (.int .i64 ((64 - k : Nat) : Int))) none none).run Tryz.prog W = .ok (.slice (some ⟨b, 64 - k, none⟩) (k + 1) (k + 1)) W := by
  have hA : Tryz.prog.arrayLen 133 = 65 := by kernel_rfl
  rw [run_sliceAt_array_l W _ _ (by kernel_rfl) .i64 _ (by omega) (by rw [hA]; omega), hA, Int.toNat_natCast]
  have hE : Tryz.prog.elem 133 = 5 := by kernel_rfl
  rw [hE]
  have hS : (sizeOf 5).run Tryz.prog W = .ok 1 W := by kernel_rfl
  rw [hS]
  show Result.ok (slicedAt _ _ _ _ _) W = _
  unfold slicedAt
  rw [if_neg (by omega)]
  simp [Addr.add]
  omega
theorem convH_c (b k n : Nat) (W : World) (hk : k ≤ 64) (hW : ∀ j, j < k + 1 → W.cell? ⟨b, 64 - j, none⟩ = some (encB (hexc (n / 16 ^ j % 16)))) : (convert 22 9 (.slice (some ⟨b, 64 - k, none⟩) (k + 1) (k + 1))).run Tryz.prog W = .ok (.string (bs (hl k n))) W := by
  have e := run_convert_bytes_back (P := Tryz.prog) W 22 9 5 ⟨b, 64 - k, none⟩ (k + 1) (hl k n) Tryz.underlying22 Tryz.underlying5 Tryz.underlying9 (fun j hj => by
    have hj2 : j < k + 1 := by have := hl_len k n; omega
    rw [show (⟨b, 64 - k, none⟩ : Addr).add j = ⟨b, 64 - (k - j), none⟩ by rw [Addr.add_lit, show 64 - k + j = 64 - (k - j) by omega]]
    rw [hW (k - j) (by omega)]
    have h2 := hl_at (K := k) (n := n) (t := j) (by omega)
    rw [List.getElem?_eq_getElem (by rw [hl_len]; omega)] at h2
    rw [Option.some.inj h2]; rfl)
  rw [hl_len] at e
  exact e
theorem and15 (q : Nat) (hq : q < 18446744073709551616) : bits .and .u64 (q : Int) 15 = ((q % 16 : Nat) : Int) := by
  have := u64_and_nat q 15 hq (by omega)
  rw [show (15 : Nat) = 2 ^ 4 - 1 from rfl, Nat.and_two_pow_sub_one_eq_mod] at this
  exact this
def DGS : ByteArray := ⟨#[48, 49, 50, 51, 52, 53, 54, 55, 56, 57, 97, 98, 99, 100, 101, 102, 103, 104, 105, 106, 107, 108, 109, 110, 111, 112, 113, 114, 115, 116, 117, 118, 119, 120, 121, 122]⟩
theorem dgs_at {d : Nat} (h : d < 16) (h' : d < DGS.size) : DGS[d] = hexc d := by
  have key : ∀ i : Fin 16, DGS[i.1]'(Nat.lt_of_lt_of_le i.2 (by decide)) = hexc i.1 := by decide +kernel
  exact key ⟨d, h⟩
def FhPost (n : Nat) (w : World) (e : Ending) (w' : World) : Prop := ∃ k, e = .returned (.tuple #[.slice none 0 0, .string (bs (hl k n))]) ∧ k ≤ 7 ∧ n / 16 ^ k < 16 ∧ Below w.heap.size w w'
set_option maxRecDepth 100000 in
set_option maxHeartbeats 8000000 in
theorem formatHex_c (n : Nat) (w : World) (hn : n < 4294967296) (hT : Tz w) : Calls Tryz.prog 83 #[.slice none 0 0, .int .u64 n, .int .i64 16, .bool false, .bool false] w (FhPost n w) := by
  have h6 := hT.pos
  have HT := Lib.hid hT
  clear hT
  go_enter Tryz.func83, Tryz.ntmps83
  go_wp2_with (rw [zero65H])
  generalize hW : World.alloc _ _ = W0
  have hO := Lib.hid (show OpenH w.heap.size 65 W0 by rw [← hW]; exact openH_alloc w _ _ 65 rfl)
  have hB0 := Lib.hid (show Below w.heap.size w W0 by rw [← hW]; (first | ((repeat' with_reducible first | assumption | exact Below.refl _ _ | apply Blw.alloc | apply Blw.drew | apply Blw.drewN | (refine Blw.after ?_ (by assumption)) | (refine Blw.set ?_ (by first | (dsimp only; omega) | (simp; omega)) _)); done) | (repeat' (first | assumption | exact Below.refl _ _ | apply Blw.alloc | apply Blw.drew | apply Blw.drewN | (refine Blw.after ?_ (by assumption)) | (refine Blw.set ?_ (by first | (dsimp only; omega) | (simp; done) | (simp; omega)) _)))))
  have HT0 := Lib.hid (HT.out.keep h6 hB0.out)
  clear hW
  go_wp2_with (first | (go_at_call 105; refine (isPow16_c _).mono ?_; rintro e w' ⟨rfl, rfl⟩) | (go_at_call 106; refine (tz_c 16 4 1 _ HT0.out (by decide) (by decide) (by decide)).mono ?_; rintro e w' ⟨rfl, rfl⟩))
  have S0 := Lib.hid (show FhRel n w 7 (.int .u64 n) (.int .i64 65) W0 from ⟨0, n, 65, by omega, by rw [Nat.pow_zero, Nat.div_one], by omega, rfl, rfl, fun j hj => by omega, hO.out, hB0.out⟩)
  go_loopg [1, 13] 7 (fun m u i wr => FhRel n w m u i wr)
  case atStart => exact S0.out
  case round =>
    clear S0
    obtain ⟨k, q, K, hk, hqe, hKe, rfl, rfl, hc, ho, hB⟩ := hrel
    have HC := Lib.hid hc
    have HO := Lib.hid ho
    have hqn : q ≤ n := by rw [hqe]; exact Nat.div_le_self _ _
    obtain ⟨⟨u0, c0⟩, f0⟩ := ho (64 - k) (by omega)
    have e1 : ((K : Int) - 1) = ((64 - k : Nat) : Int) := by omega
    have hk7 : k ≤ 7 := by omega
    have HKE := Lib.hid hKe
    have HQE := Lib.hid hqe
    clear hc ho hKe
    have HDG := Lib.hid (fun (d : Nat) (hd : d < 16) (h' : d < DGS.size) => dgs_at hd h')
    by_cases h2 : 16 ≤ q
    · have hlt : k < 7 := by
        apply Nat.lt_of_not_le
        intro hle
        have h7 : k = 7 := by omega
        have : q ≤ 15 := by
          rw [hqe, h7]
          have e : (16 : Nat) ^ 7 = 268435456 := by decide
          rw [e]; omega
        omega
      have HD := Lib.hid (show q / 16 = n / 16 ^ (k + 1) by rw [hqe, Nat.pow_succ, ← Nat.div_div_eq_div_mul])
      have ha := and15 q (by omega)
      have HCE := Lib.hid (fun x hx => fh_cells (n := n) (x := x) HC.out HO.out (by omega) hx)
      rw [← hqe] at HCE
      have hd : q % 16 < 16 := Nat.mod_lt _ (by omega)
      generalize hdd : q % 16 = d at *
      clear hqe
      have hds : (d : Int) < 36 := by omega
      go_wp2
      go_roundg (gk - 1)
      case measure => omega
      case rel => exact ⟨k + 1, q / 16, 64 - k, by omega, HD.out, by have := HKE.out; omega, by first | rfl | (congr 1; omega), by first | rfl | (congr 1; omega), HCE.out _ (congrArg encB (HDG.out d hd (Nat.lt_trans hd (by decide)))), HO.out.set, by (first | ((repeat' with_reducible first | assumption | exact Below.refl _ _ | apply Blw.alloc | apply Blw.drew | apply Blw.drewN | (refine Blw.after ?_ (by assumption)) | (refine Blw.set ?_ (by first | (dsimp only; omega) | (simp; omega)) _)); done) | (repeat' (first | assumption | exact Below.refl _ _ | apply Blw.alloc | apply Blw.drew | apply Blw.drewN | (refine Blw.after ?_ (by assumption)) | (refine Blw.set ?_ (by first | (dsimp only; omega) | (simp; done) | (simp; omega)) _))))⟩
    · have hq16 : q < 16 := by omega
      have HCE := Lib.hid (fun x hx => fh_cells (n := n) (x := x) HC.out HO.out (by omega) hx)
      rw [← hqe, Nat.mod_eq_of_lt hq16] at HCE
      have hds : (q : Int) < 36 := by omega
      have HQ := Lib.hid (show n / 16 ^ k < 16 by rw [← hqe]; exact hq16)
      clear hqe
      have hsl := fun W => sliceH_c w.heap.size k W (by omega)
      have hcv := fun W hW => convH_c w.heap.size k n W (by omega) hW
      go_wp2_with (rw [hcv]; rotate_left; exact HCE.out _ (congrArg encB (HDG.out q hq16 (Nat.lt_trans hq16 (by decide)))))
      go_ret2
      exact ⟨k, rfl, hk7, HQ.out, by (first | ((repeat' with_reducible first | assumption | exact Below.refl _ _ | apply Blw.alloc | apply Blw.drew | apply Blw.drewN | (refine Blw.after ?_ (by assumption)) | (refine Blw.set ?_ (by first | (dsimp only; omega) | (simp; omega)) _)); done) | (repeat' (first | assumption | exact Below.refl _ _ | apply Blw.alloc | apply Blw.drew | apply Blw.drewN | (refine Blw.after ?_ (by assumption)) | (refine Blw.set ?_ (by first | (dsimp only; omega) | (simp; done) | (simp; omega)) _))))⟩
def FxPost (n : Nat) (w : World) (e : Ending) (w' : World) : Prop := ∃ k, e = .returned (.string (bs (hl k n))) ∧ k ≤ 7 ∧ n / 16 ^ k < 16 ∧ Below w.heap.size w w'
theorem fmtHexI_c (n : Nat) (w : World) (hn : n < 4294967296) (hT : Tz w) : Calls Tryz.prog 57 #[.int .u64 n, .int .i64 16] w (FxPost n w) := by
  have HT := Lib.hid hT
  clear hT
  go_enter Tryz.func57, Tryz.ntmps57
  go_wp2_with fail
  refine (formatHex_c n w hn HT.out).mono ?_
  rintro e w1 ⟨k, rfl, h1, h2, hb⟩
  have FIN := Lib.hid (show FxPost n w (.returned (.string (bs (hl k n)))) w1 from ⟨k, rfl, h1, h2, hb⟩)
  clear h1 h2 hb
  go_wp2_with fail
  go_ret
  exact FIN.out
theorem fmtHex_c (n : Nat) (w : World) (hn : n < 4294967296) (hT : Tz w) : Calls Tryz.prog 40 #[.int .u64 n, .int .i64 16] w (FxPost n w) := by
  have HT := Lib.hid hT
  clear hT
  go_enter Tryz.func40, Tryz.ntmps40
  go_wp2_with fail
  refine (fmtHexI_c n w hn HT.out).mono ?_
  rintro e w1 ⟨k, rfl, h1, h2, hb⟩
  have FIN := Lib.hid (show FxPost n w (.returned (.string (bs (hl k n)))) w1 from ⟨k, rfl, h1, h2, hb⟩)
  clear h1 h2 hb
  go_wp2_with fail
  go_ret
  exact FIN.out
def HxRel (n : Nat) (w : World) (m : Nat) (o i : Value) (wr : World) : Prop := ∃ t : Nat, t + m = 8 ∧ i = .int .i64 (7 - (t : Int)) ∧ o = .string (bs ((hl 7 n).take t)) ∧ wr = w
set_option maxRecDepth 100000 in
set_option maxHeartbeats 4000000 in
theorem l7Hex_c (n : Nat) (w : World) (hn : n < 4294967296) : Calls Tryz.prog 15 #[.int .u32 n] w fun e w' => e = .returned (.string (bs (hl 7 n))) ∧ w = w' := by
  have HT := Lib.hid (show (hl 7 n).take 8 = hl 7 n from List.take_of_length_le (by rw [hl_len]; exact Nat.le_refl _))
  have HS := Lib.hid (fun t (h : t ≤ 7) => hl_take (K := 7) (n := n) h)
  have HP := Lib.hid (fun d (h : d < 16) => hex_pick h)
  have hlen : ∀ t, (bs ((hl 7 n).take t)).size ≤ 8 := fun t => by rw [hbs_sz, List.length_take, hl_len]; omega
  have HL := Lib.hid hlen
  clear hlen
  go_enter Tryz.func15, Tryz.ntmps15
  go_wp2_with fail
  go_loopg [3, 4, 5] 8 (fun m o i k wr => HxRel n w m o i wr)
  case atStart => exact ⟨0, by omega, rfl, rfl, rfl⟩
  case round =>
    obtain ⟨t, ht, rfl, rfl, rfl⟩ := hrel
    by_cases h0 : gk = 0
    · subst h0
      obtain rfl : t = 8 := by omega
      go_wp2_with fail
      go_ret
      exact ⟨by rw [HT.out]; rfl, rfl⟩
    · have ht7 : t ≤ 7 := by omega
      have hST := Lib.hid (HS.out t ht7)
      have hsz := HL.out t
      have hsh : IntKind.i64.wrap (4 * (7 - (t : Int))) = ((4 * (7 - t) : Nat) : Int) := by rw [IntWalk.i64_in _ (by omega)]; omega
      have hdv : ((n : Int) / 2 ^ (4 * (7 - t))) = ((n / 16 ^ (7 - t) : Nat) : Int) := by
        have e : (16 : Nat) ^ (7 - t) = 2 ^ (4 * (7 - t)) := by rw [Nat.pow_mul]
        rw [e]; push_cast; rfl
      obtain ⟨q, hq⟩ : ∃ q, q = n / 16 ^ (7 - t) := ⟨_, rfl⟩
      have hqn : q ≤ n := by rw [hq]; exact Nat.div_le_self _ _
      have h15 : bits .and .u32 (q : Int) 15 = ((q % 16 : Nat) : Int) := by
        have := u32_and_nat q 15 (by omega) (by omega)
        rw [show (15 : Nat) = 2 ^ 4 - 1 from rfl, Nat.and_two_pow_sub_one_eq_mod] at this
        exact this
      have hd : q % 16 < 16 := Nat.mod_lt _ (by omega)
      rw [← hq] at hdv hST
      have hpk := HP.out (q % 16) hd
      have HQ := Lib.hid hq
      clear hq
      generalize hdd : q % 16 = d at *
      clear hdd
      have HR := Lib.hid (show bs ((hl 7 n).take (t + 1)) = bs ((hl 7 n).take t) ++ bs [hexc d] by rw [hST.out, hbs_cat])
      have hz1 : (bs [hexc d]).size ≤ 8 := by rw [hbs_sz, List.length_singleton]; omega
      generalize bs [hexc d] = U at *
      generalize bs ((hl 7 n).take t) = T at *
      clear hST
      go_wp2
      go_roundg (gk - 1)
      case measure => omega
      case rel => exact ⟨t + 1, by omega, by go_num, by rw [HR.out], rfl⟩
end Go.Proofs.YtmdnfamjdogogaaGreatDoor

namespace Go.Proofs.YtmdnfamjdogogaaGreatDoor
set_option linter.unusedSimpArgs false
set_option linter.unusedVariables false
open Go.RowKit

theorem repeat_noughtsH (z : Nat) : (Lib.repeatL [48] z : List UInt8) = List.replicate z 48 := by
  induction z with
  | zero => rfl
  | succ z ih => simp [Lib.repeatL, List.replicate_succ, ih]
theorem repH_c (z : Nat) (w : World) (hz : z ≤ 50) : Calls Tryz.prog 41 #[.string ⟨#[48]⟩, .int .i64 z] w fun e w' => e = .returned (.string (bs (List.replicate z 48))) ∧ Below w.heap.size w w' :=
  (Tryz.strings_Repeat ⟨#[48]⟩ z w (by omega) (by show 1 * z ≤ _; omega)).mono fun e w' h => ⟨by rw [h.1, repeat_noughtsH]; rfl, h.2⟩
set_option maxHeartbeats 4000000 in
theorem eightDigits_c (n : Nat) (w : World) (hn : n < 4294967296) (hT : Tz w) : Calls Tryz.prog 26 #[.int .u32 n] w fun e w' => e = .returned (.string (bs (hl 7 n))) ∧ Below w.heap.size w w' := by
  have HT := Lib.hid hT
  clear hT
  go_enter Tryz.func26, Tryz.ntmps26
  go_wp2_with fail
  refine (fmtHex_c n w hn HT.out).mono ?_
  rintro e w1 ⟨k, rfl, h1, h2, hb⟩
  have HR := Lib.hid (show bs (List.replicate (7 - k) 48) ++ bs (hl k n) = bs (hl 7 n) by rw [hbs_cat, hl_pad h1 h2])
  have hz : (bs (hl k n)).size = k + 1 := by rw [hbs_sz, hl_len]
  have hz2 : (bs (List.replicate (7 - k) 48)).size ≤ 8 := by rw [hbs_sz, List.length_replicate]; omega
  have HP := Lib.hid (fun w => repH_c (7 - k) w (by omega))
  have e1 : (8 : Int) - ((k : Int) + 1) = ((7 - k : Nat) : Int) := by omega
  have HB := Lib.hid hb
  clear h2 hb
  generalize bs (hl k n) = T at *
  generalize bs (List.replicate (7 - k) 48) = U at *
  have hz3 : (T.size : Int) = (k : Int) + 1 := by omega
  have e2 : (8 : Int) - (T.size : Int) = ((7 - k : Nat) : Int) := by omega
  have hz4 : T.size ≤ 8 := by omega
  have HZ := Lib.hid hz
  clear hz hz3 e1
  go_wp2_with fail
  refine (HP.out _).mono ?_
  rintro e w2 ⟨rfl, hb2⟩
  have HB2 := Lib.hid (Blw.after HB.out hb2)
  clear hb2 HB
  go_wp2_with fail
  go_ret
  exact ⟨by rw [← HR.out]; rfl, HB2.out⟩
set_option maxRecDepth 100000 in
theorem iWordBits_c (x : Nat) (w : World) (hx : x < 4294967296) (hT : Tz w) : Calls Tryz.prog 25 #[.float .f32 x] w fun e w' => e = .returned (.string (bs (hl 7 x))) ∧ Below w.heap.size w w' := by
  have HT := Lib.hid hT
  clear hT
  go_enter Tryz.func25, Tryz.ntmps25
  go_wp2
  rw [run_callFunc_extern Tryz.func28 (by kernel_rfl) (by kernel_rfl) (by kernel_rfl) (e := Extern.MathFloatBits.float32bits) (by kernel_rfl), f32bitsZ_run]
  simp only [Result.andThen]
  rw [Oper.upon_value]
  go_wp2_with fail
  refine (eightDigits_c x w hx HT.out).mono ?_
  rintro e w1 ⟨rfl, hb⟩
  have HB := Lib.hid hb
  clear hb
  go_wp2_with fail
  go_ret
  exact ⟨rfl, HB.out⟩
set_option maxRecDepth 100000 in
theorem sWordBits_c (x : Nat) (w : World) (hx : x < 4294967296) : Calls Tryz.prog 14 #[.float .f32 x] w fun e w' => e = .returned (.string (bs (hl 7 x))) ∧ w = w' := by
  go_enter Tryz.func14, Tryz.ntmps14
  go_wp2
  rw [run_callFunc_extern Tryz.func28 (by kernel_rfl) (by kernel_rfl) (by kernel_rfl) (e := Extern.MathFloatBits.float32bits) (by kernel_rfl), f32bitsZ_run]
  simp only [Result.andThen]
  rw [Oper.upon_value]
  go_wp2_with fail
  refine (l7Hex_c x w hx).mono ?_
  rintro e w1 ⟨rfl, rfl⟩
  go_wp2_with fail
  go_ret
  exact ⟨rfl, rfl⟩
end Go.Proofs.YtmdnfamjdogogaaGreatDoor

namespace Go.Proofs.YtmdnfamjdogogaaGreatDoor
set_option linter.unusedSimpArgs false
set_option linter.unusedVariables false
open Go.RowKit

/-- the bytes of a slice lie in w -/
def Bytes (sv : Value) (len : Nat) (w : World) : Prop :=
  ∃ a cap, sv = .slice a len cap ∧ (len = 0 ∨ ∃ b off, a = some ⟨b, off, none⟩ ∧ ∀ i, i < len → ∃ z : Int, w.cell? ⟨b, off + i, none⟩ = some (.int .u8 z) ∧ 0 ≤ z ∧ z ≤ 255)

/-- the reader in block rb stands at p -/
def Rd (rb : Nat) (sv : Value) (p : Int) (w : World) : Prop :=
  w.cell? ⟨rb, 0, none⟩ = some sv ∧ w.cell? ⟨rb, 1, none⟩ = some (.int .i64 p) ∧ w.frozen? ⟨rb, 0, none⟩ = false ∧ w.frozen? ⟨rb, 1, none⟩ = false

theorem xor_i64_nat (a b : Nat) (ha : a < 9223372036854775808) (hb : b < 9223372036854775808) : bits .xor .i64 (a : Int) (b : Int) = ((a ^^^ b : Nat) : Int) := by
  have hx : a ^^^ b < 2 ^ 63 := Nat.xor_lt_two_pow (by omega) (by omega)
  have h1 : (BitVec.ofInt 64 (a : Int)).toNat = a := by
    rw [BitVec.ofInt_natCast, BitVec.toNat_ofNat]; exact Nat.mod_eq_of_lt (by omega)
  have h2 : (BitVec.ofInt 64 (b : Int)).toNat = b := by
    rw [BitVec.ofInt_natCast, BitVec.toNat_ofNat]; exact Nat.mod_eq_of_lt (by omega)
  show IntKind.i64.wrap ((BitVec.ofInt 64 (a : Int) ^^^ BitVec.ofInt 64 (b : Int)).toNat : Int) = _
  rw [BitVec.toNat_xor, h1, h2, IntKind.wrap_i64]
  omega
theorem xor_i64_pos {a b : Int} (ha : 0 ≤ a ∧ a ≤ 1000000000000) (hb : 0 ≤ b ∧ b ≤ 1000000000000) : 0 ≤ bits .xor .i64 a b := by
  obtain ⟨x, rfl⟩ := Int.eq_ofNat_of_zero_le ha.1
  obtain ⟨y, rfl⟩ := Int.eq_ofNat_of_zero_le hb.1
  rw [xor_i64_nat x y (by omega) (by omega)]
  omega
theorem tmod_pick {x n : Int} (hx : 0 ≤ x) (hn : 1 ≤ n) : 0 ≤ x.tmod n ∧ x.tmod n < n := by
  rw [Int.tmod_eq_emod_of_nonneg hx]
  exact ⟨Int.emod_nonneg _ (by omega), Int.emod_lt_of_pos _ (by omega)⟩

/-- what a pick does: a number below n; block rb alone has changed, and there the place -/
def Picked (n : Int) (rb : Nat) (p : Int) (w : World) (e : Ending) (w' : World) : Prop :=
  ∃ (k : Int) (m : Nat), 0 ≤ k ∧ (k < n ∨ k = 0) ∧ e = .returned (.int .i64 k) ∧ w' = (w.setCell ⟨rb, 1, none⟩ (.int .i64 (p + 1))).drewN m

set_option maxHeartbeats 2000000 in
theorem pick_none (rb : Nat) (a : Option Addr) (cap : Nat) (p n : Int) (w : World) (h : Rd rb (.slice a 0 cap) p w) (hp : 0 ≤ p ∧ p ≤ 1000000) (hn : 1 ≤ n) :
    Calls Tryz.prog 23 #[.pointer (some ⟨rb, 0, none⟩), .int .i64 n] w (Picked n rb p w) := by
  obtain ⟨c0, c1, f0, f1⟩ := h
  obtain ⟨p1, p2⟩ := hp
  go_enter Tryz.func23, Tryz.ntmps23
  go_wp2
  go_ret
  exact ⟨0, 0, by omega, Or.inr rfl, rfl, rfl⟩

set_option maxHeartbeats 2000000 in
theorem pick_in (rb b off len cap : Nat) (p n z : Int) (w : World) (h : Rd rb (.slice (some ⟨b, off, none⟩) len cap) p w) (hp : 0 ≤ p ∧ p < len) (hl : len ≤ 2000) (hn : 1 ≤ n) (hn2 : n ≤ 1000000) (hb : b ≠ rb)
    (hz : w.cell? ⟨b, off + p.toNat, none⟩ = some (.int .u8 z)) (hz1 : 0 ≤ z) (hz2 : z ≤ 255) :
    Calls Tryz.prog 23 #[.pointer (some ⟨rb, 0, none⟩), .int .i64 n] w (Picked n rb p w) := by
  obtain ⟨c0, c1, f0, f1⟩ := h
  obtain ⟨p1, p2⟩ := hp
  have hlen : ((len : Int) == 0) = false := by simp; omega
  go_enter Tryz.func23, Tryz.ntmps23
  go_wp2
  go_ret
  have e1 := Int.emod_nonneg z (show n ≠ 0 by omega)
  have e2 := Int.emod_lt_of_pos z (show 0 < n by omega)
  exact ⟨z % n, 0, e1, Or.inl e2, rfl, rfl⟩

set_option maxHeartbeats 4000000 in
theorem pick_out (rb b off len cap : Nat) (p n z1 z2 : Int) (w : World) (h : Rd rb (.slice (some ⟨b, off, none⟩) len cap) p w) (hp : (len : Int) ≤ p ∧ p ≤ 1000000) (hl : len ≤ 2000) (hl0 : 1 ≤ len) (hn : 1 ≤ n) (hn2 : n ≤ 1000000) (hb : b ≠ rb)
    (hz : w.cell? ⟨b, off + (p % (len : Int)).toNat, none⟩ = some (.int .u8 z1)) (hz1 : 0 ≤ z1 ∧ z1 ≤ 255)
    (hy : w.cell? ⟨b, off + ((p * 7 + 3) % (len : Int)).toNat, none⟩ = some (.int .u8 z2)) (hy1 : 0 ≤ z2 ∧ z2 ≤ 255) :
    Calls Tryz.prog 23 #[.pointer (some ⟨rb, 0, none⟩), .int .i64 n] w (Picked n rb p w) := by
  obtain ⟨c0, c1, f0, f1⟩ := h
  obtain ⟨p1, p2⟩ := hp
  obtain ⟨y1, y2⟩ := hz1
  obtain ⟨y3, y4⟩ := hy1
  have hlen : ((len : Int) == 0) = false := by simp; omega
  have a1 := Int.emod_nonneg p (show (len : Int) ≠ 0 by omega)
  have a2 := Int.emod_lt_of_pos p (show 0 < (len : Int) by omega)
  have a3 := Int.emod_nonneg (p * 7 + 3) (show (len : Int) ≠ 0 by omega)
  have a4 := Int.emod_lt_of_pos (p * 7 + 3) (show 0 < (len : Int) by omega)
  have a5 : 0 ≤ p / (len : Int) := Int.ediv_nonneg (by omega) (by omega)
  have a6 : p / (len : Int) ≤ p := Int.ediv_le_self _ (by omega)
  go_enter Tryz.func23, Tryz.ntmps23
  go_wp2
  go_quiet (fail)
  go_wp2
  go_ret
  have t := tmod_pick (x := bits .xor .i64 (z1 * 131 + z2 * 1117 + p * 29 + p / (len : Int) * 53) ((z1 * 131 + z2 * 1117 + p * 29 + p / (len : Int) * 53) / 64)) (n := n) (xor_i64_pos ⟨by omega, by omega⟩ ⟨by omega, by omega⟩) hn
  exact ⟨_, _, t.1, Or.inl t.2, rfl, rfl⟩

/-- the bytes that the reader reads, in the world in which they lay; block rb is another -/
def Src (sv : Value) (rb : Nat) (w : World) : Prop :=
  ∃ (a : Option Addr) (len cap : Nat), sv = .slice a len cap ∧ len ≤ 2000 ∧ (len = 0 ∨ ∃ b off, a = some ⟨b, off, none⟩ ∧ b ≠ rb ∧ ∀ i, i < len → ∃ z : Int, w.cell? ⟨b, off + i, none⟩ = some (.int .u8 z) ∧ 0 ≤ z ∧ z ≤ 255)

theorem pick_c (rb : Nat) (sv : Value) (p n : Int) (w : World) (hs : Src sv rb w) (h : Rd rb sv p w) (hp : 0 ≤ p ∧ p ≤ 1000000) (hn : 1 ≤ n ∧ n ≤ 1000000) :
    Calls Tryz.prog 23 #[.pointer (some ⟨rb, 0, none⟩), .int .i64 n] w (Picked n rb p w) := by
  obtain ⟨a, len, cap, rfl, hl, hs⟩ := hs
  by_cases h0 : len = 0
  · subst h0
    exact pick_none rb a cap p n w h hp hn.1
  · have hpos : 0 < (len : Int) := Int.natCast_pos.2 (Nat.pos_of_ne_zero h0)
    have a0 : (len : Int) ≠ 0 := Int.ne_of_gt hpos
    have a1 := Int.emod_nonneg p a0
    have a2 := Int.emod_lt_of_pos p hpos
    have a3 := Int.emod_nonneg (p * 7 + 3) a0
    have a4 := Int.emod_lt_of_pos (p * 7 + 3) hpos
    have i1 : (p % (len : Int)).toNat < len := by clear hs; omega
    have i2 : ((p * 7 + 3) % (len : Int)).toNat < len := by clear hs; omega
    have i3 : 1 ≤ len := Nat.pos_of_ne_zero h0
    have i4 : p < len → p.toNat < len := by clear hs; intro h; omega
    obtain ⟨b, off, rfl, hb, hz⟩ := hs.resolve_left h0
    by_cases hlt : p < len
    · obtain ⟨z, z1, z2, z3⟩ := hz p.toNat (i4 hlt)
      exact pick_in rb b off len cap p n z w h ⟨hp.1, hlt⟩ hl hn.1 hn.2 hb z1 z2 z3
    · obtain ⟨z, z1, z2, z3⟩ := hz (p % (len : Int)).toNat i1
      obtain ⟨y, y1, y2, y3⟩ := hz ((p * 7 + 3) % (len : Int)).toNat i2
      exact pick_out rb b off len cap p n z y w h ⟨Int.not_lt.1 hlt, hp.2⟩ hl i3 hn.1 hn.2 hb z1 ⟨z2, z3⟩ y1 ⟨y2, y3⟩

/-- block rb alone may have changed, and new blocks may be there -/
def Moved (rb : Nat) (w w' : World) : Prop :=
  w.heap.size ≤ w'.heap.size ∧ (∀ b o, b < w.heap.size → b ≠ rb → w'.cell? ⟨b, o, none⟩ = w.cell? ⟨b, o, none⟩) ∧ (∀ b o, b < w.heap.size → b ≠ rb → w'.frozen? ⟨b, o, none⟩ = w.frozen? ⟨b, o, none⟩) ∧
    ∀ W0 : World, Below W0.heap.size W0 w → W0.heap.size ≤ rb → Below W0.heap.size W0 w'
theorem Moved.refl (rb : Nat) (w : World) : Moved rb w w := ⟨Nat.le_refl _, fun _ _ _ _ => rfl, fun _ _ _ _ => rfl, fun _ h _ => h⟩
theorem Moved.trans {rb : Nat} {w w1 w2 : World} (h : Moved rb w w1) (k : Moved rb w1 w2) : Moved rb w w2 :=
  ⟨Nat.le_trans h.1 k.1, fun b o hb hn => (k.2.1 b o (Nat.lt_of_lt_of_le hb h.1) hn).trans (h.2.1 b o hb hn), fun b o hb hn => (k.2.2.1 b o (Nat.lt_of_lt_of_le hb h.1) hn).trans (h.2.2.1 b o hb hn), fun W0 h0 hr => k.2.2.2 W0 (h.2.2.2 W0 h0 hr) hr⟩
theorem Moved.below {rb : Nat} {w w1 w2 : World} (h : Moved rb w w1) (k : Below w1.heap.size w1 w2) : Moved rb w w2 :=
  ⟨Nat.le_trans h.1 k.size, fun b o hb hn => (k.cell (p := ⟨b, o, none⟩) (Nat.lt_of_lt_of_le hb h.1)).trans (h.2.1 b o hb hn), fun b o hb hn => (k.frozen (p := ⟨b, o, none⟩) (Nat.lt_of_lt_of_le hb h.1)).trans (h.2.2.1 b o hb hn),
    fun W0 h0 hr => Blw.after (h.2.2.2 W0 h0 hr) k⟩
theorem Moved.set {rb : Nat} {w w1 : World} (h : Moved rb w w1) {a : Addr} (ha : w.heap.size ≤ a.block) (hr : rb < w.heap.size) (u : Value) : Moved rb w (w1.setCell a u) :=
  ⟨by simpa [World.setCell] using h.1, fun b o hb hn => (World.cell?_of_block (w := w1) (a := ⟨b, o, none⟩) (Below.heap_setCell _ _ _ _ (by show b ≠ a.block; omega))).trans (h.2.1 b o hb hn),
    fun b o hb hn => (World.frozen?_of_block (w := w1) (a := ⟨b, o, none⟩) (Below.heap_setCell _ _ _ _ (by show b ≠ a.block; omega))).trans (h.2.2.1 b o hb hn), fun W0 h0 hr0 => Blw.set (h.2.2.2 W0 h0 hr0) (by omega) u⟩
theorem Moved.alloc {rb : Nat} {w w1 : World} (h : Moved rb w w1) (o : Obj) : Moved rb w (w1.alloc o) := h.below ((Below.refl _ _).alloc (Nat.le_refl _) _)
theorem Moved.drewN {rb : Nat} {w w1 : World} (m : Nat) (h : Moved rb w w1) : Moved rb w (w1.drewN m) := h.below (Blw.drewN m (Below.refl _ _))
theorem Moved.drew {rb : Nat} {w w1 : World} (h : Moved rb w w1) : Moved rb w w1.drew := h.below (Below.refl _ _).drew

theorem Rd.keep {rb : Nat} {sv : Value} {p : Int} {w w' : World} (h : Rd rb sv p w) (hb : Below w.heap.size w w') : Rd rb sv p w' := by
  obtain ⟨c0, c1, f0, f1⟩ := h
  have hl := World.block_lt_of_cell? w _ c0
  exact ⟨keepcell hb c0, keepcell hb c1, ((bcell hb).2 _ _ hl).trans f0, ((bcell hb).2 _ _ hl).trans f1⟩
theorem Src.keep {rb : Nat} {sv : Value} {w w' : World} (h : Src sv rb w) (hb : Below w.heap.size w w') : Src sv rb w' := by
  obtain ⟨a, len, cap, rfl, hl, hs⟩ := h
  refine ⟨a, len, cap, rfl, hl, hs.imp id ?_⟩
  rintro ⟨b, off, rfl, hn, hz⟩
  refine ⟨b, off, rfl, hn, fun i hi => ?_⟩
  obtain ⟨z, z1, z2⟩ := hz i hi
  exact ⟨z, keepcell hb z1, z2⟩

/-- what a pick leaves: the reader one place on, and block rb alone changed -/
def Drawn (X : Value → Prop) (q : Int) (rb : Nat) (sv : Value) (p : Int) (w : World) (e : Ending) (w' : World) : Prop :=
  ∃ (v : Value) (p' : Int), X v ∧ e = .returned v ∧ p ≤ p' ∧ p' ≤ p + q ∧ Rd rb sv p' w' ∧ Src sv rb w' ∧ Moved rb w w'
def IntTo (n : Int) (v : Value) : Prop := ∃ k : Int, v = .int .i64 k ∧ 0 ≤ k ∧ (k < n ∨ k = 0)

theorem pick_d (rb : Nat) (sv : Value) (p n : Int) (w : World) (hs : Src sv rb w) (h : Rd rb sv p w) (hp : 0 ≤ p ∧ p ≤ 1000000) (hn : 1 ≤ n ∧ n ≤ 1000000) :
    Calls Tryz.prog 23 #[.pointer (some ⟨rb, 0, none⟩), .int .i64 n] w (Drawn (IntTo n) 1 rb sv p w) := by
  refine (pick_c rb sv p n w hs h hp hn).mono fun e w' hP => ?_
  obtain ⟨k, m, h1, h2, rfl, rfl⟩ := hP
  have hc : ∀ b o, b ≠ rb → ((w.setCell ⟨rb, 1, none⟩ (.int .i64 (p + 1))).drewN m).cell? ⟨b, o, none⟩ = w.cell? ⟨b, o, none⟩ := fun b o hb => World.cell?_of_block (w := w) (a := ⟨b, o, none⟩) (Below.heap_setCell _ _ _ _ hb)
  have hf : ∀ b o, b ≠ rb → ((w.setCell ⟨rb, 1, none⟩ (.int .i64 (p + 1))).drewN m).frozen? ⟨b, o, none⟩ = w.frozen? ⟨b, o, none⟩ := fun b o hb => World.frozen?_of_block (w := w) (a := ⟨b, o, none⟩) (Below.heap_setCell _ _ _ _ hb)
  obtain ⟨c0, c1, f0, f1⟩ := h
  refine ⟨_, p + 1, ⟨k, rfl, h1, h2⟩, rfl, by omega, by omega, ⟨by go_simp, by go_simp, by go_simp, by go_simp⟩, ?_, by simp [World.drewN, World.setCell], fun b o _ hb => hc b o hb, fun b o _ hb => hf b o hb, fun W0 hb h0 => Blw.drewN _ (Blw.set hb h0 _)⟩
  obtain ⟨a, len, cap, rfl, hl, hs⟩ := hs
  refine ⟨a, len, cap, rfl, hl, hs.imp id ?_⟩
  rintro ⟨b, off, rfl, hb, hz⟩
  exact ⟨b, off, rfl, hb, fun i hi => by rw [hc _ _ hb]; exact hz i hi⟩

/-- the law's argument: a list of bytes that lies in w -/
def Code (v : Value) (w : World) : Prop :=
  ∃ (a : Option Addr) (len cap : Nat), v = .slice a len cap ∧ len ≤ cap ∧ len ≤ 1048576 ∧ (len = 0 ∨ ∃ b off, a = some ⟨b, off, none⟩ ∧ ∀ i, i < len → ∃ z : Int, w.cell? ⟨b, off + i, none⟩ = some (.int .u8 z) ∧ 0 ≤ z ∧ z ≤ 255)
theorem Code.keep {v : Value} {w w' : World} (h : Code v w) (hb : Below w.heap.size w w') : Code v w' := by
  obtain ⟨a, len, cap, rfl, h1, h2, h3⟩ := h
  refine ⟨a, len, cap, rfl, h1, h2, h3.imp id ?_⟩
  rintro ⟨b, off, rfl, hz⟩
  refine ⟨b, off, rfl, fun i hi => ?_⟩
  obtain ⟨z, z1, z2⟩ := hz i hi
  exact ⟨z, keepcell hb z1, z2⟩
/-- what l6Open gives: a reader at the beginning, in a new block -/
def Opened (w : World) (e : Ending) (w' : World) : Prop :=
  ∃ sv, e = .returned (.pointer (some ⟨w.heap.size, 0, none⟩)) ∧ Rd w.heap.size sv 0 w' ∧ Src sv w.heap.size w' ∧ w'.heap.size = w.heap.size + 1 ∧ Below w.heap.size w w'
theorem l6Open_c (v : Value) (w : World) (h : Code v w) : Calls Tryz.prog 10 #[v] w (Opened w) := by
  obtain ⟨a, len, cap, rfl, h1, h2, h3⟩ := h
  by_cases h0 : len = 0
  · subst h0
    go_enter Tryz.func10, Tryz.ntmps10
    go_wp2
    go_ret
    refine ⟨.slice a 0 cap, rfl, ⟨by go_simp, by go_simp, by rw [frozen?_alloc_cells]; simp [World.frozen?], by rw [frozen?_alloc_cells]; simp [World.frozen?]⟩, ⟨a, 0, cap, rfl, by omega, Or.inl rfl⟩, by simp, (Below.refl _ _).alloc (Nat.le_refl _) _⟩
  · obtain ⟨b, off, rfl, hz⟩ := h3.resolve_left h0
    have hl : b < w.heap.size := by
      obtain ⟨z, z1, -⟩ := hz 0 (by omega)
      exact World.block_lt_of_cell? w _ z1
    have HZ := Lib.hid hz
    clear hz
    have key : ∀ n, n ≤ len → ∀ i, i < n → ∃ z : Int, (w.alloc (.cells #[.slice (some ⟨b, off, none⟩) n cap, .int .i64 0] 51)).cell? ⟨b, off + i, none⟩ = some (.int .u8 z) ∧ 0 ≤ z ∧ z ≤ 255 := by
      intro n hn i hi
      obtain ⟨z, z1, z2⟩ := HZ.out i (by omega)
      exact ⟨z, keepcell ((Below.refl _ _).alloc (Nat.le_refl _) _) z1, z2⟩
    by_cases hb : 2000 < len
    · go_enter Tryz.func10, Tryz.ntmps10
      go_wp2
      go_ret
      exact ⟨.slice (some ⟨b, off, none⟩) 2000 cap, rfl, ⟨by go_simp, by go_simp, by rw [frozen?_alloc_cells]; simp [World.frozen?], by rw [frozen?_alloc_cells]; simp [World.frozen?]⟩, ⟨_, 2000, cap, rfl, by omega, Or.inr ⟨b, off, rfl, by omega, key 2000 (by omega)⟩⟩, by simp, (Below.refl _ _).alloc (Nat.le_refl _) _⟩
    · go_enter Tryz.func10, Tryz.ntmps10
      go_wp2
      go_ret
      exact ⟨.slice (some ⟨b, off, none⟩) len cap, rfl, ⟨by go_simp, by go_simp, by rw [frozen?_alloc_cells]; simp [World.frozen?], by rw [frozen?_alloc_cells]; simp [World.frozen?]⟩, ⟨_, len, cap, rfl, by omega, Or.inr ⟨b, off, rfl, by omega, key len (by omega)⟩⟩, by simp, (Below.refl _ _).alloc (Nat.le_refl _) _⟩

theorem Moved.cell {rb : Nat} {w w' : World} (h : Moved rb w w') {b o : Nat} {v : Value} (hb : b < w.heap.size) (hn : b ≠ rb) (hv : w.cell? ⟨b, o, none⟩ = some v) : w'.cell? ⟨b, o, none⟩ = some v := (h.2.1 b o hb hn).trans hv
theorem Moved.froz {rb : Nat} {w w' : World} (h : Moved rb w w') {b o : Nat} {v : Bool} (hb : b < w.heap.size) (hn : b ≠ rb) (hv : w.frozen? ⟨b, o, none⟩ = v) : w'.frozen? ⟨b, o, none⟩ = v := (h.2.2.1 b o hb hn).trans hv
theorem Src.moved {sv : Value} {rb : Nat} {w w' : World} (h : Src sv rb w) (k : Moved rb w w') : Src sv rb w' := by
  obtain ⟨a, len, cap, rfl, hl, hs⟩ := h
  refine ⟨a, len, cap, rfl, hl, hs.imp id ?_⟩
  rintro ⟨b, off, rfl, hn, hz⟩
  refine ⟨b, off, rfl, hn, fun i hi => ?_⟩
  obtain ⟨z, z1, z2⟩ := hz i hi
  exact ⟨z, k.cell (World.block_lt_of_cell? w _ z1) hn z1, z2⟩
theorem Rd.set {rb : Nat} {sv : Value} {p : Int} {w : World} (h : Rd rb sv p w) {a : Addr} (ha : a.block ≠ rb) (u : Value) : Rd rb sv p (w.setCell a u) := by
  have hc : ∀ o, (w.setCell a u).cell? ⟨rb, o, none⟩ = w.cell? ⟨rb, o, none⟩ := fun o => World.cell?_of_block (w := w) (a := ⟨rb, o, none⟩) (Below.heap_setCell _ _ _ _ (Ne.symm ha))
  have hf : ∀ o, (w.setCell a u).frozen? ⟨rb, o, none⟩ = w.frozen? ⟨rb, o, none⟩ := fun o => World.frozen?_of_block (w := w) (a := ⟨rb, o, none⟩) (Below.heap_setCell _ _ _ _ (Ne.symm ha))
  exact ⟨(hc 0).trans h.1, (hc 1).trans h.2.1, (hf 0).trans h.2.2.1, (hf 1).trans h.2.2.2⟩

/-- some Gauss, a little wider than the model's bound -/
def GaussV (v : Value) : Prop := ∃ x y : Int, v = .agg #[.int .i64 x, .int .i64 y] ∧ (-1000001 ≤ x ∧ x ≤ 1000001) ∧ (-1000001 ≤ y ∧ y ≤ 1000001)
end Go.Proofs.YtmdnfamjdogogaaGreatDoor

namespace Go.Proofs.YtmdnfamjdogogaaGreatDoor
set_option linter.unusedSimpArgs false
set_option linter.unusedVariables false
open Go.RowKit

/-- what a draw of one Gauss leaves -/
def One (w : World) (e : Ending) (w' : World) : Prop :=
  ∃ x y : Int, e = .returned (.agg #[.int .i64 x, .int .i64 y]) ∧ (-1000001 ≤ x ∧ x ≤ 1000001) ∧ (-1000001 ≤ y ∧ y ≤ 1000001) ∧ Below w.heap.size w w'

end Go.Proofs.YtmdnfamjdogogaaGreatDoor

namespace Go.Proofs.YtmdnfamjdogogaaGreatDoor
set_option linter.unusedSimpArgs false
set_option linter.unusedVariables false
open Go.RowKit

def StrTo (K : Nat) (v : Value) : Prop := ∃ t : ByteArray, v = .string t ∧ t.size ≤ K
def Strs (K b n : Nat) (w : World) : Prop := ∀ i, i < n → ∃ t : ByteArray, w.cell? ⟨b, i, none⟩ = some (.string t) ∧ t.size ≤ K
theorem Moved.strs {rb K b n : Nat} {w w' : World} (h : Moved rb w w') (hb : b ≠ rb) (k : Strs K b n w) : Strs K b n w' := fun i hi => by
  obtain ⟨t, h1, h2⟩ := k i hi
  exact ⟨t, h.cell (World.block_lt_of_cell? w _ h1) hb h1, h2⟩
set_option maxHeartbeats 1000000 in
theorem of_c (rb : Nat) (sv : Value) (p : Int) (K b n cap : Nat) (w : World) (hs : Src sv rb w) (h : Rd rb sv p w) (hp : 0 ≤ p ∧ p ≤ 1000000) (hn : 1 ≤ n ∧ n ≤ 1000) (hb : b ≠ rb) (hK : Strs K b n w) :
    Calls Tryz.prog 35 #[.pointer (some ⟨rb, 0, none⟩), .slice (some ⟨b, 0, none⟩) n cap] w (Drawn (StrTo K) 1 rb sv p w) := by
  go_enter Tryz.func35, Tryz.ntmps35
  go_wp2_with fail
  refine (pick_d rb sv p n w hs h hp ⟨by omega, by omega⟩).mono ?_
  rintro e W1 ⟨v, p1, ⟨k, rfl, k0, k1⟩, rfl, q0, q1, h1, -, m1⟩
  obtain ⟨j, rfl⟩ : ∃ j : Nat, k = (j : Int) := ⟨k.toNat, by omega⟩
  have hj : j < n := by omega
  obtain ⟨t, ht, ht2⟩ := m1.strs hb hK j hj
  go_wp2_with fail
  go_ret
  exact ⟨_, p1, ⟨t, rfl, ht2⟩, rfl, q0, q1, h1, hs.moved m1, m1⟩

theorem strs2 (w : World) (t : TypeId) : Strs 2 w.heap.size 2 (w.alloc (.cells #[.string ⟨#[48]⟩, .string ⟨#[49]⟩] t)) := by
  intro i hi
  match i, hi with
  | 0, _ => exact ⟨⟨#[48]⟩, by go_simp, by decide⟩
  | 1, _ => exact ⟨⟨#[49]⟩, by go_simp, by decide⟩
theorem strs7 (w : World) (t : TypeId) : Strs 2 w.heap.size 7 (w.alloc (.cells #[.string ⟨#[]⟩, .string ⟨#[48]⟩, .string ⟨#[48, 49]⟩, .string ⟨#[50]⟩, .string ⟨#[49, 32]⟩, .string ⟨#[48, 48]⟩, .string ⟨#[45, 49]⟩] t)) := by
  intro i hi
  match i, hi with
  | 0, _ => exact ⟨⟨#[]⟩, by go_simp, by decide⟩
  | 1, _ => exact ⟨⟨#[48]⟩, by go_simp, by decide⟩
  | 2, _ => exact ⟨⟨#[48, 49]⟩, by go_simp, by decide⟩
  | 3, _ => exact ⟨⟨#[50]⟩, by go_simp, by decide⟩
  | 4, _ => exact ⟨⟨#[49, 32]⟩, by go_simp, by decide⟩
  | 5, _ => exact ⟨⟨#[48, 48]⟩, by go_simp, by decide⟩
  | 6, _ => exact ⟨⟨#[45, 49]⟩, by go_simp, by decide⟩
def DrawRel (rb : Nat) (sv : Value) (p : Int) (n : Nat) (w : World) (m : Nat) (tv iv : Value) (wr : World) : Prop :=
  ∃ (i : Nat) (t : ByteArray) (p' : Int), i + m = n ∧ iv = .int .i64 i ∧ tv = .string t ∧ t.size ≤ 1 + 2 * i ∧ p ≤ p' ∧ p' ≤ p + i ∧ Rd rb sv p' wr ∧ Moved rb w wr
/-- what a draw of one text leaves -/
def OneText (w : World) (e : Ending) (w' : World) : Prop := ∃ t : ByteArray, e = .returned (.string t) ∧ t.size ≤ 400 ∧ Below w.heap.size w w'
end Go.Proofs.YtmdnfamjdogogaaGreatDoor

namespace Go.Proofs.YtmdnfamjdogogaaGreatDoor
set_option linter.unusedSimpArgs false
set_option linter.unusedVariables false
open Go.RowKit
/-- a world behind w that keeps all that stood in w -/
structure BelowW (w : World) where
  at' : World
  kept : Below w.heap.size w at'
theorem BelowW.none (w : World) : Nonempty (BelowW w) := ⟨⟨w, Below.refl _ _⟩⟩
theorem wp_region_below {P : Program} {id : Nat} {Q : Exit → Act → World → Prop} {a : Act} {w : World} {l : List Oper} (hm : P.follows .mixedOrders = true) (hB : Region.lexB .any l.toArray = true)
    (h : wpQuiet P l.toArray (fun w' => ∃ x : BelowW w, w' = x.at') (fun a' => ∀ w', (∃ x : BelowW w, w' = x.at') → Q .normal a' w') l a) : (Code.region id l.toArray true).wp P Q a w :=
  wp_region_quiet (C := fun w' => ∃ x : BelowW w, w' = x.at') hm hB ⟨⟨_, Blw.drew (Below.refl _ _)⟩, rfl⟩ (by simpa using h)
theorem Calls.below {P : Program} {f : FuncId} {args : Array Value} {w : World} {x : BelowW w} {v : Value}
    (h : Calls P f args x.at' fun e w' => e = .returned v ∧ Below x.at'.heap.size x.at' w') : Calls P f args x.at' fun e w'' => e = .returned v ∧ ∃ y : BelowW w, w'' = y.at' :=
  h.mono fun _ w1 ⟨he, hb⟩ => ⟨he, ⟨w1, Blw.after x.kept hb⟩, rfl⟩
end Go.Proofs.YtmdnfamjdogogaaGreatDoor

namespace Go.Proofs.YtmdnfamjdogogaaGreatDoor
set_option linter.unusedSimpArgs false
set_option linter.unusedVariables false
open Go.RowKit

def selW (b : Bool) (l : List UInt8) : ByteArray := if b then bs l else ⟨#[]⟩
abbrev strV (b : Bool) (l : List UInt8) : Value := .tuple #[.string (selW b l), .bool b]
theorem strV_t {b : Bool} (h : b = true) (l : List UInt8) : strV b l = .tuple #[.string (bs l), .bool true] := by rw [h]; rfl
theorem strV_f {b : Bool} (h : b = false) (l : List UInt8) : strV b l = .tuple #[.string ⟨#[]⟩, .bool false] := by rw [h]; rfl
theorem bsz (l : List UInt8) : (bs l).size = l.length := by rw [← toL_len, toL_bs]
theorem toL_app (s t : ByteArray) : toL (s ++ t) = toL s ++ toL t := by simp [toL, ByteArray.data_append]

/-! ### sums -/
def selZ (b : Bool) (n : Int) : Int := if b then n else 0
abbrev sumV (s : ByteArray) : Value := .tuple #[.int .i64 (selZ (wdB 1023 s) (sumL (toL s))), .bool (wdB 1023 s)]
theorem sumV_t {s : ByteArray} (h : wdB 1023 s = true) : sumV s = .tuple #[.int .i64 (sumL (toL s)), .bool true] := by unfold sumV; rw [h]; rfl
theorem sumV_f {s : ByteArray} (h : wdB 1023 s = false) : sumV s = .tuple #[.int .i64 0, .bool false] := by unfold sumV; rw [h]; rfl
theorem sum_step {s : ByteArray} {k : Nat} (hk : k < s.size) : sumL ((toL s).take (k + 1)) = sumL ((toL s).take k) + sgn s[k] := by
  rw [take_snocB s k hk, sumL_snoc]
theorem sum_up {s : ByteArray} {k : Nat} (hk : k < s.size) (h : s[k].toNat = 108) : sumL ((toL s).take (k + 1)) = sumL ((toL s).take k) + 1 := by
  rw [sum_step hk, show s[k] = 108 from UInt8.toNat_inj.1 (by rw [h]; rfl)]; rfl
theorem sum_down {s : ByteArray} {k : Nat} (hk : k < s.size) (h : s[k].toNat ≠ 108) : sumL ((toL s).take (k + 1)) = sumL ((toL s).take k) - 1 := by
  rw [sum_step hk]
  have : sgn s[k] = -1 := by unfold sgn; rw [if_neg (fun e => h (by rw [e]; rfl))]
  rw [this]; omega
theorem sum_at (s : ByteArray) (k : Nat) (h : s.size ≤ 1023) : -1023 ≤ sumL ((toL s).take k) ∧ sumL ((toL s).take k) ≤ 1023 := by
  have := sumL_in ((toL s).take k)
  have hl : ((toL s).take k).length ≤ s.size := by rw [List.length_take, toL_len]; omega
  omega
def ISumRel (s : ByteArray) (w1 : World) (m : Nat) (v : Value) (wr : World) : Prop :=
  ∃ k : Nat, k + m = s.size ∧ v = .int .i64 (sumL ((toL s).take k)) ∧ wr = w1.iter s k
def SSumRel (s : ByteArray) (w : World) (m : Nat) (v i : Value) (wr : World) : Prop :=
  ∃ k : Nat, k + m = s.size ∧ v = .int .i64 (sumL ((toL s).take k)) ∧ i = .int .i64 k ∧ wr = w
/-! ### unfolded -/
def unfB (s c : ByteArray) : Bool := wdB 511 s && (toL c == [108] || toL c == [114])
abbrev unfV (s c : ByteArray) : Value := strV (unfB s c) (toL s ++ toL c ++ backL (toL s))
theorem unfV_t {s c : ByteArray} (h : unfB s c = true) : unfV s c = .tuple #[.string (bs (toL s ++ toL c ++ backL (toL s))), .bool true] := strV_t h _
theorem unfV_f {s c : ByteArray} (h : unfB s c = false) : unfV s c = .tuple #[.string ⟨#[]⟩, .bool false] := strV_f h _
theorem unfB_no {s c : ByteArray} (h : wdB 511 s = false) : unfB s c = false := by unfold unfB; rw [h]; rfl
theorem unfB_c {s c : ByteArray} (h1 : (toL c == [108]) = false) (h2 : (toL c == [114]) = false) : unfB s c = false := by unfold unfB; rw [h1, h2]; simp
theorem unfB_yes {s c : ByteArray} (h : wdB 511 s = true) (hc : (toL c == [108]) = true ∨ (toL c == [114]) = true) : unfB s c = true := by
  unfold unfB; rw [h]; rcases hc with h | h <;> rw [h] <;> simp
theorem wdB_more {s : ByteArray} (h : wdB 511 s = true) : wdB 1023 s = true := by
  rw [wdB_of (by have := wdB_len h; omega)]; exact wdB_only h
theorem wdB_less {s : ByteArray} (h : wdB 1023 s = true) (h5 : s.size ≤ 511) : wdB 511 s = true := by
  rw [wdB_of h5]; exact wdB_only h
theorem wdB_not {s : ByteArray} (h : wdB 1023 s = false) : wdB 511 s = false := by
  rw [← Bool.not_eq_true] at h ⊢; exact fun e => h (wdB_more e)
theorem one_size {c : ByteArray} {a : UInt8} (h : (toL c == [a]) = true) : c.size = 1 := by rw [← toL_len, eq_of_beq h]; rfl
theorem unf_str (s c : ByteArray) : s ++ c ++ bs (backL (toL s)) = bs (toL s ++ toL c ++ backL (toL s)) := toL_ext (by rw [toL_app, toL_app, toL_bs, toL_bs])
end Go.Proofs.YtmdnfamjdogogaaGreatDoor

namespace Go.Proofs.YtmdnfamjdogogaaGreatDoor
set_option linter.unusedSimpArgs false
set_option linter.unusedVariables false
open Go.RowKit

theorem wdB_one {c : ByteArray} (h : wdB 1 c = true) (hne : ¬ c.toList = []) : (toL c == [108]) = true ∨ (toL c == [114]) = true := by
  have h1 := wdB_len h
  have h2 := wdB_all h
  rw [toList_toL] at hne
  rw [← toL_len] at h1
  generalize toL c = l at *
  cases l with
  | nil => exact absurd rfl hne
  | cons a r =>
    cases r with
    | nil => rcases wdC_or (h2 a (by simp)) with rfl | rfl <;> simp
    | cons b r => simp at h1
theorem wdB_oneR {c : ByteArray} (h : (toL c == [108]) = true ∨ (toL c == [114]) = true) : wdB 1 c = true := by
  rw [wdB_of (by rcases h with h | h <;> rw [← toL_len, eq_of_beq h] <;> simp)]
  refine onlyW_good fun a ha => ?_
  rcases h with h | h <;> rw [eq_of_beq h] at ha <;> simp at ha <;> rw [ha] <;> rfl
theorem unfB_bad {s c : ByteArray} (h : wdB 1 c = false) : unfB s c = false := by
  unfold unfB
  rw [Bool.and_eq_false_iff]
  right
  rw [← Bool.not_eq_true, Bool.or_eq_true]
  intro e
  rw [wdB_oneR e] at h
  cases h
theorem unfB_empty {s c : ByteArray} (h : c.toList = []) : unfB s c = false := by
  rw [toList_toL] at h
  unfold unfB
  rw [h]; simp
/-! ### words of turns -/
def STwRel (s : ByteArray) (w : World) (m : Nat) (v i : Value) (wr : World) : Prop :=
  ∃ (k : Nat) (t : ByteArray), k + m = s.size ∧ v = .string t ∧ toL t = turnsL ((toL s).take k) ∧ i = .int .i64 k ∧ Below w.heap.size w wr
abbrev twV (s : ByteArray) : Value := strV (wdB 10 s) (turnsL (toL s))
theorem twV_t {s : ByteArray} (h : wdB 10 s = true) : twV s = .tuple #[.string (bs (turnsL (toL s))), .bool true] := strV_t h _
theorem twV_f {s : ByteArray} (h : wdB 10 s = false) : twV s = .tuple #[.string ⟨#[]⟩, .bool false] := strV_f h _
set_option maxRecDepth 100000 in
set_option maxHeartbeats 4000000 in
theorem sTurnWord_c (s : ByteArray) (w : World) : Calls Tryz.prog 55 #[.string s] w fun e w' => e = .returned (twV s) ∧ Below w.heap.size w w' := by
  rcases Bool.eq_false_or_eq_true (wdB 10 s) with h | h
  · have H := Lib.hid (twV_t h)
    have HW := Lib.hid h
    have hsz := wdB_len h
    go_enter Tryz.func55, Tryz.ntmps55
    go_wp2_with (first | (go_at_call 36; refine (l4Word_c _ 10 _ (by decide)).mono ?_; rintro e w1 ⟨rfl, rfl⟩))
    clear h
    go_loopg [4, 5] s.size (fun m v i wr => STwRel s w m v i wr)
    case atStart => exact ⟨0, ⟨#[]⟩, by omega, rfl, rfl, rfl, Below.refl _ _⟩
    case round =>
      obtain ⟨k, t, hk, rfl, ht, rfl, hB⟩ := hrel
      by_cases hlt : k < s.size
      · have hl := turnsL_len ((toL s).take k)
        rw [List.length_take, toL_len, Nat.min_eq_left (by omega)] at hl
        have hp : 2 ^ k ≤ 2 ^ 10 := Nat.pow_le_pow_right (by omega) (by omega)
        have hp2 : (2 : Nat) ^ 10 = 1024 := by decide
        have hts : t.size ≤ 1023 := by rw [← toL_len, ht]; omega
        have HE := extract_one s k hlt
        have z2 : (s.extract k (k + 1)).size = 1 := by rw [← toL_len, HE]; rfl
        have z3 : (bs (backL (toL t))).size = t.size := by rw [bsz, backL_len, toL_len]
        have z1 : (t ++ s.extract k (k + 1)).size = t.size + 1 := by rw [ByteArray.size_append, z2]
        have HS := Lib.hid (show toL (t ++ s.extract k (k + 1) ++ bs (backL (toL t))) = turnsL ((toL s).take (k + 1)) by
          rw [toL_app, toL_app, toL_bs, HE, take_snocB s k hlt, turnsL_snoc, ht])
        have q1 : ¬ (9223372036854775807 < t.size + 1) := by omega
        have q2 : ¬ (9223372036854775807 < t.size + 1 + t.size) := by omega
        obtain ⟨K, hK⟩ : ∃ K, K = k + 1 := ⟨_, rfl⟩
        have HK := Lib.hid hK
        rw [← hK] at z1 z2 HS
        have q0 : IntKind.i64.wrap ((K : Nat) : Int) = (K : Int) := by rw [IntKind.wrap_i64]; omega
        have hKk : k ≤ K := by omega
        have hKs : K ≤ s.size := by omega
        have q3 : (k : Int) + 1 = (K : Nat) := by omega
        clear hl hp hp2 ht HE hK
        go_upto_region 7 with fail
        have hNE : ∀ w, Nonempty (BelowW w) := BelowW.none
        refine wp_region_below (by kernel_rfl) (by kernel_rfl) ?_
        repeat
          (with_reducible refine wpQuiet_step ?_
           intro K hK
           go_simp
           first
             | (refine hK _ ?_; clear hK K)
             | (apply Exists.intro
                refine ⟨fun xW => ?_, hK _ ?_⟩
                ((go_at_call 79; exact Calls.below (sBack_c _ _ (by omega))))
                clear hK K))
        with_reducible refine wpQuiet_nil ?_
        rintro _ ⟨⟨w2, hb2⟩, rfl⟩
        try dsimp only
        go_wp2_with fail
        go_roundg (gk - 1)
        case measure => omega
        case rel => exact ⟨K, _, by have := HK.out; omega, rfl, HS.out, by first | rfl | (have := HK.out; go_num), by (first | ((repeat' with_reducible first | assumption | exact Below.refl _ _ | apply Blw.alloc | apply Blw.drew | apply Blw.drewN | (refine Blw.after ?_ (by assumption)) | (refine Blw.set ?_ (by first | (dsimp only; omega) | (simp; omega)) _)); done) | (repeat' (first | assumption | exact Below.refl _ _ | apply Blw.alloc | apply Blw.drew | apply Blw.drewN | (refine Blw.after ?_ (by assumption)) | (refine Blw.set ?_ (by first | (dsimp only; omega) | (simp; done) | (simp; omega)) _))))⟩
      · have HS := Lib.hid (show t = bs (turnsL (toL s)) from toL_ext (by rw [toL_bs, ht, take_allB s k (by omega)]))
        go_wp2
        go_ret2
        exact ⟨by rw [H.out, ← HS.out]; rfl, hB⟩
  · have H := Lib.hid (twV_f h)
    go_enter Tryz.func55, Tryz.ntmps55
    go_wp2_with (first | (go_at_call 36; refine (l4Word_c _ 10 _ (by decide)).mono ?_; rintro e w1 ⟨rfl, rfl⟩))
    go_ret2
    exact ⟨by rw [H.out]; rfl, by (first | ((repeat' with_reducible first | assumption | exact Below.refl _ _ | apply Blw.alloc | apply Blw.drew | apply Blw.drewN | (refine Blw.after ?_ (by assumption)) | (refine Blw.set ?_ (by first | (dsimp only; omega) | (simp; omega)) _)); done) | (repeat' (first | assumption | exact Below.refl _ _ | apply Blw.alloc | apply Blw.drew | apply Blw.drewN | (refine Blw.after ?_ (by assumption)) | (refine Blw.set ?_ (by first | (dsimp only; omega) | (simp; done) | (simp; omega)) _))))⟩
end Go.Proofs.YtmdnfamjdogogaaGreatDoor

namespace Go.Proofs.YtmdnfamjdogogaaGreatDoor
set_option linter.unusedSimpArgs false
set_option linter.unusedVariables false
open Go.RowKit

theorem strsLR (w : World) (t : TypeId) : Strs 2 w.heap.size 2 (w.alloc (.cells #[.string ⟨#[108]⟩, .string ⟨#[114]⟩] t)) := by
  intro i hi
  match i, hi with
  | 0, _ => exact ⟨⟨#[108]⟩, by go_simp, by decide⟩
  | 1, _ => exact ⟨⟨#[114]⟩, by go_simp, by decide⟩
theorem strsX (w : World) (t : TypeId) : Strs 2 w.heap.size 3 (w.alloc (.cells #[.string ⟨#[120]⟩, .string ⟨#[32]⟩, .string ⟨#[76]⟩] t)) := by
  intro i hi
  match i, hi with
  | 0, _ => exact ⟨⟨#[120]⟩, by go_simp, by decide⟩
  | 1, _ => exact ⟨⟨#[32]⟩, by go_simp, by decide⟩
  | 2, _ => exact ⟨⟨#[76]⟩, by go_simp, by decide⟩
theorem strsC (w : World) (t : TypeId) : Strs 2 w.heap.size 3 (w.alloc (.cells #[.string ⟨#[]⟩, .string ⟨#[108, 108]⟩, .string ⟨#[120]⟩] t)) := by
  intro i hi
  match i, hi with
  | 0, _ => exact ⟨⟨#[]⟩, by go_simp, by decide⟩
  | 1, _ => exact ⟨⟨#[108, 108]⟩, by go_simp, by decide⟩
  | 2, _ => exact ⟨⟨#[120]⟩, by go_simp, by decide⟩
def WDrawRel (rb : Nat) (sv : Value) (p : Int) (n : Nat) (w : World) (m : Nat) (tv iv : Value) (wr : World) : Prop :=
  ∃ (i : Nat) (t : ByteArray) (p' : Int), i + m = n ∧ iv = .int .i64 i ∧ tv = .string t ∧ t.size ≤ 2 * i ∧ p ≤ p' ∧ p' ≤ p + i ∧ Rd rb sv p' wr ∧ Moved rb w wr
set_option maxHeartbeats 4000000 in
theorem l92Word_k (rb : Nat) (sv : Value) (p : Int) (most : Nat) (w : World) (hs : Src sv rb w) (h : Rd rb sv p w) (hp : 0 ≤ p ∧ p ≤ 1000) (hm : most ≤ 100) :
    Calls Tryz.prog 20 #[.pointer (some ⟨rb, 0, none⟩), .int .i64 most] w (Drawn (StrTo (2 * most + 2)) 110 rb sv p w) := by
  have hrb : rb < w.heap.size := World.block_lt_of_cell? w _ h.1
  go_enter Tryz.func20, Tryz.ntmps20
  go_wp2_with fail
  refine (pick_d rb sv p (most + 1) w hs h ⟨by omega, by omega⟩ ⟨by omega, by omega⟩).mono ?_
  rintro e W1 ⟨v, p1, ⟨k, rfl, k0, k1⟩, rfl, q0, q1, h1, -, m1⟩
  obtain ⟨n, rfl⟩ : ∃ n : Nat, k = (n : Int) := ⟨k.toNat, by omega⟩
  have hn : n ≤ most := by omega
  have S0 := Lib.hid (show WDrawRel rb sv p1 n W1 n (.string ⟨#[]⟩) (.int .i64 0) W1 from ⟨0, ⟨#[]⟩, p1, by omega, rfl, rfl, by decide, by omega, by omega, h1, Moved.refl _ _⟩)
  have HS := Lib.hid hs
  have M1 := Lib.hid m1
  clear h h1 m1 hs
  go_wp2_with fail
  go_loopg [5, 7] n (fun m tv iv wr => WDrawRel rb sv p1 n W1 m tv iv wr)
  case atStart => exact S0.out
  case round =>
    clear S0
    obtain ⟨i, t, p2, hi, rfl, rfl, ht, r0, r1, h2, m2⟩ := hrel
    have M2 := Lib.hid (M1.out.trans m2)
    have m2' := Lib.hid m2
    have H2 := Lib.hid h2
    have z2 : rb < wr.heap.size := Nat.lt_of_lt_of_le hrb M2.out.1
    clear m2 h2
    by_cases hin : i < n
    · go_wp2_with fail
      have m0 := (Moved.refl rb wr).alloc (.cells #[.string ⟨#[108]⟩, .string ⟨#[114]⟩] 9)
      have hk := (Below.refl wr.heap.size wr).alloc (Nat.le_refl _) (.cells #[.string ⟨#[108]⟩, .string ⟨#[114]⟩] 9)
      have z0 : wr.heap.size ≠ rb := Nat.ne_of_gt z2
      refine (of_c rb sv p2 2 wr.heap.size 2 2 _ ((HS.out.moved M2.out).moved m0) (H2.out.keep hk) ⟨by omega, by omega⟩ ⟨by omega, by omega⟩ z0 (strsLR wr _)).mono ?_
      rintro e W3 ⟨v, p3, ⟨u, rfl, hu⟩, rfl, s0, s1, h3, -, m3⟩
      have M3 := Lib.hid (m2'.out.trans (m0.trans m3))
      have HT := Lib.hid (show (t ++ u).size ≤ 2 * (i + 1) by rw [ByteArray.size_append]; omega)
      have H3 := Lib.hid h3
      clear m0 hk z0 h3 m3
      go_wp2_with fail
      go_roundg (gk - 1)
      case measure => omega
      case rel => exact ⟨i + 1, t ++ u, p3, by omega, by go_num, rfl, HT.out, by omega, by omega, H3.out, M3.out⟩
    · go_wp2_with fail
      refine (pick_d rb sv p2 20 wr (HS.out.moved M2.out) H2.out ⟨by omega, by omega⟩ ⟨by omega, by omega⟩).mono ?_
      rintro e W3 ⟨v, p3, ⟨c, rfl, c0, c1⟩, rfl, s0, s1, h3, -, m3⟩
      have M3 := Lib.hid (M2.out.trans m3)
      have H3 := Lib.hid h3
      have z3 : rb < W3.heap.size := Nat.lt_of_lt_of_le hrb M3.out.1
      clear h3 m3
      have fin : ∀ (t : ByteArray) (w' : World) (p' : Int), t.size ≤ 2 * most + 2 → p ≤ p' → p' ≤ p + 110 → Rd rb sv p' w' → Moved rb w w' → Drawn (StrTo (2 * most + 2)) 110 rb sv p w (.returned (.string t)) w' :=
        fun t w' p' ht hp1 hp2 hr hm => ⟨_, p', ⟨t, rfl, ht⟩, rfl, hp1, hp2, hr, HS.out.moved hm, hm⟩
      by_cases e0 : c = 0
      · subst e0
        go_wp2_with fail
        have hk := (Below.refl W3.heap.size W3).alloc (Nat.le_refl _) (.cells #[.string ⟨#[120]⟩, .string ⟨#[32]⟩, .string ⟨#[76]⟩] 9)
        have m0 := (Moved.refl rb W3).below hk
        have z0 : W3.heap.size ≠ rb := Nat.ne_of_gt z3
        refine (of_c rb sv p3 2 W3.heap.size 3 3 _ ((HS.out.moved M3.out).moved m0) (H3.out.keep hk) ⟨by omega, by omega⟩ ⟨by omega, by omega⟩ z0 (strsX W3 _)).mono ?_
        rintro e W4 ⟨v, p4, ⟨u, rfl, hu⟩, rfl, y0, y1, h4, -, m4⟩
        have M4 := Lib.hid (M3.out.trans (m0.trans m4))
        have H4 := Lib.hid h4
        have hsz : (t ++ u).size ≤ 2 * most + 2 := by rw [ByteArray.size_append]; omega
        clear m0 hk z0 h4 m4
        go_wp2_with fail
        go_ret
        exact fin (t ++ u) _ p4 hsz (by omega) (by omega) H4.out M4.out
      · go_wp2_with fail
        go_ret
        exact fin t _ p3 (by omega) (by omega) (by omega) H3.out M3.out
theorem l92Word_c (rb : Nat) (sv : Value) (p most : Int) (w : World) (hs : Src sv rb w) (h : Rd rb sv p w) (hp : 0 ≤ p ∧ p ≤ 1000) (hm : 0 ≤ most ∧ most ≤ 100) :
    Calls Tryz.prog 20 #[.pointer (some ⟨rb, 0, none⟩), .int .i64 most] w (Drawn (StrTo 400) 110 rb sv p w) := by
  obtain ⟨m, rfl⟩ : ∃ m : Nat, most = (m : Int) := ⟨most.toNat, by omega⟩
  refine (l92Word_k rb sv p m w hs h hp (by omega)).mono ?_
  rintro e w' ⟨v, p', ⟨t, rfl, ht⟩, h1, h2, h3, h4, h5, h6⟩
  exact ⟨_, p', ⟨t, rfl, by omega⟩, h1, h2, h3, h4, h5, h6⟩

/-- what a draw of one text of at most 1100 bytes leaves -/
def OneTextW (w : World) (e : Ending) (w' : World) : Prop := ∃ t : ByteArray, e = .returned (.string t) ∧ t.size ≤ 1100 ∧ Below w.heap.size w w'
theorem twV_size (t : ByteArray) : (selW (wdB 10 t) (turnsL (toL t))).size ≤ 1100 := by
  rcases Bool.eq_false_or_eq_true (wdB 10 t) with h | h
  · have hl := turnsL_len (toL t)
    have hs := wdB_len h
    have hp : 2 ^ (toL t).length ≤ 2 ^ 10 := Nat.pow_le_pow_right (by omega) (by rw [toL_len]; exact hs)
    have : (2 : Nat) ^ 10 = 1024 := by decide
    unfold selW
    rw [h, if_pos rfl, bsz]; omega
  · unfold selW; rw [h]; exact Nat.zero_le _
end Go.Proofs.YtmdnfamjdogogaaGreatDoor

namespace Go.Proofs.YtmdnfamjdogogaaGreatDoor
set_option linter.unusedSimpArgs false
set_option linter.unusedVariables false
open Go.RowKit

theorem strs1LR (w : World) (t : TypeId) : Strs 1 w.heap.size 2 (w.alloc (.cells #[.string ⟨#[108]⟩, .string ⟨#[114]⟩] t)) := by
  intro i hi
  match i, hi with
  | 0, _ => exact ⟨⟨#[108]⟩, by go_simp, by decide⟩
  | 1, _ => exact ⟨⟨#[114]⟩, by go_simp, by decide⟩
theorem strs1X (w : World) (t : TypeId) : Strs 1 w.heap.size 3 (w.alloc (.cells #[.string ⟨#[120]⟩, .string ⟨#[32]⟩, .string ⟨#[76]⟩] t)) := by
  intro i hi
  match i, hi with
  | 0, _ => exact ⟨⟨#[120]⟩, by go_simp, by decide⟩
  | 1, _ => exact ⟨⟨#[32]⟩, by go_simp, by decide⟩
  | 2, _ => exact ⟨⟨#[76]⟩, by go_simp, by decide⟩
def WDrawRel1 (rb : Nat) (sv : Value) (p : Int) (n : Nat) (w : World) (m : Nat) (tv iv : Value) (wr : World) : Prop :=
  ∃ (i : Nat) (t : ByteArray) (p' : Int), i + m = n ∧ iv = .int .i64 i ∧ tv = .string t ∧ t.size ≤ i ∧ p ≤ p' ∧ p' ≤ p + i ∧ Rd rb sv p' wr ∧ Moved rb w wr
set_option maxHeartbeats 4000000 in
theorem l92Word_s (rb : Nat) (sv : Value) (p : Int) (most : Nat) (w : World) (hs : Src sv rb w) (h : Rd rb sv p w) (hp : 0 ≤ p ∧ p ≤ 1000) (hm : most ≤ 100) :
    Calls Tryz.prog 20 #[.pointer (some ⟨rb, 0, none⟩), .int .i64 most] w (Drawn (StrTo (most + 1)) 110 rb sv p w) := by
  have hrb : rb < w.heap.size := World.block_lt_of_cell? w _ h.1
  go_enter Tryz.func20, Tryz.ntmps20
  go_wp2_with fail
  refine (pick_d rb sv p (most + 1) w hs h ⟨by omega, by omega⟩ ⟨by omega, by omega⟩).mono ?_
  rintro e W1 ⟨v, p1, ⟨k, rfl, k0, k1⟩, rfl, q0, q1, h1, -, m1⟩
  obtain ⟨n, rfl⟩ : ∃ n : Nat, k = (n : Int) := ⟨k.toNat, by omega⟩
  have hn : n ≤ most := by omega
  have S0 := Lib.hid (show WDrawRel1 rb sv p1 n W1 n (.string ⟨#[]⟩) (.int .i64 0) W1 from ⟨0, ⟨#[]⟩, p1, by omega, rfl, rfl, by decide, by omega, by omega, h1, Moved.refl _ _⟩)
  have HS := Lib.hid hs
  have M1 := Lib.hid m1
  clear h h1 m1 hs
  go_wp2_with fail
  go_loopg [5, 7] n (fun m tv iv wr => WDrawRel1 rb sv p1 n W1 m tv iv wr)
  case atStart => exact S0.out
  case round =>
    clear S0
    obtain ⟨i, t, p2, hi, rfl, rfl, ht, r0, r1, h2, m2⟩ := hrel
    have M2 := Lib.hid (M1.out.trans m2)
    have m2' := Lib.hid m2
    have H2 := Lib.hid h2
    have z2 : rb < wr.heap.size := Nat.lt_of_lt_of_le hrb M2.out.1
    clear m2 h2
    by_cases hin : i < n
    · go_wp2_with fail
      have m0 := (Moved.refl rb wr).alloc (.cells #[.string ⟨#[108]⟩, .string ⟨#[114]⟩] 9)
      have hk := (Below.refl wr.heap.size wr).alloc (Nat.le_refl _) (.cells #[.string ⟨#[108]⟩, .string ⟨#[114]⟩] 9)
      have z0 : wr.heap.size ≠ rb := Nat.ne_of_gt z2
      refine (of_c rb sv p2 1 wr.heap.size 2 2 _ ((HS.out.moved M2.out).moved m0) (H2.out.keep hk) ⟨by omega, by omega⟩ ⟨by omega, by omega⟩ z0 (strs1LR wr _)).mono ?_
      rintro e W3 ⟨v, p3, ⟨u, rfl, hu⟩, rfl, s0, s1, h3, -, m3⟩
      have M3 := Lib.hid (m2'.out.trans (m0.trans m3))
      have HT := Lib.hid (show (t ++ u).size ≤ i + 1 by rw [ByteArray.size_append]; omega)
      have H3 := Lib.hid h3
      clear m0 hk z0 h3 m3
      go_wp2_with fail
      go_roundg (gk - 1)
      case measure => omega
      case rel => exact ⟨i + 1, t ++ u, p3, by omega, by go_num, rfl, HT.out, by omega, by omega, H3.out, M3.out⟩
    · go_wp2_with fail
      refine (pick_d rb sv p2 20 wr (HS.out.moved M2.out) H2.out ⟨by omega, by omega⟩ ⟨by omega, by omega⟩).mono ?_
      rintro e W3 ⟨v, p3, ⟨c, rfl, c0, c1⟩, rfl, s0, s1, h3, -, m3⟩
      have M3 := Lib.hid (M2.out.trans m3)
      have H3 := Lib.hid h3
      have z3 : rb < W3.heap.size := Nat.lt_of_lt_of_le hrb M3.out.1
      clear h3 m3
      have fin : ∀ (t : ByteArray) (w' : World) (p' : Int), t.size ≤ most + 1 → p ≤ p' → p' ≤ p + 110 → Rd rb sv p' w' → Moved rb w w' → Drawn (StrTo (most + 1)) 110 rb sv p w (.returned (.string t)) w' :=
        fun t w' p' ht hp1 hp2 hr hm => ⟨_, p', ⟨t, rfl, ht⟩, rfl, hp1, hp2, hr, HS.out.moved hm, hm⟩
      by_cases e0 : c = 0
      · subst e0
        go_wp2_with fail
        have hk := (Below.refl W3.heap.size W3).alloc (Nat.le_refl _) (.cells #[.string ⟨#[120]⟩, .string ⟨#[32]⟩, .string ⟨#[76]⟩] 9)
        have m0 := (Moved.refl rb W3).below hk
        have z0 : W3.heap.size ≠ rb := Nat.ne_of_gt z3
        refine (of_c rb sv p3 1 W3.heap.size 3 3 _ ((HS.out.moved M3.out).moved m0) (H3.out.keep hk) ⟨by omega, by omega⟩ ⟨by omega, by omega⟩ z0 (strs1X W3 _)).mono ?_
        rintro e W4 ⟨v, p4, ⟨u, rfl, hu⟩, rfl, y0, y1, h4, -, m4⟩
        have M4 := Lib.hid (M3.out.trans (m0.trans m4))
        have H4 := Lib.hid h4
        have hsz : (t ++ u).size ≤ most + 1 := by rw [ByteArray.size_append]; omega
        clear m0 hk z0 h4 m4
        go_wp2_with fail
        go_ret
        exact fin (t ++ u) _ p4 hsz (by omega) (by omega) H4.out M4.out
      · go_wp2_with fail
        go_ret
        exact fin t _ p3 (by omega) (by omega) (by omega) H3.out M3.out
/-- a word of turns of few creases is short -/
theorem twV_short {k : Nat} (t : ByteArray) (h : t.size ≤ k) : (selW (wdB 10 t) (turnsL (toL t))).size + 1 ≤ 2 ^ k := by
  rcases Bool.eq_false_or_eq_true (wdB 10 t) with h1 | h1
  · have hl := turnsL_len (toL t)
    have hp : 2 ^ (toL t).length ≤ 2 ^ k := Nat.pow_le_pow_right (by omega) (by rw [toL_len]; exact h)
    unfold selW
    rw [h1, if_pos rfl, bsz]; omega
  · unfold selW; rw [h1]
    have := Nat.two_pow_pos k
    show 0 + 1 ≤ _
    omega
/-- what a draw of one text of at most 127 bytes leaves -/
def OneTextS (w : World) (e : Ending) (w' : World) : Prop := ∃ t : ByteArray, e = .returned (.string t) ∧ t.size ≤ 127 ∧ Below w.heap.size w w'
end Go.Proofs.YtmdnfamjdogogaaGreatDoor

namespace Go.Proofs.YtmdnfamjdogogaaGreatDoor
set_option linter.unusedSimpArgs false
set_option linter.unusedVariables false
open Go.RowKit Ieee

def FlOk (v : Value) : Prop := ∃ x, v = .float .f32 x ∧ Nn x
def StOk (v : Value) : Prop := ∃ p, v = encW p ∧ Nn2 p
def qvOk (k : Nat) : Bool := match floatBits .quo .f32 (floatOfInt .f32 ((k : Int) - 20)) 1082130432 with | some r => decide (r < 4294967296) && !(single.read r).isNaN | none => false
theorem qv_all : (List.range 41).all qvOk = true := by decide +kernel
theorem qv {a : Int} (h : -20 ≤ a ∧ a ≤ 20) : ∃ r, floatBits .quo .f32 (floatOfInt .f32 a) 1082130432 = some r ∧ Nn r := by
  have h1 := List.all_eq_true.1 qv_all (a + 20).toNat (List.mem_range.2 (by omega))
  unfold qvOk at h1
  rw [show (((a + 20).toNat : Nat) : Int) - 20 = a by omega] at h1
  cases hq : floatBits .quo .f32 (floatOfInt .f32 a) 1082130432 with
  | none => rw [hq] at h1; cases h1
  | some r =>
    rw [hq] at h1
    simp only [Bool.and_eq_true, decide_eq_true_eq, Bool.not_eq_true'] at h1
    exact ⟨r, rfl, h1.1, h1.2⟩
theorem negz32 : Op.negFloat .f32 0 = 2147483648 := by decide +kernel
theorem negz_run (w : World) : (Op.unary UnOp.neg (.float .f32 0)).run Tryz.prog w = .ok (.float .f32 2147483648) w := by
  simp [Op.unary, negz32]
theorem nzm : floatBits .mul .f32 2147483648 1065353216 = some 2147483648 := by decide +kernel
theorem infz : floatBits .quo .f32 1065353216 0 = some 2139095040 := by decide +kernel
theorem nn_nz : Nn 2147483648 := ⟨by decide, by decide +kernel⟩
theorem nn_lit : Nn 0 ∧ Nn 1 ∧ Nn 2139095040 ∧ Nn 713624 ∧ Nn 1065353216 := ⟨⟨by decide, by decide +kernel⟩, ⟨by decide, by decide +kernel⟩, ⟨by decide, by decide +kernel⟩, ⟨by decide, by decide +kernel⟩, ⟨by decide, by decide +kernel⟩⟩
set_option maxRecDepth 100000 in
set_option maxHeartbeats 4000000 in
theorem l92Float_c (rb : Nat) (sv : Value) (p : Int) (w : World) (hs : Src sv rb w) (h : Rd rb sv p w) (hp : 0 ≤ p ∧ p ≤ 1000) :
    Calls Tryz.prog 39 #[.pointer (some ⟨rb, 0, none⟩)] w (Drawn FlOk 2 rb sv p w) := by
  go_enter Tryz.func39, Tryz.ntmps39
  go_wp2_with fail
  refine (pick_d rb sv p 10 w hs h ⟨by omega, by omega⟩ ⟨by omega, by omega⟩).mono ?_
  rintro e W1 ⟨v, p1, ⟨k, rfl, k0, k1⟩, rfl, q0, q1, h1, hs1, m1⟩
  have FIN := Lib.hid (fun x (hx : Nn x) => (show Drawn FlOk 2 rb sv p w (.returned (.float .f32 x)) W1 from ⟨_, p1, ⟨x, rfl, hx⟩, rfl, q0, by omega, h1, hs1, m1⟩))
  clear hs h
  by_cases e0 : k = 0
  · subst e0
    have f1 := negz_run
    have f2 := fun w => run_float_arith (P := Tryz.prog) w .mul 40 .f32 _ _ _ nzm
    go_wp2_with fail
    go_ret
    exact FIN.out _ nn_nz
  by_cases e1 : k = 1
  · subst e1
    go_wp2_with fail
    go_ret
    exact FIN.out _ nn_lit.2.1
  by_cases e2 : k = 2
  · subst e2
    have f2 := fun w => run_float_arith (P := Tryz.prog) w .quo 40 .f32 _ _ _ infz
    go_wp2_with fail
    go_ret
    exact FIN.out _ nn_lit.2.2.1
  by_cases e3 : k = 3
  · subst e3
    go_wp2_with fail
    go_ret
    exact FIN.out _ nn_lit.2.2.2.1
  · have x0 : (k == 0) = false := by simp [e0]
    have x1 : (k == 1) = false := by simp [e1]
    have x2 : (k == 2) = false := by simp [e2]
    have x3 : (k == 3) = false := by simp [e3]
    clear e0 e1 e2 e3 FIN
    go_wp2_with fail
    refine (pick_d rb sv p1 41 W1 hs1 h1 ⟨by omega, by omega⟩ ⟨by omega, by omega⟩).mono ?_
    rintro e W2 ⟨v, p2, ⟨y, rfl, y0, y1⟩, rfl, r0, r1, h2, hs2, m2⟩
    obtain ⟨r, hq, hr⟩ := qv (a := y - 20) ⟨by omega, by omega⟩
    have f2 := fun w => run_float_arith (P := Tryz.prog) w .quo 40 .f32 _ _ _ hq
    have f3 : IntKind.i64.wrap (y - 20) = y - 20 := IntWalk.i64_in _ (by omega)
    have FIN := Lib.hid (show Drawn FlOk 2 rb sv p w (.returned (.float .f32 r)) W2 from ⟨_, p2, ⟨r, rfl, hr⟩, rfl, by omega, by omega, h2, hs2, m1.trans m2⟩)
    clear hq hr
    go_wp2_with fail
    go_ret
    exact FIN.out
set_option maxHeartbeats 4000000 in
theorem l92Start_c (rb : Nat) (sv : Value) (p : Int) (w : World) (hs : Src sv rb w) (h : Rd rb sv p w) (hp : 0 ≤ p ∧ p ≤ 900) :
    Calls Tryz.prog 22 #[.pointer (some ⟨rb, 0, none⟩)] w (Drawn StOk 4 rb sv p w) := by
  go_enter Tryz.func22, Tryz.ntmps22
  go_wp2_with fail
  refine (l92Float_c rb sv p w hs h ⟨by omega, by omega⟩).mono ?_
  rintro e W1 ⟨v, p1, ⟨x, rfl, hx⟩, rfl, q0, q1, h1, hs1, m1⟩
  go_wp2_with fail
  refine (l92Float_c rb sv p1 W1 hs1 h1 ⟨by omega, by omega⟩).mono ?_
  rintro e W2 ⟨v, p2, ⟨y, rfl, hy⟩, rfl, r0, r1, h2, hs2, m2⟩
  have FIN := Lib.hid (show Drawn StOk 4 rb sv p w (.returned (.complex .f32 x y)) W2 from ⟨_, p2, ⟨(x, y), rfl, hx, hy⟩, rfl, by omega, by omega, h2, hs2, m1.trans m2⟩)
  go_wp2_with fail
  go_ret
  exact FIN.out
end Go.Proofs.YtmdnfamjdogogaaGreatDoor

namespace Go.Proofs.YtmdnfamjdogogaaGreatDoor
set_option linter.unusedSimpArgs false
set_option linter.unusedVariables false
open Go.RowKit Ieee

theorem quarter_l (w : World) : Calls Tryz.prog 97 #[.int .i32 108] w fun e w' => e = .returned (.complex .f32 0 1065353216) ∧ w = w' := by
  go_enter Tryz.func97, Tryz.ntmps97
  go_wp2
  go_ret
  exact ⟨rfl, rfl⟩
theorem quarter_r (c : Int) (w : World) (h : c ≠ 108) : Calls Tryz.prog 97 #[.int .i32 c] w fun e w' => e = .returned (.complex .f32 0 3212836864) ∧ w = w' := by
  have a1 : (c == 108) = false := by simp [h]
  clear h
  go_enter Tryz.func97, Tryz.ntmps97
  go_wp2
  go_ret
  exact ⟨rfl, rfl⟩
theorem rgt_l {c : UInt8} (h : c.toNat = 108) : rgt c = false := by
  obtain rfl : c = 108 := UInt8.toNat_inj.1 (by rw [h]; rfl)
  rfl
theorem rgt_r {c : UInt8} (h : c.toNat ≠ 108) : rgt c = true := by
  unfold rgt
  simp only [bne_iff_ne, ne_eq]
  intro e; apply h; rw [e]; rfl
def stpsL (l : List UInt8) (k : Nat) : List Value := (List.range k).map fun j => encZ (stZ (l.take j))
theorem stpsL_len (l : List UInt8) (k : Nat) : (stpsL l k).length = k := by simp [stpsL]
theorem stpsL_succ (l : List UInt8) (k : Nat) : stpsL l (k + 1) = stpsL l k ++ [encZ (stZ (l.take k))] := by simp [stpsL, List.range_succ]
theorem stpsL_get (l : List UInt8) {k n : Nat} (h : k < n) : (stpsL l n)[k]? = some (encZ (stZ (l.take k))) := by
  unfold stpsL
  rw [List.getElem?_map, List.getElem?_range h]; rfl
def StRel (s : ByteArray) (w : World) (ib : Nat) (m : Nat) (x v : Value) (wr : World) : Prop :=
  ∃ k : Nat, k + m = s.size ∧ x = encZ (stZ ((toL s).take k)) ∧ wr.heap[ib]? = some (.stringIter s k) ∧ wr.ownsRow w.heap.size 23 1 v (k + 1) (stpsL (toL s) (k + 1)) ∧ Below w.heap.size w wr
set_option maxRecDepth 100000 in
set_option maxHeartbeats 4000000 in
theorem stepsOf_c (s : ByteArray) (w : World) (hs : s.size ≤ 1023) (hw : onlyW s = true) : Calls Tryz.prog 72 #[.string s] w fun e w' => ∃ v, e = .returned v ∧ w'.ownsRow w.heap.size 23 1 v (s.size + 1) (stpsL (toL s) (s.size + 1)) ∧ Below w.heap.size w w' := by
  obtain ⟨i0, hi, hz0, hz1, hz2⟩ := info_parts infoC
  have HW := Lib.hid (show ∀ k (h : k < s.size), s[k].toNat < 128 from fun k h => by
    have := (wdC_iff _).1 (onlyW_all hw _ (List.mem_of_getElem? (toL_get s k h))); omega)
  clear hw
  go_enter Tryz.func72, Tryz.ntmps72
  go_wp2_with fail
  have S0 := Lib.hid (show StRel s w (w.heap.size + 1) s.size (.complex .f32 1065353216 0) (.slice (some ⟨w.heap.size, 0, none⟩) 1 1) ((w.alloc (.cells #[.complex .f32 1065353216 0] 23)).iter s 0) from by
    have h := World.ownsRow_lit (base := w.heap.size) (e := 23) (size := 1) w #[.complex .f32 1065353216 0] 1 (Nat.le_refl _) (by unfold maxLen; omega) rfl
    have hB : Below w.heap.size w (w.alloc (.cells #[.complex .f32 1065353216 0] 23)) := by (first | ((repeat' with_reducible first | assumption | exact Below.refl _ _ | apply Blw.alloc | apply Blw.drew | apply Blw.drewN | (refine Blw.after ?_ (by assumption)) | (refine Blw.set ?_ (by first | (dsimp only; omega) | (simp; omega)) _)); done) | (repeat' (first | assumption | exact Below.refl _ _ | apply Blw.alloc | apply Blw.drew | apply Blw.drewN | (refine Blw.after ?_ (by assumption)) | (refine Blw.set ?_ (by first | (dsimp only; omega) | (simp; done) | (simp; omega)) _))))
    refine ⟨0, by omega, ?_, ?_, ?_, hB.trans ((iter_below _ s 0).mono hB.size)⟩
    · rw [List.take_zero, stZ_nil]; exact encZ10.symm
    · have := World.iter_heap (w.alloc (.cells #[.complex .f32 1065353216 0] 23)) s 0
      rw [alloc_size] at this
      exact this
    · rw [show stpsL (toL s) (0 + 1) = [.complex .f32 1065353216 0] by rw [stpsL_succ, List.take_zero, stZ_nil]; exact congrArg (fun x => [x]) encZ10]
      exact own_iter h s 0)
  go_loopg [3, 4, 6] s.size (fun m x v r wr => StRel s w (w.heap.size + 1) m x v wr)
  case atStart => exact S0.out
  case round =>
    clear S0
    obtain ⟨k, hk, rfl, hit, hown, hB⟩ := hrel
    have LI := iter_lt hit
    by_cases hlt : k < s.size
    · have hnx : ∀ ty, (Instr.next (.pointer (some ⟨w.heap.size + 1, 0, none⟩)) true ty).run Tryz.prog wr = _ := fun ty => Lib.run_next_any_at wr (w.heap.size + 1) s k ty hit hlt
      rw [decode_ascii s k hlt (HW.out k hlt)] at hnx
      have hit2 := Lib.iterAt_heap wr (w.heap.size + 1) s k (k + 1) hit
      have o2 := own_iterX hown hit s (k + 1)
      have B2 := Lib.below_iterAt hB (k := w.heap.size + 1) (by omega) s (k + 1)
      generalize wr.iterAt (w.heap.size + 1) s (k + 1) = W2 at *
      have HIT := Lib.hid hit2
      have HO := Lib.hid o2
      have hq := stZ_in ((toL s).take k)
      have HS := Lib.hid (take_snocB s k hlt)
      have HE := Lib.hid (stpsL_succ (toL s) (k + 1))
      have L2 : w.heap.size + 1 < W2.heap.size := iter_lt hit2
      clear hit hown hit2 o2 hB
      by_cases e8 : s[k].toNat = 108
      · have HZ := Lib.hid (show stZ ((toL s).take (k + 1)) = mulq false (stZ ((toL s).take k)) by rw [HS.out, stZ_snoc, rgt_l e8])
        have f1 := fun w t => run_left (P := Tryz.prog) w t hq
        rw [e8] at hnx
        clear hq
        generalize stZ ((toL s).take k) = q at *
        go_wp2_with (first | (go_at_call 97; refine (quarter_l _).mono ?_; rintro e w1 ⟨rfl, rfl⟩) | (at_builtin; refine wpList_append_own _ rfl _ _ 52 rfl w.heap.size 23 i0 (.complex .f32 0 0) 1 8 Tryz.underlying52 hi hz0 hz1 hz2 rfl (by decide) _ _ _ rfl (HO.out.alloc _) ⟨W2.heap.size, 0, none⟩ 1 1 [encZ (mulq false q)] rfl rfl (cells1 _ _ _) (one1 _ rfl) (by unfold maxLen; omega) (by omega) (by have := B2.size; simp; omega) ?_))
        intro v' W3 hown' hgrow _
        have hB3 : Below w.heap.size w W3 := Below.grown (by (first | ((repeat' with_reducible first | assumption | exact Below.refl _ _ | apply Blw.alloc | apply Blw.drew | apply Blw.drewN | (refine Blw.after ?_ (by assumption)) | (refine Blw.set ?_ (by first | (dsimp only; omega) | (simp; omega)) _)); done) | (repeat' (first | assumption | exact Below.refl _ _ | apply Blw.alloc | apply Blw.drew | apply Blw.drewN | (refine Blw.after ?_ (by assumption)) | (refine Blw.set ?_ (by first | (dsimp only; omega) | (simp; done) | (simp; omega)) _))))) hgrow (by have := B2.size; simp; omega) (fun k hk => (HO.out.lt k hk).1)
        have HO3 := Lib.hid hown'
        have HI3 := Lib.hid (show W3.heap[w.heap.size + 1]? = some (.stringIter s (k + 1)) from (hgrow.block _ (by rw [alloc_size]; omega) (iter_other HO.out HIT.out)).trans (iter_of_below ((Below.refl _ _).alloc (Nat.le_refl _) _) HIT.out))
        clear hgrow hown' HO HIT
        go_wp2_with fail
        go_roundg (gk - 1)
        case measure => omega
        case rel => exact ⟨k + 1, by omega, by rw [HZ.out], HI3.out, by rw [HE.out, HZ.out]; exact HO3.out, hB3⟩
      · have HZ := Lib.hid (show stZ ((toL s).take (k + 1)) = mulq true (stZ ((toL s).take k)) by rw [HS.out, stZ_snoc, rgt_r e8])
        have f1 := fun w t => run_right (P := Tryz.prog) w t hq
        have e9 : ¬ ((s[k].toNat : Int) = 108) := by omega
        generalize hcv : (s[k].toNat : Int) = cv at *
        clear hq hcv
        generalize stZ ((toL s).take k) = q at *
        go_wp2_with (first | (go_at_call 97; refine (quarter_r _ _ e9).mono ?_; rintro e w1 ⟨rfl, rfl⟩) | (at_builtin; refine wpList_append_own _ rfl _ _ 52 rfl w.heap.size 23 i0 (.complex .f32 0 0) 1 8 Tryz.underlying52 hi hz0 hz1 hz2 rfl (by decide) _ _ _ rfl (HO.out.alloc _) ⟨W2.heap.size, 0, none⟩ 1 1 [encZ (mulq true q)] rfl rfl (cells1 _ _ _) (one1 _ rfl) (by unfold maxLen; omega) (by omega) (by have := B2.size; simp; omega) ?_))
        intro v' W3 hown' hgrow _
        have hB3 : Below w.heap.size w W3 := Below.grown (by (first | ((repeat' with_reducible first | assumption | exact Below.refl _ _ | apply Blw.alloc | apply Blw.drew | apply Blw.drewN | (refine Blw.after ?_ (by assumption)) | (refine Blw.set ?_ (by first | (dsimp only; omega) | (simp; omega)) _)); done) | (repeat' (first | assumption | exact Below.refl _ _ | apply Blw.alloc | apply Blw.drew | apply Blw.drewN | (refine Blw.after ?_ (by assumption)) | (refine Blw.set ?_ (by first | (dsimp only; omega) | (simp; done) | (simp; omega)) _))))) hgrow (by have := B2.size; simp; omega) (fun k hk => (HO.out.lt k hk).1)
        have HO3 := Lib.hid hown'
        have HI3 := Lib.hid (show W3.heap[w.heap.size + 1]? = some (.stringIter s (k + 1)) from (hgrow.block _ (by rw [alloc_size]; omega) (iter_other HO.out HIT.out)).trans (iter_of_below ((Below.refl _ _).alloc (Nat.le_refl _) _) HIT.out))
        clear hgrow hown' HO HIT
        go_wp2_with fail
        go_roundg (gk - 1)
        case measure => omega
        case rel => exact ⟨k + 1, by omega, by rw [HZ.out], HI3.out, by rw [HE.out, HZ.out]; exact HO3.out, hB3⟩
    · have hnx : ∀ ty, (Instr.next (.pointer (some ⟨w.heap.size + 1, 0, none⟩)) true ty).run Tryz.prog wr = _ := fun ty => Lib.run_next_end_at wr (w.heap.size + 1) s k ty hit hlt
      obtain rfl : k = s.size := by omega
      have HO := Lib.hid hown
      clear hown hit
      go_wp2_with fail
      go_ret
      exact ⟨_, rfl, HO.out, hB⟩

/-! ### points -/
theorem crv_at {l : List UInt8} {k : Nat} (hl : l.length ≤ 1023) (h : k ≤ l.length) {z : Int × Int} (hz : (crvL l)[k]? = some z) : Sm z ∧ (crvL l)[k + 1]? = some (addP z (stP (l.take k))) ∧ (crvL l).take (k + 2) = (crvL l).take (k + 1) ++ [addP z (stP (l.take k))] := by
  have hm := crvL_in l z (List.mem_of_getElem? hz)
  have e : psP (l.take k) = addP z (stP (l.take k)) := by
    cases k with
    | zero =>
      rw [crvL_zero] at hz
      cases hz
      rw [List.take_zero]; rfl
    | succ k =>
      rw [crvL_succ (by omega)] at hz
      cases hz
      rw [take_snocL (List.getElem?_eq_getElem (show k < l.length by omega)), psP_snoc, stP_snoc]
  refine ⟨?_, by rw [crvL_succ h, e], by rw [crvL_take h, e]⟩
  unfold Sm
  omega
def AlRel (l : List UInt8) (w : World) (m : Nat) (x v i : Value) (wr : World) : Prop :=
  ∃ (k : Nat) (z : Int × Int), k + m = l.length + 1 ∧ i = .int .i64 k ∧ (crvL l)[k]? = some z ∧ x = encP z ∧ wr.ownsRow w.heap.size 23 1 v (k + 1) (((crvL l).take (k + 1)).map encP) ∧ Below w.heap.size w wr
set_option maxRecDepth 100000 in
set_option maxHeartbeats 4000000 in
theorem along_c (l : List UInt8) (a : Option Addr) (c : Nat) (w : World) (hl : l.length ≤ 1023) (h : CSl a (stpsL l (l.length + 1)) w) : Calls Tryz.prog 71 #[.slice a (l.length + 1) c] w fun e w' => ∃ v, e = .returned v ∧ w'.ownsRow w.heap.size 23 1 v (l.length + 2) ((crvL l).map encP) ∧ Below w.heap.size w w' := by
  obtain ⟨i0, hi, hz0, hz1, hz2⟩ := info_parts infoC
  have HC := Lib.hid h
  clear h
  go_enter Tryz.func71, Tryz.ntmps71
  go_wp2_with fail
  have S0 := Lib.hid (show AlRel l w (l.length + 1) (.complex .f32 0 0) (.slice (some ⟨w.heap.size, 0, none⟩) 1 1) (.int .i64 0) (w.alloc (.cells #[.complex .f32 0 0] 23)) from by
    have h := World.ownsRow_lit (base := w.heap.size) (e := 23) (size := 1) w #[.complex .f32 0 0] 1 (Nat.le_refl _) (by unfold maxLen; omega) rfl
    refine ⟨0, (0, 0), by omega, rfl, crvL_zero l, enc00.symm, ?_, by (first | ((repeat' with_reducible first | assumption | exact Below.refl _ _ | apply Blw.alloc | apply Blw.drew | apply Blw.drewN | (refine Blw.after ?_ (by assumption)) | (refine Blw.set ?_ (by first | (dsimp only; omega) | (simp; omega)) _)); done) | (repeat' (first | assumption | exact Below.refl _ _ | apply Blw.alloc | apply Blw.drew | apply Blw.drewN | (refine Blw.after ?_ (by assumption)) | (refine Blw.set ?_ (by first | (dsimp only; omega) | (simp; done) | (simp; omega)) _))))⟩
    rw [show ((crvL l).take (0 + 1)).map encP = [.complex .f32 0 0] by rw [crvL_one]; exact congrArg (fun x => [x]) enc00]
    exact h)
  go_loopg [3, 4, 6, 11] (l.length + 1) (fun m x v r i wr => AlRel l w m x v i wr)
  case atStart => exact S0.out
  case round =>
    clear S0
    obtain ⟨k, z, hk, rfl, hz, rfl, hown, hB⟩ := hrel
    have HO := Lib.hid hown
    clear hown
    by_cases hlt : k < l.length + 1
    · have hcs := HC.out.keep hB
      obtain ⟨g, o, rfl, hc⟩ := hcs.at (k := k) (by rw [stpsL_len]; exact hlt)
      have hg : (stpsL l (l.length + 1))[k]? = _ := stpsL_get l hlt
      rw [List.getElem?_eq_getElem (by rw [stpsL_len]; exact hlt)] at hg
      rw [Option.some.inj hg] at hc
      obtain ⟨hs, hn, ht⟩ := crv_at hl (by omega) hz
      have hv := stZ_val (l.take k)
      have hq := stZ_in (l.take k)
      have f1 := fun w t => run_pstep (P := Tryz.prog) w t hs hq
      rw [hv] at f1
      generalize hzz : addP z (stP (l.take k)) = z' at *
      have HN := Lib.hid hn
      have HT := Lib.hid ht
      have Lg : g < wr.heap.size := World.block_lt_of_cell? wr _ hc
      clear hcs hg hz hs hv hq hzz hn ht
      generalize stZ (l.take k) = q at *
      go_wp2_with (at_builtin; refine wpList_append_own _ rfl _ _ 52 rfl w.heap.size 23 i0 (.complex .f32 0 0) 1 8 Tryz.underlying52 hi hz0 hz1 hz2 rfl (by decide) _ _ _ rfl (HO.out.alloc _) ⟨wr.heap.size, 0, none⟩ 1 1 [encP z'] rfl rfl (cells1 _ _ _) (one1 _ rfl) (by unfold maxLen; omega) (by omega) (by have := hB.size; simp; omega) ?_)
      intro v' W3 hown' hgrow _
      have hB3 : Below w.heap.size w W3 := Below.grown (by (first | ((repeat' with_reducible first | assumption | exact Below.refl _ _ | apply Blw.alloc | apply Blw.drew | apply Blw.drewN | (refine Blw.after ?_ (by assumption)) | (refine Blw.set ?_ (by first | (dsimp only; omega) | (simp; omega)) _)); done) | (repeat' (first | assumption | exact Below.refl _ _ | apply Blw.alloc | apply Blw.drew | apply Blw.drewN | (refine Blw.after ?_ (by assumption)) | (refine Blw.set ?_ (by first | (dsimp only; omega) | (simp; done) | (simp; omega)) _))))) hgrow (by have := hB.size; simp; omega) (fun k hk => (HO.out.lt k hk).1)
      have HO3 := Lib.hid hown'
      clear hgrow hown' HO
      go_wp2_with fail
      go_roundg (gk - 1)
      case measure => omega
      case rel => exact ⟨k + 1, z', by omega, by go_num, HN.out, rfl, by rw [HT.out, List.map_append, List.map_take]; exact HO3.out, hB3⟩
    · obtain rfl : k = l.length + 1 := by omega
      have HE := Lib.hid (crvL_all l)
      clear hz
      go_wp2_with fail
      go_ret
      exact ⟨_, rfl, by rw [← HE.out]; exact HO.out, hB⟩

/-! ### curves -/
def crvA (s : ByteArray) : List (Int × Int) := if wdB 1023 s then crvL (toL s) else []
theorem crvA_t {s : ByteArray} (h : wdB 1023 s = true) : crvA s = crvL (toL s) := by unfold crvA; rw [h]; rfl
theorem crvA_f {s : ByteArray} (h : wdB 1023 s = false) : crvA s = [] := by unfold crvA; rw [h]; rfl
theorem crvA_len {s : ByteArray} (h : wdB 1023 s = true) : (crvA s).length = s.size + 2 := by rw [crvA_t h, crvL_len, toL_len]
def CvPost (s : ByteArray) (w : World) (e : Ending) (w' : World) : Prop := ∃ v, e = .returned (.tuple #[v, .bool (wdB 1023 s)]) ∧ w'.ownsRow w.heap.size 23 1 v (crvA s).length ((crvA s).map encP) ∧ Below w.heap.size w w'
set_option maxRecDepth 100000 in
set_option maxHeartbeats 4000000 in
theorem iCurveOf_c (s : ByteArray) (w : World) : Calls Tryz.prog 50 #[.string s] w (CvPost s w) := by
  rcases Bool.eq_false_or_eq_true (wdB 1023 s) with h | h
  · have HW := Lib.hid h
    have hsz := wdB_len h
    go_enter Tryz.func50, Tryz.ntmps50
    go_wp2_with (go_at_call 70; refine (isWord_c _ _).mono ?_; rintro e w1 ⟨rfl, hb⟩; obtain ⟨hc, hf⟩ := bcell hb; have hz := bsize hb; have hs := hb.size; try simp at hs)
    have hB1 := Lib.hid (show Below w.heap.size w w1 by (first | ((repeat' with_reducible first | assumption | exact Below.refl _ _ | apply Blw.alloc | apply Blw.drew | apply Blw.drewN | (refine Blw.after ?_ (by assumption)) | (refine Blw.set ?_ (by first | (dsimp only; omega) | (simp; omega)) _)); done) | (repeat' (first | assumption | exact Below.refl _ _ | apply Blw.alloc | apply Blw.drew | apply Blw.drewN | (refine Blw.after ?_ (by assumption)) | (refine Blw.set ?_ (by first | (dsimp only; omega) | (simp; done) | (simp; omega)) _)))))
    clear hb hc hf hz hs
    refine (stepsOf_c s w1 hsz (wdB_only HW.out)).mono ?_
    rintro e w2 ⟨v, rfl, ho, hb2⟩
    obtain ⟨a, c, rfl, hcs, -⟩ := own_csl ho
    rw [stpsL_len]
    have HC := Lib.hid (show CSl a (stpsL (toL s) ((toL s).length + 1)) w2 from by rw [toL_len]; exact hcs)
    have HB2 := Lib.hid (hB1.out.trans (hb2.mono hB1.out.size))
    clear ho hcs hb2
    go_wp2_with fail
    have HA := along_c (toL s) a c w2 (by rw [toL_len]; exact hsz) HC.out
    rw [toL_len] at HA
    refine HA.mono ?_
    rintro e w3 ⟨v, rfl, ho, hb3⟩
    have HO := Lib.hid (show w3.ownsRow w.heap.size 23 1 v (crvA s).length ((crvA s).map encP) from by
      rw [crvA_len HW.out, crvA_t HW.out]; exact ownsRow_low HB2.out.size ho)
    have HB3 := Lib.hid (HB2.out.trans (hb3.mono HB2.out.size))
    clear ho hb3
    go_wp2_with fail
    go_ret2
    exact ⟨v, by rw [HW.out]; rfl, HO.out, HB3.out⟩
  · have HW := Lib.hid h
    go_enter Tryz.func50, Tryz.ntmps50
    go_wp2_with (go_at_call 70; refine (isWord_c _ _).mono ?_; rintro e w1 ⟨rfl, hb⟩; obtain ⟨hc, hf⟩ := bcell hb; have hz := bsize hb; have hs := hb.size; try simp at hs)
    have hB1 := Lib.hid (show Below w.heap.size w w1 by (first | ((repeat' with_reducible first | assumption | exact Below.refl _ _ | apply Blw.alloc | apply Blw.drew | apply Blw.drewN | (refine Blw.after ?_ (by assumption)) | (refine Blw.set ?_ (by first | (dsimp only; omega) | (simp; omega)) _)); done) | (repeat' (first | assumption | exact Below.refl _ _ | apply Blw.alloc | apply Blw.drew | apply Blw.drewN | (refine Blw.after ?_ (by assumption)) | (refine Blw.set ?_ (by first | (dsimp only; omega) | (simp; done) | (simp; omega)) _)))))
    clear hb hc hf hz hs
    go_ret2
    exact ⟨_, by rw [HW.out]; rfl, by rw [crvA_f HW.out]; exact World.ownsRow_nil _ _ _ _, hB1.out⟩

def ScRel (s : ByteArray) (w : World) (m : Nat) (x st v i : Value) (wr : World) : Prop :=
  ∃ (k : Nat) (z q : Int × Int), k + m = s.size + 1 ∧ i = .int .i64 k ∧ (crvL (toL s))[k]? = some z ∧ x = encP z ∧ st = encP q ∧ (k ≤ s.size → q = stP ((toL s).take k)) ∧ wr.ownsRow w.heap.size 23 1 v (k + 1) (((crvL (toL s)).take (k + 1)).map encP) ∧ Below w.heap.size w wr
theorem crv_done {s : ByteArray} {w : World} {B : Nat} {v : Value} (h : wdB 1023 s = true) (ho : w.ownsRow B 23 1 v (s.size + 1 + 1) (((crvL (toL s)).take (s.size + 1 + 1)).map encP)) : w.ownsRow B 23 1 v (crvA s).length ((crvA s).map encP) := by
  have e := crvL_all (toL s)
  rw [toL_len] at e
  rw [crvA_len h, crvA_t h, ← e]; exact ho
theorem trn_l {c : UInt8} (h : c.toNat = 108) (z : Int × Int) : trn c z = (-z.2, z.1) := by
  obtain rfl : c = 108 := UInt8.toNat_inj.1 (by rw [h]; rfl)
  rfl
theorem trn_r {c : UInt8} (h : c.toNat ≠ 108) (z : Int × Int) : trn c z = (z.2, -z.1) := by
  unfold trn; rw [if_neg (fun e => h (by rw [e]; rfl))]
set_option maxRecDepth 100000 in
set_option maxHeartbeats 4000000 in
theorem sCurveOf_c (s : ByteArray) (w : World) : Calls Tryz.prog 56 #[.string s] w (CvPost s w) := by
  obtain ⟨i0, hi, hz0, hz1, hz2⟩ := info_parts infoC
  rcases Bool.eq_false_or_eq_true (wdB 1023 s) with h | h
  · have HW := Lib.hid h
    have hsz := wdB_len h
    go_enter Tryz.func56, Tryz.ntmps56
    go_wp2_with (go_at_call 36; refine (l4Word_c _ 1023 _ (by decide)).mono ?_; rintro e w1 ⟨rfl, rfl⟩)
    clear h
    have S0 := Lib.hid (show ScRel s w (s.size + 1) (.complex .f32 0 0) (.complex .f32 1065353216 0) (.slice (some ⟨w.heap.size, 0, none⟩) 1 1) (.int .i64 0) (w.alloc (.cells #[.complex .f32 0 0] 23)) from by
      have h := World.ownsRow_lit (base := w.heap.size) (e := 23) (size := 1) w #[.complex .f32 0 0] 1 (Nat.le_refl _) (by unfold maxLen; omega) rfl
      refine ⟨0, (0, 0), (1, 0), by omega, rfl, crvL_zero _, enc00.symm, enc10.symm, fun _ => by rw [List.take_zero]; rfl, ?_, by (first | ((repeat' with_reducible first | assumption | exact Below.refl _ _ | apply Blw.alloc | apply Blw.drew | apply Blw.drewN | (refine Blw.after ?_ (by assumption)) | (refine Blw.set ?_ (by first | (dsimp only; omega) | (simp; omega)) _)); done) | (repeat' (first | assumption | exact Below.refl _ _ | apply Blw.alloc | apply Blw.drew | apply Blw.drewN | (refine Blw.after ?_ (by assumption)) | (refine Blw.set ?_ (by first | (dsimp only; omega) | (simp; done) | (simp; omega)) _))))⟩
      rw [show ((crvL (toL s)).take (0 + 1)).map encP = [.complex .f32 0 0] by rw [crvL_one]; exact congrArg (fun x => [x]) enc00]
      exact h)
    go_loopg [4, 5, 6, 7] (s.size + 1) (fun m x st v i wr => ScRel s w m x st v i wr)
    case atStart => exact S0.out
    case round =>
      clear S0
      obtain ⟨k, z, q, hk, rfl, hz, rfl, rfl, hst, hown, hB⟩ := hrel
      have HO := Lib.hid hown
      clear hown
      by_cases hle : k ≤ s.size
      · obtain rfl := hst hle
        obtain ⟨hs, hn, ht⟩ := crv_at (l := toL s) (by rw [toL_len]; exact hsz) (by rw [toL_len]; exact hle) hz
        have hu := stP_unit ((toL s).take k)
        have f1 := fun w t => run_padd (P := Tryz.prog) w t hs (show Sm (stP ((toL s).take k)) by unfold Sm; omega)
        generalize hzz : addP z (stP ((toL s).take k)) = z' at *
        have HN := Lib.hid hn
        have HT := Lib.hid ht
        clear hst hz hs hzz hn ht
        by_cases hlt : k < s.size
        · have HSn := Lib.hid (take_snocB s k hlt)
          have b1 := fun w => run_float_arith (P := Tryz.prog) w .sub 40 .f32 _ _ _ (neg_bits (a := (stP ((toL s).take k)).1) (by omega))
          have b2 := fun w => run_float_arith (P := Tryz.prog) w .sub 40 .f32 _ _ _ (neg_bits (a := (stP ((toL s).take k)).2) (by omega))
          change ∀ w, _ = Result.ok (Value.float FloatKind.f32 (px (-(stP ((toL s).take k)).1, 0))) w at b1
          change ∀ w, _ = Result.ok (Value.float FloatKind.f32 (px (-(stP ((toL s).take k)).2, 0))) w at b2
          change ∀ w, (binOp .sub _ _ (.float .f32 (px (stP ((toL s).take k))))).run _ w = _ at b1
          change ∀ w, (binOp .sub _ _ (.float .f32 (py (stP ((toL s).take k))))).run _ w = _ at b2
          by_cases e8 : s[k].toNat = 108
          · have HZ := Lib.hid (show stP ((toL s).take (k + 1)) = (-(stP ((toL s).take k)).2, (stP ((toL s).take k)).1) by rw [HSn.out, stP_snoc, trn_l e8])
            have a1 : ((s[k].toNat : Int) == 108) = true := by simp [e8]
            clear hu e8
            generalize stP ((toL s).take k) = q at *
            go_wp2_with (at_builtin; refine wpList_append_own _ rfl _ _ 52 rfl w.heap.size 23 i0 (.complex .f32 0 0) 1 8 Tryz.underlying52 hi hz0 hz1 hz2 rfl (by decide) _ _ _ rfl (HO.out.alloc _) ⟨wr.heap.size, 0, none⟩ 1 1 [encP z'] rfl rfl (cells1 _ _ _) (one1 _ rfl) (by unfold maxLen; omega) (by omega) (by have := hB.size; simp; omega) ?_)
            intro v' W3 hown' hgrow _
            have hB3 : Below w.heap.size w W3 := Below.grown (by (first | ((repeat' with_reducible first | assumption | exact Below.refl _ _ | apply Blw.alloc | apply Blw.drew | apply Blw.drewN | (refine Blw.after ?_ (by assumption)) | (refine Blw.set ?_ (by first | (dsimp only; omega) | (simp; omega)) _)); done) | (repeat' (first | assumption | exact Below.refl _ _ | apply Blw.alloc | apply Blw.drew | apply Blw.drewN | (refine Blw.after ?_ (by assumption)) | (refine Blw.set ?_ (by first | (dsimp only; omega) | (simp; done) | (simp; omega)) _))))) hgrow (by have := hB.size; simp; omega) (fun k hk => (HO.out.lt k hk).1)
            have HO3 := Lib.hid hown'
            clear hgrow hown' HO
            go_wp2_with fail
            go_roundg (gk - 1)
            case measure => omega
            case rel => exact ⟨k + 1, z', _, by omega, by go_num, HN.out, rfl, rfl, fun _ => HZ.out.symm, by rw [HT.out, List.map_append, List.map_take]; exact HO3.out, hB3⟩
          · have HZ := Lib.hid (show stP ((toL s).take (k + 1)) = ((stP ((toL s).take k)).2, -(stP ((toL s).take k)).1) by rw [HSn.out, stP_snoc, trn_r e8])
            have a1 : ((s[k].toNat : Int) == 108) = false := by simp; omega
            clear hu e8
            generalize stP ((toL s).take k) = q at *
            go_wp2_with (at_builtin; refine wpList_append_own _ rfl _ _ 52 rfl w.heap.size 23 i0 (.complex .f32 0 0) 1 8 Tryz.underlying52 hi hz0 hz1 hz2 rfl (by decide) _ _ _ rfl (HO.out.alloc _) ⟨wr.heap.size, 0, none⟩ 1 1 [encP z'] rfl rfl (cells1 _ _ _) (one1 _ rfl) (by unfold maxLen; omega) (by omega) (by have := hB.size; simp; omega) ?_)
            intro v' W3 hown' hgrow _
            have hB3 : Below w.heap.size w W3 := Below.grown (by (first | ((repeat' with_reducible first | assumption | exact Below.refl _ _ | apply Blw.alloc | apply Blw.drew | apply Blw.drewN | (refine Blw.after ?_ (by assumption)) | (refine Blw.set ?_ (by first | (dsimp only; omega) | (simp; omega)) _)); done) | (repeat' (first | assumption | exact Below.refl _ _ | apply Blw.alloc | apply Blw.drew | apply Blw.drewN | (refine Blw.after ?_ (by assumption)) | (refine Blw.set ?_ (by first | (dsimp only; omega) | (simp; done) | (simp; omega)) _))))) hgrow (by have := hB.size; simp; omega) (fun k hk => (HO.out.lt k hk).1)
            have HO3 := Lib.hid hown'
            clear hgrow hown' HO
            go_wp2_with fail
            go_roundg (gk - 1)
            case measure => omega
            case rel => exact ⟨k + 1, z', _, by omega, by go_num, HN.out, rfl, rfl, fun _ => HZ.out.symm, by rw [HT.out, List.map_append, List.map_take]; exact HO3.out, hB3⟩
        · generalize stP ((toL s).take k) = q at *
          clear hu
          go_wp2_with (at_builtin; refine wpList_append_own _ rfl _ _ 52 rfl w.heap.size 23 i0 (.complex .f32 0 0) 1 8 Tryz.underlying52 hi hz0 hz1 hz2 rfl (by decide) _ _ _ rfl (HO.out.alloc _) ⟨wr.heap.size, 0, none⟩ 1 1 [encP z'] rfl rfl (cells1 _ _ _) (one1 _ rfl) (by unfold maxLen; omega) (by omega) (by have := hB.size; simp; omega) ?_)
          intro v' W3 hown' hgrow _
          have hB3 : Below w.heap.size w W3 := Below.grown (by (first | ((repeat' with_reducible first | assumption | exact Below.refl _ _ | apply Blw.alloc | apply Blw.drew | apply Blw.drewN | (refine Blw.after ?_ (by assumption)) | (refine Blw.set ?_ (by first | (dsimp only; omega) | (simp; omega)) _)); done) | (repeat' (first | assumption | exact Below.refl _ _ | apply Blw.alloc | apply Blw.drew | apply Blw.drewN | (refine Blw.after ?_ (by assumption)) | (refine Blw.set ?_ (by first | (dsimp only; omega) | (simp; done) | (simp; omega)) _))))) hgrow (by have := hB.size; simp; omega) (fun k hk => (HO.out.lt k hk).1)
          have HO3 := Lib.hid hown'
          clear hgrow hown' HO
          go_wp2_with fail
          go_roundg (gk - 1)
          case measure => omega
          case rel => exact ⟨k + 1, z', _, by omega, by go_num, HN.out, rfl, rfl, fun _ => by omega, by rw [HT.out, List.map_append, List.map_take]; exact HO3.out, hB3⟩
      · obtain rfl : k = s.size + 1 := by omega
        have HA := Lib.hid (crv_done HW.out HO.out)
        clear hst hz HO
        go_wp2_with fail
        go_ret2
        exact ⟨_, by rw [HW.out]; rfl, HA.out, hB⟩
  · have HW := Lib.hid h
    go_enter Tryz.func56, Tryz.ntmps56
    go_wp2_with (go_at_call 36; refine (l4Word_c _ 1023 _ (by decide)).mono ?_; rintro e w1 ⟨rfl, rfl⟩)
    go_ret2
    exact ⟨_, by rw [HW.out]; rfl, by
      rw [crvA_f HW.out]
      exact World.ownsRow_lit w #[] 0 (Nat.le_refl _) (by unfold maxLen; omega) rfl, by (first | ((repeat' with_reducible first | assumption | exact Below.refl _ _ | apply Blw.alloc | apply Blw.drew | apply Blw.drewN | (refine Blw.after ?_ (by assumption)) | (refine Blw.set ?_ (by first | (dsimp only; omega) | (simp; omega)) _)); done) | (repeat' (first | assumption | exact Below.refl _ _ | apply Blw.alloc | apply Blw.drew | apply Blw.drewN | (refine Blw.after ?_ (by assumption)) | (refine Blw.set ?_ (by first | (dsimp only; omega) | (simp; done) | (simp; omega)) _))))⟩
end Go.Proofs.YtmdnfamjdogogaaGreatDoor

namespace Go.Proofs.YtmdnfamjdogogaaGreatDoor
set_option linter.unusedSimpArgs false
set_option linter.unusedVariables false
open Go.RowKit Ieee

abbrev encE (s : ByteArray) (p : Nat × Nat) (n : Nat) : Value := .agg #[.string s, encW p, .int .u32 (n : Nat)]
/-- the word of turns of creases -/
def twS (s : ByteArray) : ByteArray := selW (wdB 10 s) (turnsL (toL s))
/-- the points of an entry's curve, moved -/
def ptsE (s : ByteArray) (p : Nat × Nat) : List (Nat × Nat) := (crvA (twS s)).map (aW p)
def okE (s : ByteArray) (p : Nat × Nat) : Bool := wdB 10 s && (decide (s.size ≠ 0) && eqW p p)
theorem crvA_le (t : ByteArray) : (crvA t).length ≤ 1025 := by
  rcases Bool.eq_false_or_eq_true (wdB 1023 t) with h | h
  · rw [crvA_len h]; have := wdB_len h; omega
  · rw [crvA_f h]; simp
theorem crvA_sm {t : ByteArray} : ∀ z ∈ crvA t, Sm z := by
  rcases Bool.eq_false_or_eq_true (wdB 1023 t) with h | h
  · rw [crvA_t h]
    intro z hz
    have h1 := crvL_in _ z hz
    have h2 := wdB_len h
    rw [toL_len] at h1
    unfold Sm; omega
  · rw [crvA_f h]; intro z hz; cases hz
theorem ptsE_len (s : ByteArray) (p : Nat × Nat) : (ptsE s p).length = (crvA (twS s)).length := by unfold ptsE; rw [List.length_map]
theorem ptsE_le (s : ByteArray) (p : Nat × Nat) : (ptsE s p).length ≤ 1025 := by rw [ptsE_len]; exact crvA_le _
theorem ptsE_nn {s : ByteArray} {p : Nat × Nat} (h : Nn2 p) : ∀ q ∈ ptsE s p, Nn2 q := by
  intro q hq
  obtain ⟨z, hz, rfl⟩ := List.mem_map.1 hq
  exact aW_nn h (crvA_sm z hz)
def mvE (Z : List (Int × Int)) (p : Nat × Nat) (k : Nat) : List Value := (Z.take k).map fun z => encW (aW p z)
theorem mvE_all (Z : List (Int × Int)) (p : Nat × Nat) : mvE Z p Z.length = (Z.map (aW p)).map encW := by unfold mvE; rw [List.take_length, List.map_map]; rfl
def MvRelE (Z : List (Int × Int)) (p : Nat × Nat) (w : World) (m : Nat) (v i : Value) (wr : World) : Prop :=
  ∃ k : Nat, k + m = Z.length ∧ i = .int .i64 k ∧ wr.ownsRow w.heap.size 23 1 v k (mvE Z p k) ∧ Below w.heap.size w wr
theorem mv_snoc {Z : List (Int × Int)} (p : Nat × Nat) {k : Nat} (h : k < Z.length) : mvE Z p (k + 1) = mvE Z p k ++ [encW (aW p Z[k])] := by
  unfold mvE
  rw [List.take_add_one, List.getElem?_eq_getElem h, List.map_append]; rfl
def PtPost (s : ByteArray) (p : Nat × Nat) (w : World) (e : Ending) (w' : World) : Prop :=
  ∃ v, e = .returned v ∧ w'.ownsRow w.heap.size 23 1 v (ptsE s p).length ((ptsE s p).map encW) ∧ Below w.heap.size w w'
set_option maxRecDepth 100000 in
set_option maxHeartbeats 4000000 in
theorem sl7Moved_c (s : ByteArray) (p : Nat × Nat) (w : World) (hp : Nn2 p) : Calls Tryz.prog 38 #[.string s, encW p] w (PtPost s p w) := by
  obtain ⟨i0, hi, hz0, hz1, hz2⟩ := info_parts infoC
  go_enter Tryz.func38, Tryz.ntmps38
  go_wp2_with fail
  refine (sTurnWord_c s w).mono ?_
  rintro e W1 ⟨rfl, hb1⟩
  rw [show twV s = .tuple #[.string (twS s), .bool (wdB 10 s)] by rfl]
  have HPE := Lib.hid (show ptsE s p = (crvA (twS s)).map (aW p) from rfl)
  generalize twS s = T at *
  generalize wdB 10 s = ok at *
  go_wp2_with fail
  refine (sCurveOf_c T W1).mono ?_
  rintro e W2 ⟨v, rfl, ho, hb2⟩
  obtain ⟨a1, c1, rfl, hcs, -⟩ := own_csl ho
  rw [List.length_map]
  have HSM := Lib.hid (crvA_sm (t := T))
  have hle := crvA_le T
  have HC := Lib.hid hcs
  have HB2 := Lib.hid (Blw.after hb1 hb2)
  generalize wdB 1023 T = ok2 at *
  generalize crvA T = Z at *
  clear ho hcs hb1 hb2
  have S0 := Lib.hid (show MvRelE Z p W2 Z.length (.slice (some ⟨W2.heap.size, 0, none⟩) 0 0) (.int .i64 0) (W2.alloc (.cells #[] 23)) from
    ⟨0, by omega, rfl, World.ownsRow_lit W2 #[] 0 (Nat.le_refl _) (by unfold maxLen; omega) rfl, by (first | ((repeat' with_reducible first | assumption | exact Below.refl _ _ | apply Blw.alloc | apply Blw.drew | apply Blw.drewN | (refine Blw.after ?_ (by assumption)) | (refine Blw.set ?_ (by first | (dsimp only; omega) | (simp; omega)) _)); done) | (repeat' (first | assumption | exact Below.refl _ _ | apply Blw.alloc | apply Blw.drew | apply Blw.drewN | (refine Blw.after ?_ (by assumption)) | (refine Blw.set ?_ (by first | (dsimp only; omega) | (simp; done) | (simp; omega)) _))))⟩)
  go_wp2_with fail
  go_loopg [9, 10] Z.length (fun m v i wr => MvRelE Z p W2 m v i wr)
  case atStart => exact S0.out
  case round =>
    clear S0
    obtain ⟨k, hk, rfl, hown, hB⟩ := hrel
    have HO := Lib.hid hown
    clear hown
    by_cases hlt : k < Z.length
    · obtain ⟨g, o, rfl, cV⟩ := (HC.out.keep hB).at (k := k) (by rw [List.length_map]; exact hlt)
      rw [List.getElem_map] at cV
      have Lg : g < wr.heap.size := World.block_lt_of_cell? wr _ cV
      have hz := HSM.out Z[k] (List.getElem_mem hlt)
      have HT := Lib.hid (mv_snoc p hlt)
      generalize Z[k] = z at *
      have f1 := fun w t => run_wadd (P := Tryz.prog) w t hp hz
      clear hz
      generalize aW p z = q at *
      go_wp2_with (at_builtin; refine wpList_append_own _ rfl _ _ 52 rfl W2.heap.size 23 i0 (.complex .f32 0 0) 1 8 Tryz.underlying52 hi hz0 hz1 hz2 rfl (by decide) _ _ _ rfl (HO.out.alloc _) ⟨wr.heap.size, 0, none⟩ 1 1 [encW q] rfl rfl (cells1 _ _ _) (one1 _ rfl) (by unfold maxLen; omega) (by omega) (by have := hB.size; simp; omega) ?_)
      intro v' W3 hown' hgrow _
      have hB3 : Below W2.heap.size W2 W3 := Below.grown (by (first | ((repeat' with_reducible first | assumption | exact Below.refl _ _ | apply Blw.alloc | apply Blw.drew | apply Blw.drewN | (refine Blw.after ?_ (by assumption)) | (refine Blw.set ?_ (by first | (dsimp only; omega) | (simp; omega)) _)); done) | (repeat' (first | assumption | exact Below.refl _ _ | apply Blw.alloc | apply Blw.drew | apply Blw.drewN | (refine Blw.after ?_ (by assumption)) | (refine Blw.set ?_ (by first | (dsimp only; omega) | (simp; done) | (simp; omega)) _))))) hgrow (by have := hB.size; simp; omega) (fun k hk => (HO.out.lt k hk).1)
      have HO3 := Lib.hid hown'
      clear hgrow hown' HO
      go_wp2_with fail
      go_roundg (gk - 1)
      case measure => omega
      case rel => exact ⟨k + 1, by omega, by go_num, by rw [HT.out]; exact HO3.out, hB3⟩
    · obtain rfl : k = Z.length := by omega
      have FIN := Lib.hid (show PtPost s p w (.returned u9) wr from by
        refine ⟨u9, rfl, ?_, Blw.after HB2.out hB⟩
        have h1 := ownsRow_low HB2.out.size HO.out
        rw [mvE_all, ← HPE.out] at h1
        rw [HPE.out, List.length_map, ← HPE.out]; exact h1)
      go_wp2_with fail
      go_ret
      exact FIN.out
end Go.Proofs.YtmdnfamjdogogaaGreatDoor

namespace Go.Proofs.YtmdnfamjdogogaaGreatDoor
set_option linter.unusedSimpArgs false
set_option linter.unusedVariables false
open Go.RowKit Ieee

/-- a box with an entry, that may be written -/
def BxE (b : Nat) (s : ByteArray) (p : Nat × Nat) (n : Nat) (w : World) : Prop :=
  b < w.heap.size ∧ w.cell? ⟨b, 0, none⟩ = some (.string s) ∧ w.cell? ⟨b, 1, none⟩ = some (encW p) ∧ w.cell? ⟨b, 2, none⟩ = some (.int .u32 (n : Nat)) ∧ w.frozen? ⟨b, 0, none⟩ = false ∧ w.frozen? ⟨b, 1, none⟩ = false ∧ w.frozen? ⟨b, 2, none⟩ = false
theorem BxE.keep {b : Nat} {s : ByteArray} {p : Nat × Nat} {n : Nat} {w w' : World} (h : BxE b s p n w) (hb : Below w.heap.size w w') : BxE b s p n w' := by
  obtain ⟨h0, h1, h2, h3, h4, h5, h6⟩ := h
  exact ⟨Nat.lt_of_lt_of_le h0 hb.size, keepcell hb h1, keepcell hb h2, keepcell hb h3, ((bcell hb).2 _ _ h0).trans h4, ((bcell hb).2 _ _ h0).trans h5, ((bcell hb).2 _ _ h0).trans h6⟩
theorem BxE.moved {b rb : Nat} {s : ByteArray} {p : Nat × Nat} {n : Nat} {w w' : World} (h : BxE b s p n w) (m : Moved rb w w') (hn : b ≠ rb) : BxE b s p n w' := by
  obtain ⟨h0, h1, h2, h3, h4, h5, h6⟩ := h
  exact ⟨Nat.lt_of_lt_of_le h0 m.1, m.cell h0 hn h1, m.cell h0 hn h2, m.cell h0 hn h3, m.froz h0 hn h4, m.froz h0 hn h5, m.froz h0 hn h6⟩
theorem BxE.new (s : ByteArray) (p : Nat × Nat) (n : Nat) (w : World) (t : TypeId) : BxE w.heap.size s p n (w.alloc (.cells #[.string s, encW p, .int .u32 (n : Nat)] t)) := by
  refine ⟨by rw [alloc_size]; omega, by go_simp, by go_simp, by go_simp, by go_simp, by go_simp, by go_simp⟩
theorem nil_sz {s : ByteArray} (h : s.size = 0) : s = ⟨#[]⟩ := by
  apply toL_ext
  have : (toL s).length = 0 := by rw [toL_len]; exact h
  rw [List.eq_nil_of_length_eq_zero this]; first | done | rfl
theorem ne_nil_sz {s : ByteArray} (h : s.size ≠ 0) : s ≠ ⟨#[]⟩ := by rintro rfl; exact h rfl
def emV (s : ByteArray) (p : Nat × Nat) : Value := if okE s p then .tuple #[encE s p (sumN (ptsE s p)), .bool true] else .tuple #[encE ⟨#[]⟩ (0, 0) 0, .bool false]
theorem emV_t {s : ByteArray} {p : Nat × Nat} (h : okE s p = true) : emV s p = .tuple #[encE s p (sumN (ptsE s p)), .bool true] := by unfold emV; rw [h]; rfl
theorem emV_f {s : ByteArray} {p : Nat × Nat} (h : okE s p = false) : emV s p = .tuple #[encE ⟨#[]⟩ (0, 0) 0, .bool false] := by unfold emV; rw [h]; rfl
theorem okE_w {s : ByteArray} (p : Nat × Nat) (h : wdB 10 s = false) : okE s p = false := by unfold okE; rw [h]; rfl
theorem okE_0 {s : ByteArray} (p : Nat × Nat) (h : s.size = 0) : okE s p = false := by unfold okE; rw [decide_eq_false (by omega), Bool.false_and, Bool.and_false]
theorem okE_n {s : ByteArray} {p : Nat × Nat} (h : eqW p p = false) : okE s p = false := by unfold okE; rw [h, Bool.and_false, Bool.and_false]
theorem okE_t {s : ByteArray} {p : Nat × Nat} (h : wdB 10 s = true) (h1 : s.size ≠ 0) (h2 : eqW p p = true) : okE s p = true := by unfold okE; rw [h, decide_eq_true h1, h2]; rfl
theorem okE_iff {s : ByteArray} {p : Nat × Nat} (h : okE s p = true) : wdB 10 s = true ∧ s.size ≠ 0 ∧ eqW p p = true := by
  unfold okE at h
  simp only [Bool.and_eq_true, decide_eq_true_eq] at h
  exact ⟨h.1, h.2.1, h.2.2⟩
set_option maxRecDepth 100000 in
set_option maxHeartbeats 4000000 in
theorem sEntryMake_c (s : ByteArray) (p : Nat × Nat) (w : World) (hp : W32 p) : Calls Tryz.prog 21 #[.string s, encW p] w fun e w' => e = .returned (emV s p) ∧ Below w.heap.size w w' := by
  have fne := fun w t => run_wne (P := Tryz.prog) w t p p
  have fst := fun W a x y m => run_store Tryz.prog W a (.complex .f32 x y) m rfl
  rcases Bool.eq_false_or_eq_true (wdB 10 s) with hw | hw
  · by_cases h0 : s.size = 0
    · have HV := Lib.hid (emV_f (okE_0 p h0))
      obtain rfl := nil_sz h0
      clear h0
      go_enter Tryz.func21, Tryz.ntmps21
      go_wp2_with (go_at_call 36; refine (l4Word_c _ 10 _ (by decide)).mono ?_; rintro e w1 ⟨rfl, rfl⟩)
      rw [HV.out]
      exact bodyPost_ret (v := .tuple #[encE ⟨#[]⟩ (0, 0) 0, .bool false]) (by simp [results, Tryz.results21, go_sem, *]) rfl ⟨rfl, by (first | ((repeat' with_reducible first | assumption | exact Below.refl _ _ | apply Blw.alloc | apply Blw.drew | apply Blw.drewN | (refine Blw.after ?_ (by assumption)) | (refine Blw.set ?_ (by first | (dsimp only; omega) | (simp; omega)) _)); done) | (repeat' (first | assumption | exact Below.refl _ _ | apply Blw.alloc | apply Blw.drew | apply Blw.drewN | (refine Blw.after ?_ (by assumption)) | (refine Blw.set ?_ (by first | (dsimp only; omega) | (simp; done) | (simp; omega)) _))))⟩
    · have hne : s.toList.isEmpty = false := by
        rw [toList_toL]
        cases hh : toL s with
        | nil => exact absurd (by rw [← toL_len, hh]; rfl) h0
        | cons a l => rfl
      rcases Bool.eq_false_or_eq_true (eqW p p) with he | he
      · have hn := nn_of_eq hp he
        have HV := Lib.hid (emV_t (okE_t hw h0 he))
        have HL := Lib.hid (ptsE_le s p)
        have HN := Lib.hid (fun q hq => (ptsE_nn (s := s) hn q hq).w)
        clear h0
        go_enter Tryz.func21, Tryz.ntmps21
        go_wp2_with (go_at_call 36; refine (l4Word_c _ 10 _ (by decide)).mono ?_; rintro e w1 ⟨rfl, rfl⟩)
        generalize hW : World.alloc _ _ = W0
        have hB0 : Below w.heap.size w W0 := by rw [← hW]; (first | ((repeat' with_reducible first | assumption | exact Below.refl _ _ | apply Blw.alloc | apply Blw.drew | apply Blw.drewN | (refine Blw.after ?_ (by assumption)) | (refine Blw.set ?_ (by first | (dsimp only; omega) | (simp; omega)) _)); done) | (repeat' (first | assumption | exact Below.refl _ _ | apply Blw.alloc | apply Blw.drew | apply Blw.drewN | (refine Blw.after ?_ (by assumption)) | (refine Blw.set ?_ (by first | (dsimp only; omega) | (simp; done) | (simp; omega)) _))))
        have N0 : BxE w.heap.size ⟨#[]⟩ (0, 0) 0 W0 := by rw [← hW]; exact BxE.new _ _ _ _ _
        clear hW
        have HB0 := Lib.hid hB0
        clear hB0
        go_wp2_with fail
        refine (sl7Moved_c s p W0 hn).mono ?_
        rintro e W1 ⟨v, rfl, ho, hb1⟩
        obtain ⟨a1, c1, rfl, hcs, -⟩ := own_csl ho
        rw [List.length_map]
        have N1 := N0.keep hb1
        have HB1 := Lib.hid (Blw.after HB0.out hb1)
        clear N0 ho hb1 HB0
        generalize ptsE s p = E at *
        go_wp2_with fail
        refine (sSumPoints_c a1 c1 E W1 (by have := HL.out; omega) HN.out hcs).mono ?_
        rintro e w1 ⟨rfl, rfl⟩
        obtain ⟨z0, d0, d1, d2, f0, f1, f2⟩ := N1
        have HBB := Lib.hid HB1.out
        clear hcs HL HN fne HB1
        go_wp2_with fail
        rw [HV.out]
        have hB : Below w.heap.size w W1 := HBB.out
        exact bodyPost_ret (v := .tuple #[encE s p (sumN E), .bool true]) (by simp [results, Tryz.results21, go_sem, *]) rfl ⟨rfl, by (first | ((repeat' with_reducible first | assumption | exact Below.refl _ _ | apply Blw.alloc | apply Blw.drew | apply Blw.drewN | (refine Blw.after ?_ (by assumption)) | (refine Blw.set ?_ (by first | (dsimp only; omega) | (simp; omega)) _)); done) | (repeat' (first | assumption | exact Below.refl _ _ | apply Blw.alloc | apply Blw.drew | apply Blw.drewN | (refine Blw.after ?_ (by assumption)) | (refine Blw.set ?_ (by first | (dsimp only; omega) | (simp; done) | (simp; omega)) _))))⟩
      · have HV := Lib.hid (emV_f (okE_n (s := s) he))
        clear h0
        go_enter Tryz.func21, Tryz.ntmps21
        go_wp2_with (go_at_call 36; refine (l4Word_c _ 10 _ (by decide)).mono ?_; rintro e w1 ⟨rfl, rfl⟩)
        rw [HV.out]
        exact bodyPost_ret (v := .tuple #[encE ⟨#[]⟩ (0, 0) 0, .bool false]) (by simp [results, Tryz.results21, go_sem, *]) rfl ⟨rfl, by (first | ((repeat' with_reducible first | assumption | exact Below.refl _ _ | apply Blw.alloc | apply Blw.drew | apply Blw.drewN | (refine Blw.after ?_ (by assumption)) | (refine Blw.set ?_ (by first | (dsimp only; omega) | (simp; omega)) _)); done) | (repeat' (first | assumption | exact Below.refl _ _ | apply Blw.alloc | apply Blw.drew | apply Blw.drewN | (refine Blw.after ?_ (by assumption)) | (refine Blw.set ?_ (by first | (dsimp only; omega) | (simp; done) | (simp; omega)) _))))⟩
  · have HV := Lib.hid (emV_f (okE_w p hw))
    go_enter Tryz.func21, Tryz.ntmps21
    go_wp2_with (go_at_call 36; refine (l4Word_c _ 10 _ (by decide)).mono ?_; rintro e w1 ⟨rfl, rfl⟩)
    rw [HV.out]
    exact bodyPost_ret (v := .tuple #[encE ⟨#[]⟩ (0, 0) 0, .bool false]) (by simp [results, Tryz.results21, go_sem, *]) rfl ⟨rfl, by (first | ((repeat' with_reducible first | assumption | exact Below.refl _ _ | apply Blw.alloc | apply Blw.drew | apply Blw.drewN | (refine Blw.after ?_ (by assumption)) | (refine Blw.set ?_ (by first | (dsimp only; omega) | (simp; omega)) _)); done) | (repeat' (first | assumption | exact Below.refl _ _ | apply Blw.alloc | apply Blw.drew | apply Blw.drewN | (refine Blw.after ?_ (by assumption)) | (refine Blw.set ?_ (by first | (dsimp only; omega) | (simp; done) | (simp; omega)) _))))⟩
end Go.Proofs.YtmdnfamjdogogaaGreatDoor

namespace Go.Proofs.YtmdnfamjdogogaaGreatDoor
set_option linter.unusedSimpArgs false
set_option linter.unusedVariables false
open Go.RowKit Go.Shelf

attribute [local go_sem] Oper.semAt_some

/-- the letter with this index, from 0 on -/
def ltC (cs : List UInt8) (k : Nat) : UInt8 := (turnsL cs)[k]?.getD 0
theorem ltC_map (cs : List UInt8) : (List.range (2 ^ cs.length - 1)).map (ltC cs) = turnsL cs := by
  have hl := turnsL_len cs
  apply List.ext_getElem
  · simp; omega
  · intro i h1 h2
    simp [ltC, h2]
theorem index_form : ∀ n : Nat, 1 ≤ n → ∃ j o, n = 2 ^ j * o ∧ o % 2 = 1 := by
  intro n
  induction n using Nat.strongRecOn with
  | ind n ih =>
    intro hn
    rcases Nat.mod_two_eq_zero_or_one n with h | h
    · obtain ⟨j, o, e, ho⟩ := ih (n / 2) (by omega) (by omega)
      refine ⟨j + 1, o, ?_, ho⟩
      rw [Nat.pow_succ, Nat.mul_assoc, Nat.mul_comm 2 o, ← Nat.mul_assoc, ← e]; omega
    · exact ⟨0, n, by simp, h⟩
theorem ltC_at {cs : List UInt8} {k j o : Nat} (hk : k + 1 = 2 ^ j * o) (ho : o % 2 = 1) (hlt : k + 1 < 2 ^ cs.length) (hw : ∀ c ∈ cs, wdC c = true) : ltC cs k = turnV cs j o := by
  have := turn_at cs j o ho (by omega) hw
  unfold ltC
  rw [show k = 2 ^ j * o - 1 by omega, this]; rfl
theorem turnLet_c (cs : ByteArray) (k : Nat) (w : World) (h : Tz w) (hw : wdB 10 cs = true) (hk : k + 1 < 2 ^ cs.size) : Calls Tryz.prog 96 #[.string cs, .int .i64 ((k + 1 : Nat) : Int)] w fun e w' => e = .returned (.int .u8 ((ltC (toL cs) k).toNat : Int)) ∧ w = w' := by
  obtain ⟨j, o, e, ho⟩ := index_form (k + 1) (by omega)
  rw [ltC_at e ho (by rw [toL_len]; exact hk) (wdB_all hw)]
  exact turnOf_c cs (k + 1) j o w h e ho hk (wdB_len hw)
theorem range_pre {k n : Nat} (h : k ≤ n) : List.range k <+: List.range n := by
  rw [show List.range k = (List.range n).take k by rw [List.take_range, Nat.min_eq_left h]]
  exact List.take_prefix _ _
theorem shl_one {n : Nat} (h : n ≤ 10) : wrap64 (2 ^ n) = ((2 ^ n : Nat) : Int) ∧ 1 ≤ 2 ^ n ∧ 2 ^ n ≤ 1024 := by
  have h1 : 2 ^ n ≤ 2 ^ 10 := Nat.pow_le_pow_right (by omega) h
  have h2 : (2 : Nat) ^ 10 = 1024 := by decide
  refine ⟨?_, two_pos n, by omega⟩
  have e : (2 : Int) ^ n = ((2 ^ n : Nat) : Int) := by push_cast; rfl
  rw [e]
  generalize 2 ^ n = P at *
  unfold wrap64
  omega
theorem count_c (cs : ByteArray) (w : World) (h : cs.size ≤ 10) : Calls Tryz.prog 68 #[.string cs] w fun e w' => e = .returned (.int .i64 ((2 ^ cs.size - 1 : Nat) : Int)) ∧ w = w' := by
  obtain ⟨h1, h2, h3⟩ := shl_one h
  have H := Lib.hid (show ((2 ^ cs.size : Nat) : Int) - 1 = ((2 ^ cs.size - 1 : Nat) : Int) by omega)
  generalize hP : 2 ^ cs.size = P at *
  clear hP
  have h4 : wrap64 ((P : Int) - 1) = (P : Int) - 1 := by unfold wrap64; omega
  go_enter Tryz.func68, Tryz.ntmps68
  go_wp2_with fail
  go_ret
  exact ⟨by rw [← H.out]; rfl, rfl⟩
theorem turns_c (cs : ByteArray) (w : World) : Calls Tryz.prog 69 #[.string cs] w fun e w' => e = .returned (.func (.func 95) #[] #[.pointer (some ⟨w.heap.size, 0, none⟩)]) ∧ w' = w.alloc (.cells #[.string cs] 9) := by
  go_enter Tryz.func69, Tryz.ntmps69
  go_wp2
  go_ret
  exact ⟨rfl, rfl⟩

/-- what a round keeps: what lay below n₀, and one more block -/
def KpL (n₀ Bn : Nat) (A B : World) : Prop := Below n₀ A B ∧ B.heap[Bn]? = A.heap[Bn]?
theorem KpL.refl (n₀ Bn : Nat) (A : World) : KpL n₀ Bn A A := ⟨Below.refl _ _, rfl⟩
theorem KpL.trans {n₀ Bn : Nat} {A B C : World} (h : KpL n₀ Bn A B) (k : KpL n₀ Bn B C) : KpL n₀ Bn A C := ⟨h.1.trans k.1, k.2.trans h.2⟩
theorem KpL.put {n₀ Bn : Nat} {w : World} (hn : n₀ ≤ w.heap.size) (hB : Bn < w.heap.size) (W : World) (l : Nat) (o o' : Obj) (hl : w.heap.size ≤ l) (h : W.heap[l]? = some o) (h1 : o.isCells = false) (h2 : o.isWalk = false) : KpL n₀ Bn W (W.putObj l o') :=
  ⟨belowK_b hn W l o o' hl h h1 h2, World.putObj_heap_other (by omega)⟩
theorem KpL.cell {n₀ Bn : Nat} {A B : World} (h : KpL n₀ Bn A B) {v : Value} (hv : A.cell? ⟨Bn, 0, none⟩ = some v) : B.cell? ⟨Bn, 0, none⟩ = some v := (World.cell?_of_block (w := A) (a := ⟨Bn, 0, none⟩) h.2).trans hv
set_option maxRecDepth 100000 in
set_option maxHeartbeats 4000000 in
/-- the function to range over: each letter with its index from 1 on, for every body that keeps what lay below n₀ and the box of the creases -/
theorem letters_in {α : Type} (f : α → Nat) (n l Bn n₀ : Nat) (hn : 1 ≤ n) (cs : ByteArray) (mk : ∀ k, k < 2 ^ cs.size - 1 → α) (hmk : ∀ k h, f (mk k h) = k) (hw : wdB 10 cs = true) (J Jx : List α → World → Prop)
    (hY : ∀ (pre : List α) (x : α) W, J pre W → pre.length < 2 ^ cs.size - 1 → YieldAt Fence.wide (n - 1) Tryz.prog l #[.int .i64 ((f x : Int) + 1), .int .u8 ((ltC (toL cs) (f x)).toNat : Int)] W fun e W' =>
      (e = .returned (.bool true) ∧ J (pre ++ [x]) W' ∧ KpL n₀ Bn W W') ∨ (e = .returned (.bool false) ∧ Jx (pre ++ [x]) W'))
    (W : World) (hD : 8 < n₀) (hc : W.cell? ⟨Bn, 0, none⟩ = some (.string cs)) (hT : Tz W) (h0 : J [] W) :
    CallsIn Fence.wide n Tryz.prog 95 #[.func (.yield l) #[] #[], .pointer (some ⟨Bn, 0, none⟩)] W fun e W' => (∃ v, e = .returned v) ∧
      ((∃ ys, ys.map f = List.range (2 ^ cs.size - 1) ∧ J ys W') ∨ (∃ pre, pre.map f <+: List.range (2 ^ cs.size - 1) ∧ Jx pre W')) := by
  have h10 := wdB_len hw
  have hp1 := two_pos cs.size
  have hp2 : 2 ^ cs.size ≤ 1024 := (shl_one h10).2.2
  have HW := Lib.hid hw
  have HT := Lib.hid hT
  clear hw hT
  refine callsIn_of_wp Tryz.func95 rfl trivial ?_ rfl
  simp only [Tryz.ntmps95, List.size_toArray, List.length_cons, List.length_nil, Nat.reduceAdd, Nat.reduceSub, Array.replicate_succ, Array.replicate_zero, List.push_toArray, List.append_toArray, List.nil_append, List.cons_append]
  gi_wp2
  gi_loopw [3] (fun i wr => ∃ (k : Nat) (pre : List α), k ≤ 2 ^ cs.size - 1 ∧ i = .int .i64 ((k + 1 : Nat) : Int) ∧ pre.map f = List.range k ∧ J pre wr ∧ KpL n₀ Bn W wr)
    (fun i _ => 2000 - (intOf i).toNat)
  case atStart => exact ⟨0, [], Nat.zero_le _, rfl, rfl, h0, KpL.refl _ _ _⟩
  case round =>
    obtain ⟨k, pre, hk, rfl, hpre, hJs, hnx⟩ := hrel
    have hcx : wr.cell? ⟨Bn, 0, none⟩ = some (.string cs) := hnx.cell hc
    have HTx := Lib.hid (HT.out.keep hD hnx.1)
    have hpl : pre.length = k := by rw [← List.length_map f, hpre, List.length_range]
    by_cases hlt : k < 2 ^ cs.size - 1
    · obtain ⟨fn, tmps, assign, body, hy, hR⟩ := hY pre (mk k hlt) wr hJs (by omega)
      have hm := hmk k hlt
      have HM := Lib.hid hm
      simp only [hm] at hy
      have HL := Lib.hid (turnLet_c cs k wr HTx.out HW.out (by omega))
      have hle : ¬ ((2 ^ cs.size - 1 : Nat) : Int) < ((k + 1 : Nat) : Int) := by omega
      have HPX := Lib.hid hpre
      clear hm hpre
      generalize hX : mk k hlt = X at *
      generalize hP : 2 ^ cs.size - 1 = P at *
      clear hX
      gi_wp2_with (first | (refine ⟨trivial, ?_⟩; gi_at_call 68; refine (callsIn_wide.2 (count_c cs _ h10)).mono ?_; rintro e w' ⟨rfl, rfl⟩; rw [hP]) | (refine ⟨trivial, ?_⟩; gi_at_call 96; refine (callsIn_wide.2 HL.out).mono ?_; rintro e w' ⟨rfl, rfl⟩))
      refine hR.mono ?_
      have hnew : (pre ++ [X]).map f = List.range (k + 1) := by rw [List.map_append, HPX.out, List.range_succ]; simp [HM.out]
      rintro e W3 (⟨rfl, hJ3, hk3⟩ | ⟨rfl, hJx3⟩)
      · gi_wp2
        go_roundw
        case rel => exact ⟨k + 1, _, by omega, by simp, hnew, hJ3, hnx.trans hk3⟩
        case measure => simp [intOf]; omega
      · gi_wp2
        refine bodyPost_ret (results_none rfl _ _ _) rfl ?_
        exact ⟨⟨_, rfl⟩, .inr ⟨_, by rw [hnew]; exact range_pre (by omega), hJx3⟩⟩
    · obtain rfl : k = 2 ^ cs.size - 1 := by omega
      have HPX := Lib.hid hpre
      clear hpre hpl
      gi_wp2_with (first | (refine ⟨trivial, ?_⟩; gi_at_call 68; refine (callsIn_wide.2 (count_c cs _ h10)).mono ?_; rintro e w' ⟨rfl, rfl⟩))
      go_end0
      exact ⟨⟨_, rfl⟩, .inl ⟨_, HPX.out, hJs⟩⟩
theorem letters_stops {α : Type} (f : α → Nat) (n Bn n₀ : Nat) (hn : 1 ≤ n) (cs : ByteArray) (mk : ∀ k, k < 2 ^ cs.size - 1 → α) (hmk : ∀ k h, f (mk k h) = k) (hw : wdB 10 cs = true) (w : World) (hB : Bn < w.heap.size) (hD : 8 < n₀) (hn₀ : n₀ ≤ w.heap.size) (hc : w.cell? ⟨Bn, 0, none⟩ = some (.string cs)) (hT : Tz w) :
    SeqStopsK Fence.wide n Tryz.prog 95 #[.pointer (some ⟨Bn, 0, none⟩)] (fun x : α => #[Value.int .i64 ((f x : Int) + 1), Value.int .u8 ((ltC (toL cs) (f x)).toNat : Int)]) (KpL n₀ Bn) (fun ys => ys.map f = List.range (2 ^ cs.size - 1)) (fun pre => pre.map f <+: List.range (2 ^ cs.size - 1)) (2 ^ cs.size - 1) w := fun l J Jx W hW _ _ hY h0 =>
  letters_in f n l Bn n₀ hn cs mk hmk hw J Jx hY W hD ((hW.cell (p := ⟨Bn, 0, none⟩) hB).trans hc) (hT.keep (Nat.lt_of_lt_of_le hD hn₀) hW) h0
end Go.Proofs.YtmdnfamjdogogaaGreatDoor

namespace Go.Proofs.YtmdnfamjdogogaaGreatDoor
set_option linter.unusedSimpArgs false
set_option linter.unusedVariables false
open Go.RowKit Go.Shelf

attribute [local go_sem] Oper.semAt_some

/-- the row of the letters that have come -/
def ltR (cs : ByteArray) (pre : List Nat) : List Value := pre.map fun x => encB (ltC (toL cs) x)
theorem ltR_snoc (cs : ByteArray) (pre : List Nat) (x : Nat) : ltR cs (pre ++ [x]) = ltR cs pre ++ [encB (ltC (toL cs) x)] := by simp [ltR]
theorem ltR_all (cs : ByteArray) : ltR cs (List.range (2 ^ cs.size - 1)) = (turnsL (toL cs)).map encB := by
  have := ltC_map (toL cs)
  rw [toL_len] at this
  rw [← this, List.map_map]; rfl
set_option maxRecDepth 100000 in
set_option maxHeartbeats 8000000 in
theorem iTurnWord_c (s : ByteArray) (w : World) (hT : Tz w) : Calls Tryz.prog 48 #[.string s] w fun e w' => e = .returned (twV s) ∧ Below w.heap.size w w' := by
  have h6 := hT.pos
  rcases Bool.eq_false_or_eq_true (wdB 10 s) with h | h
  · have H := Lib.hid (twV_t h)
    have HW := Lib.hid h
    have HT := Lib.hid hT
    have h10 := wdB_len h
    obtain ⟨i0, hi, hz0, hz1, hz2⟩ := info_parts infoB
    have hp2 : 2 ^ s.size ≤ 1024 := (shl_one h10).2.2
    have hp1 := two_pos s.size
    have HR := Lib.hid (ltR_all s)
    clear hT
    refine (callsIn_wide (n := 6)).1 ?_
    refine callsIn_of_wp_marks Tryz.func48 rfl trivial ?_ rfl
    simp only [Tryz.ntmps48, List.size_toArray, List.length_cons, List.length_nil, Nat.reduceAdd, Nat.reduceSub, Array.replicate_succ, Array.replicate_zero, List.push_toArray, List.append_toArray, List.nil_append, List.cons_append]
    gi_wp2_with (first | (refine ⟨trivial, ?_⟩; gi_at_call 67; refine (callsIn_wide.2 (areCreases_c _ _)).mono ?_; rintro e w1 ⟨rfl, hb⟩) | (refine ⟨trivial, ?_⟩; gi_at_call 68; refine (callsIn_wide.2 (count_c s _ h10)).mono ?_; rintro e w' ⟨rfl, rfl⟩))
    generalize hP : 2 ^ s.size - 1 = P at *
    have hP2 : P ≤ 1023 := by omega
    obtain ⟨W1, hrun, hown, hgrow⟩ := run_make_own (P := Tryz.prog) w1 w1.heap.size 22 5 i0 (.int .u8 0) 1 Tryz.underlying22 hi hz0 hz1 .i64 .i64 P (by rw [hz2]; omega) (by unfold maxLen; omega) (Nat.le_refl _)
    rw [hrun]
    gi_wp2_with (first | (refine ⟨trivial, ?_⟩; gi_at_call 69; refine (callsIn_wide.2 (turns_c _ _)).mono ?_; rintro e w2 ⟨rfl, rfl⟩))
    have hs1 := hb.size
    have hg1 := hgrow.size
    have hL1 : w1.heap.size < W1.heap.size := (hown.lt _ rfl).2
    have hBw : Below w.heap.size w W1 := hb.trans (Below.grown (Below.refl _ _) hgrow hs1 (fun k hk => by cases hk))
    have hBw1 : Below w1.heap.size w1 W1 := Below.grown (Below.refl _ _) hgrow (Nat.le_refl _) (fun k hk => by cases hk)
    have bO := Boxed.new W1 22 (.slice (some ⟨w1.heap.size, 0, none⟩) 0 P)
    have bN := Boxed.new (W1.alloc (.cells #[.slice (some ⟨w1.heap.size, 0, none⟩) 0 P] 22)) 9 (.string s)
    rw [World.size_alloc] at bN
    have hB0 : Below w.heap.size w ((W1.alloc (.cells #[.slice (some ⟨w1.heap.size, 0, none⟩) 0 P] 22)).alloc (.cells #[.string s] 9)) := (hBw.alloc (by omega) _).alloc (by simp; omega) _
    have HT0 := HT.out.keep h6 hB0
    have hst := letters_stops (α := Nat) id (6 - 1) (W1.heap.size + 1) w1.heap.size (by omega) s (fun k _ => k) (fun _ _ => rfl) HW.out ((W1.alloc (.cells #[.slice (some ⟨w1.heap.size, 0, none⟩) 0 P] 22)).alloc (.cells #[.string s] 9)) (by simp) (by omega) (by simp; omega) bN.cell HT0
    rw [hP] at hst
    simp only [id_eq, List.map_id_fun, id] at hst
    refine wpIn_rangeFunc_ownG rfl (by omega) (gf := 95) (lb := #[.pointer (some ⟨W1.heap.size + 1, 0, none⟩)]) rfl trivial (enters_of Tryz.func95 (by kernel_rfl) rfl)
      hst KpL.trans (KpL.put (by simp; omega) (by simp)) (Below.refl _ _) (fun _ => rfl)
      (fun pre W => ((∃ v, Boxed W W1.heap.size 22 v ∧ W.ownsRow w1.heap.size 5 1 v pre.length (ltR s pre) ∧ True) ∧ Boxed W (W1.heap.size + 1) 9 (.string s)) ∧ Below w.heap.size w W)
      (fun _ _ _ => False)
      (OwnFrom.and (OwnFrom.and (Own.from (holdsRow_own w1.heap.size W1.heap.size 22 5 1 (fun pre : List Nat => pre.length) (fun pre => ltR s pre) (fun _ _ => True)) _) (Own.from (boxed_own (W1.heap.size + 1) 9 (fun _ => .string s)) _)) (ownFrom_below (Nat.le_refl _) (by simp; omega)))
      (fun _ _ _ _ _ hs _ _ => hs)
      ⟨⟨⟨_, bO.alloc _, (hown.alloc _).alloc _, trivial⟩, bN⟩, hB0⟩
      (fun x => { tmps := #[.string s, undef, .string ⟨#[]⟩, .bool false, .pointer (some ⟨W1.heap.size, 0, none⟩), undef, .int .u8 ((ltC (toL s) x).toNat : Int), .string s, .bool true, .bool false, .string s, .int .i64 P, .slice (some ⟨w1.heap.size, 0, none⟩) 0 P, .string s, .func (.func 95) #[] #[.pointer (some ⟨W1.heap.size + 1, 0, none⟩)], .int .i64 ((x : Int) + 1), .int .u8 ((ltC (toL s) x).toNat : Int), undef, undef, undef, undef, undef, undef], defers := [] }) ?assign ?body ?done ?stop
    case assign =>
      intro l x W K hK
      gi_wp2
      exact hK
    case body =>
      rintro l pre x W ⟨⟨⟨v, hv, hrow, -⟩, hbn⟩, hB⟩ hlt
      have hc := hv.cell
      have hWs := hB.size
      have hvl := hv.lt
      gi_wp2_with (gi_at_builtin; refine wpListIn_append_own _ rfl _ _ 22 rfl w1.heap.size 5 i0 (.int .u8 0) 1 1 Tryz.underlying22 hi hz0 hz1 hz2 rfl (by decide) _ _ _ rfl (hrow.alloc _) ⟨W.heap.size, 0, none⟩ 1 1 [encB (ltC (toL s) x)] rfl rfl (cell_one_new _ _ _) (one1 _ rfl) (by unfold maxLen; omega) (by omega) (by simp; omega) ?_; intro v' w3 hown' hgrow' _; obtain ⟨g', cap', rfl⟩ := ownsRow_succ hown'; obtain ⟨hv1, hv2, hr2, hk2, hb2⟩ := hv.appended (by decide) hrow (by omega) (by omega) hown' hgrow'; have hc1 := hv1.cell; have hf1 := hv1.frozen)
      have hbn3 : Boxed w3 (W1.heap.size + 1) 9 (.string s) := (hbn.alloc _).kept hgrow' (hbn.not_row (by decide) hrow)
      have hbn4 := hbn3.other (B' := W1.heap.size) (by omega) (.slice (some ⟨g', 0, none⟩) (pre.length + 1) cap')
      refine ⟨hk2.from _, ⟨hb2, hbn4.trans hbn.symm⟩, ⟨⟨_, hv2, ?_, trivial⟩, hbn4⟩, hB.trans (hb2.mono (by omega))⟩
      rw [ltR_snoc, List.length_append]
      exact hr2
    case done =>
      rintro D ys W hD rfl ⟨⟨⟨v, hv, hrow, -⟩, hbn⟩, hB⟩ hK
      have hc := hv.cell
      rw [HR.out] at hrow
      have hcv := conv_row hrow
      gi_wp2
      refine ⟨by simp, .inl ⟨_, _, rfl, run_takeDeferred hK, ?_⟩⟩
      refine ⟨_, results_tmp2 rfl _ _ _, by rw [H.out]; rfl, hB.trans (belowK_b (w := w) (Nat.le_refl _) W D _ _ (by simp at hD; omega) hK rfl rfl)⟩
    case stop =>
      rintro D c pre W _ _ h _
      exact h.elim
  · have H := Lib.hid (twV_f h)
    clear hT
    go_enter Tryz.func48, Tryz.ntmps48
    go_wp2_with (first | (go_at_call 67; refine (areCreases_c _ _).mono ?_; rintro e w1 ⟨rfl, hb⟩; obtain ⟨hc, hf⟩ := bcell hb; have hz := bsize hb; have hs := hb.size; try simp at hs))
    go_ret2
    exact ⟨by rw [H.out]; rfl, by (first | ((repeat' with_reducible first | assumption | exact Below.refl _ _ | apply Blw.alloc | apply Blw.drew | apply Blw.drewN | (refine Blw.after ?_ (by assumption)) | (refine Blw.set ?_ (by first | (dsimp only; omega) | (simp; omega)) _)); done) | (repeat' (first | assumption | exact Below.refl _ _ | apply Blw.alloc | apply Blw.drew | apply Blw.drewN | (refine Blw.after ?_ (by assumption)) | (refine Blw.set ?_ (by first | (dsimp only; omega) | (simp; done) | (simp; omega)) _))))⟩
end Go.Proofs.YtmdnfamjdogogaaGreatDoor

namespace Go.Proofs.YtmdnfamjdogogaaGreatDoor
set_option linter.unusedSimpArgs false
set_option linter.unusedVariables false
open Go.RowKit Ieee

theorem hasNaN_c (p : Nat × Nat) (w : World) : Calls Tryz.prog 49 #[encW p] w fun e w' => e = .returned (.bool (!eqW p p)) ∧ w = w' := by
  have f1 := fun w t => run_wne (P := Tryz.prog) w t p p
  go_enter Tryz.func49, Tryz.ntmps49
  go_wp2
  go_ret
  exact ⟨rfl, rfl⟩
theorem turns_wd {s : ByteArray} (h : wdB 10 s = true) : wdB 1023 (twS s) = true := by
  have e : twS s = bs (turnsL (toL s)) := by unfold twS selW; rw [h]; rfl
  have hl := turnsL_len (toL s)
  have h10 := wdB_len h
  rw [toL_len] at hl
  have hp : 2 ^ s.size ≤ 2 ^ 10 := Nat.pow_le_pow_right (by omega) h10
  have e10 : (2 : Nat) ^ 10 = 1024 := by decide
  rw [e, wdB_of (by rw [← toL_len, toL_bs]; omega)]
  unfold onlyW
  rw [toL_bs, List.all_eq_true]
  exact turnsL_wd _ (wdB_all h)
def ptsI (s : ByteArray) (p : Nat × Nat) : List (Nat × Nat) := if okE s p then ptsE s p else []
theorem ptsI_t {s : ByteArray} {p : Nat × Nat} (h : okE s p = true) : ptsI s p = ptsE s p := by unfold ptsI; rw [h]; rfl
theorem ptsI_f {s : ByteArray} {p : Nat × Nat} (h : okE s p = false) : ptsI s p = [] := by unfold ptsI; rw [h]; rfl
def MvPostI (s : ByteArray) (p : Nat × Nat) (w : World) (e : Ending) (w' : World) : Prop :=
  ∃ v, e = .returned (.tuple #[v, .bool (okE s p)]) ∧ w'.ownsRow w.heap.size 23 1 v (ptsI s p).length ((ptsI s p).map encW) ∧ Below w.heap.size w w'
theorem mvI_no {s : ByteArray} {p : Nat × Nat} {w w' : World} (h : okE s p = false) (hb : Below w.heap.size w w') : MvPostI s p w (.returned (.tuple #[.slice none 0 0, .bool false])) w' := by
  refine ⟨_, by rw [h], ?_, hb⟩
  rw [ptsI_f h]
  exact World.ownsRow_nil _ _ _ _
/-- moved in place so far -/
def mvI (Z : List (Int × Int)) (p : Nat × Nat) (k : Nat) : List Value := mvE Z p k ++ (Z.drop k).map encP
theorem mvE_len {Z : List (Int × Int)} {p : Nat × Nat} {k : Nat} (h : k ≤ Z.length) : (mvE Z p k).length = k := by unfold mvE; rw [List.length_map, List.length_take]; omega
theorem mvI_zero (Z : List (Int × Int)) (p : Nat × Nat) : mvI Z p 0 = Z.map encP := by simp [mvI, mvE]
theorem mvI_get (Z : List (Int × Int)) (p : Nat × Nat) {k : Nat} (h : k < Z.length) : (mvI Z p k)[k]? = some (encP Z[k]) := by
  unfold mvI
  rw [List.getElem?_append_right (by rw [mvE_len (by omega)]; exact Nat.le_refl _), mvE_len (by omega), Nat.sub_self, List.getElem?_map, List.getElem?_drop, Nat.add_zero, List.getElem?_eq_getElem h]; rfl
theorem mvI_set (Z : List (Int × Int)) (p : Nat × Nat) {k : Nat} (h : k < Z.length) : (mvI Z p k).set k (encW (aW p Z[k])) = mvI Z p (k + 1) := by
  unfold mvI
  rw [List.set_append_right _ _ (by rw [mvE_len (by omega)]; exact Nat.le_refl _), mvE_len (by omega), Nat.sub_self, List.drop_eq_getElem_cons h, List.map_cons, List.set_cons_zero, mv_snoc p h, List.append_assoc]
  rfl
theorem mvI_all (Z : List (Int × Int)) (p : Nat × Nat) : mvI Z p Z.length = (Z.map (aW p)).map encW := by unfold mvI; rw [List.drop_length, List.map_nil, List.append_nil, mvE_all]
def MvRelI (Z : List (Int × Int)) (p : Nat × Nat) (g c : Nat) (w : World) (m : Nat) (i : Value) (wr : World) : Prop :=
  ∃ k : Nat, k + m = Z.length ∧ i = .int .i64 k ∧ wr.ownsRow w.heap.size 23 1 (.slice (some ⟨g, 0, none⟩) Z.length c) Z.length (mvI Z p k) ∧ Below w.heap.size w wr
theorem ownZ_some {w : World} {B n : Nat} {v : Value} {l : List Value} (h : w.ownsRow B 23 1 v n l) (hn : 0 < n) : ∃ g c, v = .slice (some ⟨g, 0, none⟩) n c ∧ B ≤ g ∧ g < w.heap.size := by
  rcases h.2 with ⟨rfl, h0⟩ | ⟨g, cap, cur, rfl, hg, hgg, -⟩
  · omega
  · exact ⟨g, cap, rfl, hg, (Array.getElem?_eq_some_iff.1 hgg).1⟩
set_option maxRecDepth 100000 in
set_option maxHeartbeats 8000000 in
theorem movedCurve_c (s : ByteArray) (p : Nat × Nat) (w : World) (hp : W32 p) (hT : Tz w) : Calls Tryz.prog 30 #[.string s, encW p] w (MvPostI s p w) := by
  have fst := fun W a x y m => run_store Tryz.prog W a (.complex .f32 x y) m rfl
  go_enter Tryz.func30, Tryz.ntmps30
  go_wp2_with fail
  refine (iTurnWord_c s w hT).mono ?_
  rintro e W1 ⟨rfl, hb1⟩
  rw [show twV s = .tuple #[.string (twS s), .bool (wdB 10 s)] by rfl]
  clear hT
  rcases Bool.eq_false_or_eq_true (wdB 10 s) with hw | hw
  · by_cases h0 : s.size = 0
    · have FIN := Lib.hid (mvI_no (okE_0 p h0) hb1)
      obtain rfl := nil_sz h0
      clear h0
      rw [hw]
      go_wp2_with fail
      go_ret2
      exact FIN.out
    · have hne : s.toList.isEmpty = false := by
        rw [toList_toL]
        cases hh : toL s with
        | nil => exact absurd (by rw [← toL_len, hh]; rfl) h0
        | cons a l => rfl
      rcases Bool.eq_false_or_eq_true (eqW p p) with he | he
      · have hn := nn_of_eq hp he
        have hok := okE_t hw h0 he
        have htw := turns_wd hw
        have HV := Lib.hid (ptsI_t hok)
        have HO := Lib.hid hok
        have HPE := Lib.hid (show ptsE s p = (crvA (twS s)).map (aW p) from rfl)
        have hH := fun w => hasNaN_c p w
        rw [he] at hH
        rw [hw]
        clear h0 hok he hw
        generalize twS s = T at *
        go_wp2_with (first | (go_at_call 49; refine (hH _).mono ?_; rintro e w1 ⟨rfl, rfl⟩))
        refine (iCurveOf_c T W1).mono ?_
        rintro e W2 ⟨v, rfl, ho, hb2⟩
        rw [htw]
        have hlen : 0 < (crvA T).length := by rw [crvA_len htw]; omega
        obtain ⟨g, c, rfl, hg, hgl⟩ := ownZ_some ho hlen
        have HSM := Lib.hid (crvA_sm (t := T))
        have hle := crvA_le T
        have HB2 := Lib.hid (Blw.after hb1 hb2)
        have hzb := hb1.size
        have HOW := Lib.hid (ownsRow_low hzb ho)
        generalize crvA T = Z at *
        have S0 := Lib.hid (show MvRelI Z p g c w Z.length (.int .i64 0) W2 from ⟨0, by omega, rfl, by rw [mvI_zero]; exact HOW.out, HB2.out⟩)
        clear ho hb1 hb2 htw hH
        go_wp2_with fail
        go_loopg [9, 10, 33] Z.length (fun m a b i wr => MvRelI Z p g c w m i wr)
        case atStart => exact S0.out
        case round =>
          clear S0
          obtain ⟨k, hk, rfl, hown, hB⟩ := hrel
          have HX := Lib.hid hown
          have HB := Lib.hid hB
          by_cases hlt : k < Z.length
          · have cV : wr.cell? ⟨g, k, none⟩ = some (encP Z[k]) := by rw [hown.cellAt k (by omega), mvI_get Z p hlt]
            have fV : wr.frozen? ⟨g, k, none⟩ = false := hown.frozenAt k
            have Lg : g < wr.heap.size := World.block_lt_of_cell? wr _ cV
            have hz := HSM.out Z[k] (List.getElem_mem hlt)
            have f1 := fun w t => run_wadd (P := Tryz.prog) w t hn hz
            have HST := Lib.hid (hown.stored k (encW (aW p Z[k]))).1
            have HSL := Lib.hid (mvI_set Z p hlt)
            have hgw : w.heap.size ≤ g := by omega
            have HS2 := Lib.hid (show Below w.heap.size w (wr.setCell ⟨g, k, none⟩ (encW (aW p Z[k]))) from Blw.set hB hgw _)
            clear hz hown hB HX HB
            generalize Z[k] = z at *
            generalize aW p z = q at *
            go_wp2_with fail
            go_roundg (gk - 1)
            case measure => omega
            case rel => exact ⟨k + 1, by omega, by go_num, by rw [← HSL.out]; exact HST.out, HS2.out⟩
          · obtain rfl : k = Z.length := by omega
            have FIN := Lib.hid (show MvPostI s p w (.returned (.tuple #[.slice (some ⟨g, 0, none⟩) Z.length c, .bool true])) wr from by
              refine ⟨_, by rw [HO.out], ?_, hB⟩
              rw [mvI_all] at hown
              rw [HV.out, HPE.out, List.length_map]
              exact hown)
            clear hown hB
            go_wp2_with fail
            go_ret2
            exact FIN.out
      · have FIN := Lib.hid (mvI_no (okE_n (s := s) he) hb1)
        have hH := fun w => hasNaN_c p w
        rw [he] at hH
        rw [hw]
        clear h0 he
        go_wp2_with (first | (go_at_call 49; refine (hH _).mono ?_; rintro e w1 ⟨rfl, rfl⟩))
        go_ret2
        exact FIN.out
  · have FIN := Lib.hid (mvI_no (okE_w p hw) hb1)
    rw [hw]
    go_wp2_with fail
    go_ret2
    exact FIN.out
end Go.Proofs.YtmdnfamjdogogaaGreatDoor

namespace Go.Proofs.YtmdnfamjdogogaaGreatDoor
set_option linter.unusedSimpArgs false
set_option linter.unusedVariables false
open Go.RowKit Ieee

theorem ptsI_le (s : ByteArray) (p : Nat × Nat) : (ptsI s p).length ≤ 1025 := by
  rcases Bool.eq_false_or_eq_true (okE s p) with h | h
  · rw [ptsI_t h]; exact ptsE_le _ _
  · rw [ptsI_f h]; simp
theorem ptsI_w {s : ByteArray} {p : Nat × Nat} (hp : W32 p) : ∀ q ∈ ptsI s p, W32 q := by
  rcases Bool.eq_false_or_eq_true (okE s p) with h | h
  · rw [ptsI_t h]; exact fun q hq => (ptsE_nn (nn_of_eq hp (okE_iff h).2.2) q hq).w
  · rw [ptsI_f h]; intro q hq; cases hq
set_option maxRecDepth 100000 in
set_option maxHeartbeats 4000000 in
theorem iEntryMake_c (s : ByteArray) (p : Nat × Nat) (w : World) (hp : W32 p) (hT : Tz w) : Calls Tryz.prog 17 #[.string s, encW p] w fun e w' => e = .returned (emV s p) ∧ Below w.heap.size w w' := by
  have fst := fun W a x y m => run_store Tryz.prog W a (.complex .f32 x y) m rfl
  have hpos := hT.pos
  have HT := Lib.hid hT
  clear hT
  go_enter Tryz.func17, Tryz.ntmps17
  go_wp2_with fail
  generalize hW : World.alloc _ _ = W0
  have N0 := Lib.hid (show BxE w.heap.size ⟨#[]⟩ (0, 0) 0 W0 by rw [← hW]; exact BxE.new _ _ _ _ _)
  have hB0 : Below w.heap.size w W0 := by rw [← hW]; (first | ((repeat' with_reducible first | assumption | exact Below.refl _ _ | apply Blw.alloc | apply Blw.drew | apply Blw.drewN | (refine Blw.after ?_ (by assumption)) | (refine Blw.set ?_ (by first | (dsimp only; omega) | (simp; omega)) _)); done) | (repeat' (first | assumption | exact Below.refl _ _ | apply Blw.alloc | apply Blw.drew | apply Blw.drewN | (refine Blw.after ?_ (by assumption)) | (refine Blw.set ?_ (by first | (dsimp only; omega) | (simp; done) | (simp; omega)) _))))
  have HT0 := Lib.hid (HT.out.keep hpos hB0)
  have HB0 := Lib.hid hB0
  clear hW hB0 HT hpos
  go_wp2_with fail
  refine (movedCurve_c s p W0 hp HT0.out).mono ?_
  rintro e W1 ⟨v, rfl, ho, hb1⟩
  obtain ⟨a1, c1, rfl, hcs, -⟩ := own_csl ho
  rw [List.length_map]
  have N1 := Lib.hid (N0.out.keep hb1)
  have HB1 := Lib.hid (Blw.after HB0.out hb1)
  have HS := Lib.hid (iSumPoints_c a1 c1 (ptsI s p) W1 (by have := ptsI_le s p; omega) (ptsI_w hp) hcs)
  clear ho hcs hb1 HB0 N0 HT0
  obtain ⟨z0, d0, d1, d2, f0, f1, f2⟩ := N1.out
  rcases Bool.eq_false_or_eq_true (okE s p) with hok | hok
  · have HV := Lib.hid (emV_t hok)
    rw [ptsI_t hok] at *
    rw [hok]
    clear hok
    generalize ptsE s p = E at *
    go_wp2_with fail
    refine HS.out.mono ?_
    rintro e w1 ⟨rfl, rfl⟩
    go_wp2_with fail
    rw [HV.out]
    have hB : Below w.heap.size w W1 := HB1.out
    exact bodyPost_ret (v := .tuple #[encE s p (sumN E), .bool true]) (by simp [results, Tryz.results17, go_sem, *]) rfl ⟨rfl, by (first | ((repeat' with_reducible first | assumption | exact Below.refl _ _ | apply Blw.alloc | apply Blw.drew | apply Blw.drewN | (refine Blw.after ?_ (by assumption)) | (refine Blw.set ?_ (by first | (dsimp only; omega) | (simp; omega)) _)); done) | (repeat' (first | assumption | exact Below.refl _ _ | apply Blw.alloc | apply Blw.drew | apply Blw.drewN | (refine Blw.after ?_ (by assumption)) | (refine Blw.set ?_ (by first | (dsimp only; omega) | (simp; done) | (simp; omega)) _))))⟩
  · have HV := Lib.hid (emV_f hok)
    rw [ptsI_f hok] at *
    rw [hok]
    clear hok
    go_wp2_with fail
    rw [HV.out]
    have hB : Below w.heap.size w W1 := HB1.out
    exact bodyPost_ret (v := .tuple #[encE ⟨#[]⟩ (0, 0) 0, .bool false]) (by simp [results, Tryz.results17, go_sem, *]) rfl ⟨rfl, by (first | ((repeat' with_reducible first | assumption | exact Below.refl _ _ | apply Blw.alloc | apply Blw.drew | apply Blw.drewN | (refine Blw.after ?_ (by assumption)) | (refine Blw.set ?_ (by first | (dsimp only; omega) | (simp; omega)) _)); done) | (repeat' (first | assumption | exact Below.refl _ _ | apply Blw.alloc | apply Blw.drew | apply Blw.drewN | (refine Blw.after ?_ (by assumption)) | (refine Blw.set ?_ (by first | (dsimp only; omega) | (simp; done) | (simp; omega)) _))))⟩
/-- an entry that is right -/
def rtE (s : ByteArray) (p : Nat × Nat) (n : Nat) : Bool := okE s p && decide (sumN (ptsE s p) = n)
theorem rtE_f {s : ByteArray} {p : Nat × Nat} {n : Nat} (h : okE s p = false) : rtE s p n = false := by unfold rtE; rw [h]; rfl
theorem rtE_n {s : ByteArray} {p : Nat × Nat} {n : Nat} (h : ¬ sumN (ptsE s p) = n) : rtE s p n = false := by unfold rtE; rw [decide_eq_false h, Bool.and_false]
theorem rtE_t {s : ByteArray} {p : Nat × Nat} {n : Nat} (h : okE s p = true) (h2 : sumN (ptsE s p) = n) : rtE s p n = true := by unfold rtE; rw [h, decide_eq_true h2]; rfl
theorem rtE_iff {s : ByteArray} {p : Nat × Nat} {n : Nat} (h : rtE s p n = true) : okE s p = true ∧ sumN (ptsE s p) = n := by
  unfold rtE at h
  simp only [Bool.and_eq_true, decide_eq_true_eq] at h
  exact h
def RcPost (s : ByteArray) (p : Nat × Nat) (n : Nat) (w : World) (e : Ending) (w' : World) : Prop :=
  ∃ v, e = .returned (.tuple #[v, .bool (rtE s p n)]) ∧ (rtE s p n = true → w'.ownsRow w.heap.size 23 1 v (ptsE s p).length ((ptsE s p).map encW)) ∧ Below w.heap.size w w'
theorem rc_no {s : ByteArray} {p : Nat × Nat} {n : Nat} {w w' : World} (h : rtE s p n = false) (hb : Below w.heap.size w w') : RcPost s p n w (.returned (.tuple #[.slice none 0 0, .bool false])) w' := by
  refine ⟨.slice none 0 0, by rw [h], fun h' => ?_, hb⟩
  rw [h] at h'; cases h'
set_option maxRecDepth 100000 in
set_option maxHeartbeats 4000000 in
theorem rightCurve_c (s : ByteArray) (p : Nat × Nat) (n : Nat) (w : World) (hp : W32 p) (hT : Tz w) : Calls Tryz.prog 24 #[encE s p n] w (RcPost s p n w) := by
  have hpos := hT.pos
  have HT := Lib.hid hT
  clear hT
  go_enter Tryz.func24, Tryz.ntmps24
  go_wp2_with fail
  generalize hW : World.alloc _ _ = W0
  have N0 := Lib.hid (show BxE w.heap.size s p n W0 by rw [← hW]; exact BxE.new _ _ _ _ _)
  have hB0 : Below w.heap.size w W0 := by rw [← hW]; (first | ((repeat' with_reducible first | assumption | exact Below.refl _ _ | apply Blw.alloc | apply Blw.drew | apply Blw.drewN | (refine Blw.after ?_ (by assumption)) | (refine Blw.set ?_ (by first | (dsimp only; omega) | (simp; omega)) _)); done) | (repeat' (first | assumption | exact Below.refl _ _ | apply Blw.alloc | apply Blw.drew | apply Blw.drewN | (refine Blw.after ?_ (by assumption)) | (refine Blw.set ?_ (by first | (dsimp only; omega) | (simp; done) | (simp; omega)) _))))
  have HT0 := Lib.hid (HT.out.keep hpos hB0)
  have HB0 := Lib.hid hB0
  clear hW hB0 HT hpos
  obtain ⟨z0, d0, d1, d2, _⟩ := N0.out
  go_wp2_with fail
  refine (movedCurve_c s p W0 hp HT0.out).mono ?_
  rintro e W1 ⟨v, rfl, ho, hb1⟩
  obtain ⟨a1, c1, rfl, hcs, -⟩ := own_csl ho
  rw [List.length_map]
  have N1 := Lib.hid (N0.out.keep hb1)
  have HB1 := Lib.hid (Blw.after HB0.out hb1)
  have HO := Lib.hid (ownsRow_low (Nat.le_of_lt z0 : w.heap.size ≤ W0.heap.size) ho)
  rw [List.length_map] at HO
  have HS := Lib.hid (fun W (hW : Below W1.heap.size W1 W) => (iSumPoints_c a1 c1 (ptsI s p) W (by have := ptsI_le s p; omega) (ptsI_w hp) (hcs.keep hW)).mono fun e w' (h : _ ∧ W = w') => (⟨h.1, h.2 ▸ Below.refl _ _⟩ : e = _ ∧ Below W.heap.size W w'))
  clear ho hcs hb1 HB0 N0 HT0 d0 d1 d2 z0
  obtain ⟨z0, d0, d1, d2, _⟩ := N1.out
  rcases Bool.eq_false_or_eq_true (okE s p) with hok | hok
  · rw [ptsI_t hok] at *
    rw [hok]
    have hE := sumN_lt (ptsE s p)
    have HR1 := Lib.hid (fun h => rtE_t (n := n) hok h)
    have HR2 := Lib.hid (fun h => rtE_n (s := s) (p := p) (n := n) h)
    obtain ⟨m, hm⟩ : ∃ m, m = sumN (ptsE s p) := ⟨_, rfl⟩
    obtain ⟨E, hEE⟩ : ∃ E, E = ptsE s p := ⟨_, rfl⟩
    rw [← hm] at HS hE HR1 HR2
    rw [← hEE] at HS HO ⊢
    have HEE := Lib.hid hEE
    have k2 := fun x : BelowW W1 => keepcell x.kept d2
    have HS2 := fun x : BelowW W1 => HS.out x.at' x.kept
    clear hok hm hEE HS
    by_cases he : m = n
    · have HF := Lib.hid (HR1.out he)
      subst he
      clear HR1 HR2
      go_upto_region 2 with fail
      have hNE : ∀ w, Nonempty (BelowW w) := BelowW.none
      refine wp_region_below (by kernel_rfl) (by kernel_rfl) ?_
      repeat
        (with_reducible refine wpQuiet_step ?_
         intro K hK
         go_simp
         first
           | (refine hK _ ?_; clear hK K)
           | (apply Exists.intro
              refine ⟨fun xW => ?_, hK _ ?_⟩
              ((go_at_call 31; exact Calls.below (HS2 xW)))
              clear hK K))
      with_reducible refine wpQuiet_nil ?_
      rintro _ ⟨⟨w2, hb2⟩, rfl⟩
      try dsimp only
      rename_i w2
      have FIN := Lib.hid (show RcPost s p m w (.returned (.tuple #[.slice a1 E.length c1, .bool true])) w2 from
        ⟨_, by rw [HF.out], fun _ => by rw [← HEE.out]; exact own_below HO.out hb2, Blw.after HB1.out hb2⟩)
      clear k2 HS2 d0 d1 d2
      go_wp2_with fail
      go_ret2
      exact FIN.out
    · have HF := Lib.hid (HR2.out he)
      have hne : ¬ ((m : Int) = (n : Int)) := by omega
      clear HR1 HR2 he
      go_upto_region 2 with fail
      have hNE : ∀ w, Nonempty (BelowW w) := BelowW.none
      refine wp_region_below (by kernel_rfl) (by kernel_rfl) ?_
      repeat
        (with_reducible refine wpQuiet_step ?_
         intro K hK
         go_simp
         first
           | (refine hK _ ?_; clear hK K)
           | (apply Exists.intro
              refine ⟨fun xW => ?_, hK _ ?_⟩
              ((go_at_call 31; exact Calls.below (HS2 xW)))
              clear hK K))
      with_reducible refine wpQuiet_nil ?_
      rintro _ ⟨⟨w2, hb2⟩, rfl⟩
      try dsimp only
      rename_i w2
      have FIN := Lib.hid (show RcPost s p n w (.returned (.tuple #[.slice none 0 0, .bool false])) w2 from rc_no HF.out (Blw.after HB1.out hb2))
      clear k2 HS2 d0 d1 d2
      go_wp2_with fail
      go_ret2
      exact FIN.out
  · have HF := Lib.hid (rtE_f (n := n) hok)
    rw [hok]
    clear hok
    go_upto_region 2 with fail
    have hNE : ∀ w, Nonempty (BelowW w) := BelowW.none
    refine wp_region_below (by kernel_rfl) (by kernel_rfl) ?_
    repeat
      (with_reducible refine wpQuiet_step ?_
       intro K hK
       go_simp
       first
         | (refine hK _ ?_; clear hK K)
         | (apply Exists.intro
            refine ⟨fun xW => ?_, hK _ ?_⟩
            (fail)
            clear hK K))
    with_reducible refine wpQuiet_nil ?_
    rintro _ ⟨⟨w2, hb2⟩, rfl⟩
    try dsimp only
    rename_i w2
    have FIN := Lib.hid (show RcPost s p n w (.returned (.tuple #[.slice none 0 0, .bool false])) w2 from rc_no HF.out (Blw.after HB1.out hb2))
    clear d0 d1 d2
    go_wp2_with fail
    go_ret2
    exact FIN.out
set_option maxRecDepth 100000 in
set_option maxHeartbeats 4000000 in
theorem iEntryRight_c (s : ByteArray) (p : Nat × Nat) (n : Nat) (w : World) (hp : W32 p) (hT : Tz w) : Calls Tryz.prog 11 #[encE s p n] w fun e w' => e = .returned (.bool (rtE s p n)) ∧ Below w.heap.size w w' := by
  have hpos := hT.pos
  have HT := Lib.hid hT
  clear hT
  go_enter Tryz.func11, Tryz.ntmps11
  go_wp2_with fail
  generalize hW : World.alloc _ _ = W0
  have hB0 : Below w.heap.size w W0 := by rw [← hW]; (first | ((repeat' with_reducible first | assumption | exact Below.refl _ _ | apply Blw.alloc | apply Blw.drew | apply Blw.drewN | (refine Blw.after ?_ (by assumption)) | (refine Blw.set ?_ (by first | (dsimp only; omega) | (simp; omega)) _)); done) | (repeat' (first | assumption | exact Below.refl _ _ | apply Blw.alloc | apply Blw.drew | apply Blw.drewN | (refine Blw.after ?_ (by assumption)) | (refine Blw.set ?_ (by first | (dsimp only; omega) | (simp; done) | (simp; omega)) _))))
  have HT0 := Lib.hid (HT.out.keep hpos hB0)
  have HB0 := Lib.hid hB0
  clear hW hB0 HT hpos
  go_wp2_with fail
  refine (rightCurve_c s p n W0 hp HT0.out).mono ?_
  rintro e W1 ⟨v, rfl, -, hb1⟩
  have HB1 := Lib.hid (Blw.after HB0.out hb1)
  clear hb1 HB0 HT0
  go_wp2_with fail
  go_ret
  exact ⟨rfl, HB1.out⟩
set_option maxRecDepth 100000 in
set_option maxHeartbeats 4000000 in
theorem sEntryRight_c (s : ByteArray) (p : Nat × Nat) (n : Nat) (w : World) (hp : W32 p) : Calls Tryz.prog 13 #[encE s p n] w fun e w' => e = .returned (.bool (rtE s p n)) ∧ Below w.heap.size w w' := by
  have fst := fun W a x y m => run_store Tryz.prog W a (.complex .f32 x y) m rfl
  go_enter Tryz.func13, Tryz.ntmps13
  go_wp2_with fail
  generalize hW : World.alloc _ _ = W0
  have N0 := Lib.hid (show BxE w.heap.size s p n W0 by rw [← hW]; exact BxE.new _ _ _ _ _)
  have HB0 := Lib.hid (show Below w.heap.size w W0 by rw [← hW]; (first | ((repeat' with_reducible first | assumption | exact Below.refl _ _ | apply Blw.alloc | apply Blw.drew | apply Blw.drewN | (refine Blw.after ?_ (by assumption)) | (refine Blw.set ?_ (by first | (dsimp only; omega) | (simp; omega)) _)); done) | (repeat' (first | assumption | exact Below.refl _ _ | apply Blw.alloc | apply Blw.drew | apply Blw.drewN | (refine Blw.after ?_ (by assumption)) | (refine Blw.set ?_ (by first | (dsimp only; omega) | (simp; done) | (simp; omega)) _)))))
  clear hW
  obtain ⟨z0, d0, d1, d2, _⟩ := N0.out
  go_wp2_with fail
  refine (sEntryMake_c s p W0 hp).mono ?_
  rintro e W1 ⟨rfl, hb1⟩
  have N1 := Lib.hid (N0.out.keep hb1)
  have HB1 := Lib.hid (Blw.after HB0.out hb1)
  clear hb1 HB0 N0 z0 d0 d1 d2
  obtain ⟨z0, d0, d1, d2, _⟩ := N1.out
  have hB : Below w.heap.size w W1 := HB1.out
  rcases Bool.eq_false_or_eq_true (okE s p) with hok | hok
  · rw [emV_t hok]
    have hr1 := fun h => rtE_t (n := n) hok h
    have hr2 := fun h => rtE_n (s := s) (p := p) (n := n) h
    generalize sumN (ptsE s p) = m at *
    by_cases he : m = n
    · have HF := Lib.hid (hr1 he)
      subst he
      clear hok hr1 hr2
      go_wp2_with fail
      go_ret
      exact ⟨(congrArg (fun b => Ending.returned (.bool b)) HF.out).symm, by (first | ((repeat' with_reducible first | assumption | exact Below.refl _ _ | apply Blw.alloc | apply Blw.drew | apply Blw.drewN | (refine Blw.after ?_ (by assumption)) | (refine Blw.set ?_ (by first | (dsimp only; omega) | (simp; omega)) _)); done) | (repeat' (first | assumption | exact Below.refl _ _ | apply Blw.alloc | apply Blw.drew | apply Blw.drewN | (refine Blw.after ?_ (by assumption)) | (refine Blw.set ?_ (by first | (dsimp only; omega) | (simp; done) | (simp; omega)) _))))⟩
    · have HF := Lib.hid (hr2 he)
      have hne : ((m : Int) == (n : Int)) = false := by simp; omega
      clear he hok hr1 hr2
      go_wp2_with fail
      go_ret
      exact ⟨(congrArg (fun b => Ending.returned (.bool b)) HF.out).symm, by (first | ((repeat' with_reducible first | assumption | exact Below.refl _ _ | apply Blw.alloc | apply Blw.drew | apply Blw.drewN | (refine Blw.after ?_ (by assumption)) | (refine Blw.set ?_ (by first | (dsimp only; omega) | (simp; omega)) _)); done) | (repeat' (first | assumption | exact Below.refl _ _ | apply Blw.alloc | apply Blw.drew | apply Blw.drewN | (refine Blw.after ?_ (by assumption)) | (refine Blw.set ?_ (by first | (dsimp only; omega) | (simp; done) | (simp; omega)) _))))⟩
  · have HF := Lib.hid (rtE_f (n := n) hok)
    rw [emV_f hok]
    clear hok
    go_wp2_with fail
    go_ret
    exact ⟨(congrArg (fun b => Ending.returned (.bool b)) HF.out).symm, by (first | ((repeat' with_reducible first | assumption | exact Below.refl _ _ | apply Blw.alloc | apply Blw.drew | apply Blw.drewN | (refine Blw.after ?_ (by assumption)) | (refine Blw.set ?_ (by first | (dsimp only; omega) | (simp; omega)) _)); done) | (repeat' (first | assumption | exact Below.refl _ _ | apply Blw.alloc | apply Blw.drew | apply Blw.drewN | (refine Blw.after ?_ (by assumption)) | (refine Blw.set ?_ (by first | (dsimp only; omega) | (simp; done) | (simp; omega)) _))))⟩
end Go.Proofs.YtmdnfamjdogogaaGreatDoor

namespace Go.Proofs.YtmdnfamjdogogaaGreatDoor
set_option linter.unusedSimpArgs false
set_option linter.unusedVariables false

abbrev En := List UInt8 × Nat × Nat × Nat
def rdP : List (List UInt8) → Option En
  | [a, b, c, d] => if okX b = true ∧ okX c = true ∧ okX d = true ∧ rtE (bs a) (vX b, vX c) (vX d) = true then some (a, vX b, vX c, vX d) else none
  | _ => none
theorem rdP_four (a b c d : List UInt8) : rdP [a, b, c, d] = if okX b = true ∧ okX c = true ∧ okX d = true ∧ rtE (bs a) (vX b, vX c) (vX d) = true then some (a, vX b, vX c, vX d) else none := rfl
def rdO (l : List UInt8) : Option En := rdP (cuts l)
theorem rdP_len {L : List (List UInt8)} (h : L.length ≠ 4) : rdP L = none := by
  match L, h with
  | [], _ => rfl
  | [_], _ => rfl
  | [_, _], _ => rfl
  | [_, _, _], _ => rfl
  | [_, _, _, _], h => exact absurd rfl h
  | _ :: _ :: _ :: _ :: _ :: _, _ => rfl
theorem wd_noSp {s : ByteArray} {n : Nat} (h : wdB n s = true) : NoSp (toL s) := by
  intro c hc e
  have := wdB_all h c hc
  rw [e] at this
  exact absurd this (by decide)
theorem rd_some {l : List UInt8} {a : List UInt8} {x y n : Nat} (h : rdO l = some (a, x, y, n)) :
    txt a x y n = l ∧ rtE (bs a) (x, y) n = true ∧ x < 4294967296 ∧ y < 4294967296 ∧ n < 4294967296 ∧ l.length ≤ 100 := by
  unfold rdO at h
  rcases four_cases l with ⟨-, h4⟩ | ⟨a', b, c, d, -, hl, n1, n2, n3, hc⟩
  · rw [rdP_len (by omega)] at h; cases h
  · rw [hc] at h
    have h1 : (cuts d).length = 1 := by
      apply Classical.byContradiction
      intro h1
      rw [rdP_len (by simp only [List.length_cons]; omega)] at h; cases h
    obtain ⟨x0, hx0⟩ := List.length_eq_one_iff.1 h1
    obtain ⟨rfl, hnd⟩ := cuts_one hx0
    rw [hx0] at h
    rw [rdP_four] at h
    by_cases hh : okX b = true ∧ okX c = true ∧ okX x0 = true ∧ rtE (bs a') (vX b, vX c) (vX x0) = true
    · rw [if_pos hh] at h
      obtain ⟨o1, o2, o3, hr⟩ := hh
      simp only [Option.some.injEq, Prod.mk.injEq] at h
      obtain ⟨rfl, rfl, rfl, rfl⟩ := h
      have hw := (okE_iff (rtE_iff hr).1).1
      have hlen := wdB_len hw
      have h10 : a'.length ≤ 10 := by rw [← toL_len, toL_bs] at hlen; exact hlen
      refine ⟨by unfold txt; rw [hl_vX o1, hl_vX o2, hl_vX o3, hl], hr, vX_lt o1, vX_lt o2, vX_lt o3, ?_⟩
      have e1 := (okX_iff.1 o1).1
      have e2 := (okX_iff.1 o2).1
      have e3 := (okX_iff.1 o3).1
      rw [hl]
      simp only [List.length_append, List.length_cons]
      omega
    · rw [if_neg hh] at h; cases h
theorem rd_txt {s : ByteArray} {x y n : Nat} (hx : x < 4294967296) (hy : y < 4294967296) (hn : n < 4294967296) (hr : rtE s (x, y) n = true) : rdO (txt (toL s) x y n) = some (toL s, x, y, n) := by
  have hw := (okE_iff (rtE_iff hr).1).1
  unfold rdO
  rw [cuts_txt (wd_noSp hw)]
  rw [rdP_four, vX_hl hx, vX_hl hy, vX_hl hn, bs_toL, if_pos ⟨hl_ok x, hl_ok y, hl_ok n, hr⟩]
/-- the program's way: the pieces, numbers that are right where they are read, and the text compared -/
theorem rd_yes {l a b c d : List UInt8} {x y : Nat} (hl : l = a ++ 32 :: (b ++ 32 :: (c ++ 32 :: d))) (n1 : NoSp a) (n2 : NoSp b) (n3 : NoSp c) (hx : x < 4294967296) (hy : y < 4294967296)
    (ho : okE (bs a) (x, y) = true) (ht : txt a x y (sumN (ptsE (bs a) (x, y))) = l) : rdO l = some (a, x, y, sumN (ptsE (bs a) (x, y))) := by
  have h := rd_txt (s := bs a) hx hy (sumN_lt _) (rtE_t ho rfl)
  rw [toL_bs, ht] at h
  exact h
theorem rd_not {l a b c d : List UInt8} {x y : Nat} (hl : l = a ++ 32 :: (b ++ 32 :: (c ++ 32 :: d))) (n1 : NoSp a) (n2 : NoSp b) (n3 : NoSp c) (hc : cuts l = a :: b :: c :: cuts d)
    (fx : okX b = true → x = vX b) (fy : okX c = true → y = vX c) (hno : ¬ (okE (bs a) (x, y) = true ∧ txt a x y (sumN (ptsE (bs a) (x, y))) = l)) : rdO l = none := by
  cases hr : rdO l with
  | none => rfl
  | some v =>
    exfalso
    apply hno
    obtain ⟨a', x', y', n'⟩ := v
    obtain ⟨ht, hrt, -, -, -, -⟩ := rd_some hr
    have h0 := hr
    unfold rdO at h0
    rw [hc] at h0
    have h1 : (cuts d).length = 1 := by
      apply Classical.byContradiction
      intro h1
      rw [rdP_len (by simp only [List.length_cons]; omega)] at h0; cases h0
    obtain ⟨x0, hx0⟩ := List.length_eq_one_iff.1 h1
    rw [hx0] at h0
    rw [rdP_four] at h0
    by_cases hh : okX b = true ∧ okX c = true ∧ okX x0 = true ∧ rtE (bs a) (vX b, vX c) (vX x0) = true
    · rw [if_pos hh] at h0
      simp only [Option.some.injEq, Prod.mk.injEq] at h0
      obtain ⟨rfl, rfl, rfl, rfl⟩ := h0
      obtain ⟨o1, o2, -, -⟩ := hh
      rw [fx o1, fy o2]
      obtain ⟨q1, q2⟩ := rtE_iff hrt
      exact ⟨q1, by rw [q2]; exact ht⟩
    · rw [if_neg hh] at h0; cases h0
theorem rd_few {l : List UInt8} (h : (cuts l).length < 4) : rdO l = none := by unfold rdO; exact rdP_len (by omega)
end Go.Proofs.YtmdnfamjdogogaaGreatDoor

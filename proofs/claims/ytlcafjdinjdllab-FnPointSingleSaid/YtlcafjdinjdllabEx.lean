/- Points of few places are exact in complex128. No law is stated here. -/
import Derived.Test.YtlcafjdinjdllabCutL
import Derived.Test.YtlcafjdinjdllabTb
namespace Go.Proofs.Ytlcafjdinjdllab
set_option linter.unusedSimpArgs false
set_option linter.unusedVariables false
open Ieee

/-- the unit of a number with n places of twos -/
def uu (n : Nat) : Nat := un .f64 - n
theorem uu_split {n : Nat} (hn : n ≤ 60) : 2 ^ n * 2 ^ uu n = 2 ^ un .f64 := by
  rw [← Nat.pow_add, show n + uu n = un .f64 by unfold uu; have : un .f64 = 1074 := rfl; omega]
theorem uu_succ {n : Nat} (hn : n < 60) : uu n = uu (n + 1) + 1 := by unfold uu; have : un .f64 = 1074 := rfl; omega
theorem uu_zero : uu 0 = un .f64 := rfl
theorem natAbs_pow (m : Int) (e : Nat) : (m * 2 ^ e).natAbs = m.natAbs * 2 ^ e := by rw [Int.natAbs_mul, Int.natAbs_pow]; rfl
theorem okn {m : Int} {n : Nat} (hn : n ≤ 60) (h1 : m.natAbs < 2 ^ 53) (h2 : m.natAbs ≤ 2000000 * 2 ^ n) : Okv .f64 (m * 2 ^ uu n) := by
  refine ⟨?_, ?_⟩
  · rw [natAbs_pow]; exact rep_scale (rep_small h1) _
  · rw [natAbs_pow, ← uu_split hn, ← Nat.mul_assoc]; exact Nat.mul_le_mul_right _ h2
theorem sg_of {s : Bool} {V : Nat} {m : Int} {e : Nat} (h : sg s V = m * 2 ^ e) : V = m.natAbs * 2 ^ e := by
  have := congrArg Int.natAbs h
  rwa [sg_abs, natAbs_pow] at this
theorem vl_half {x : Nat} {m : Int} {e : Nat} (hx : Vl .f64 x (m * 2 ^ (e + 1))) (h1 : m.natAbs < 2 ^ 53) (hl : m.natAbs * 2 ^ (e + 1) ≤ 2000000 * 2 ^ un .f64) :
    ∃ r, floatBits .quo .f64 x 4611686018427387904 = some r ∧ Vl .f64 r (m * 2 ^ e) := by
  obtain ⟨s, V, h2, h3⟩ := hx
  have hV := sg_of h3
  refine ⟨_, fl_div2 h2 two_d, s, m.natAbs * 2 ^ e, ?_, ?_⟩
  · have h4 := fl_half (f := double) s V (lim_d (u := 1) (by rw [hV]; omega))
    have e1 : rndU double 1 V = m.natAbs * 2 ^ e := by
      rw [hV, Nat.pow_succ, ← Nat.mul_assoc]
      have := rndU_exact (f := double) (u := 1) (c := m.natAbs * 2 ^ e) (rep_scale (rep_small h1) e)
      rwa [Nat.pow_one] at this
    rw [e1] at h4
    exact h4
  · rw [hV] at h3
    have hp : (2 : Int) ^ (e + 1) ≠ 0 := Int.pow_ne_zero (by decide)
    rw [sg_scale] at h3 ⊢
    rw [Int.eq_of_mul_eq_mul_right hp h3]
theorem vl_zero : Vl .f64 0 0 := ⟨false, 0, fl0_d, rfl⟩
theorem vl_divide {x y : Nat} {A B : Int} {n : Nat} (hn : n < 60) (hx : Vl .f64 x (A * 2 ^ uu n)) (hy : Vl .f64 y (B * 2 ^ uu n)) (h1 : A.natAbs + B.natAbs < 2 ^ 53) (h2 : A.natAbs + B.natAbs ≤ 2000000 * 2 ^ n) :
    Vl2 .f64 (divR .f64 x y) (divI .f64 x y) ((B - A) * 2 ^ uu (n + 1), (-A - B) * 2 ^ uu (n + 1)) := by
  have a1 : (B - A).natAbs ≤ A.natAbs + B.natAbs := by omega
  have a2 : (-A - B).natAbs ≤ A.natAbs + B.natAbs := by omega
  have hle : ∀ m : Int, m.natAbs ≤ A.natAbs + B.natAbs → m.natAbs * 2 ^ (uu (n + 1) + 1) ≤ 2000000 * 2 ^ un .f64 := fun m hm => by
    rw [← uu_succ hn, ← uu_split (show n ≤ 60 by omega), ← Nat.mul_assoc]
    exact Nat.mul_le_mul_right _ (by omega)
  obtain ⟨d, d1, d2⟩ := vl_sub hy hx (by rw [← Int.sub_mul]; exact okn (by omega) (by omega) (by omega))
  obtain ⟨m, m1, m2⟩ := vl_sub vl_zero hx (by rw [Int.zero_sub, ← Int.neg_mul]; exact okn (by omega) (by omega) (by omega))
  rw [Int.zero_sub, ← Int.neg_mul] at m2
  obtain ⟨e, e1, e2⟩ := vl_sub m2 hy (by rw [← Int.sub_mul]; exact okn (by omega) (by omega) (by omega))
  rw [← Int.sub_mul, uu_succ hn] at d2 e2
  obtain ⟨r, r1, r2⟩ := vl_half d2 (by omega) (hle _ a1)
  obtain ⟨i, i1, i2⟩ := vl_half e2 (by omega) (hle _ a2)
  obtain ⟨q1, q2⟩ := div_of (k := .f64) (d := d) (n := m) (e := e) ⟨d1, r1, m1, e1, i1⟩
  rw [q1, q2]
  exact ⟨r2, i2⟩
/-- the value of places, in units of 2 to the power of minus their number -/
def ev : List UInt8 → Int × Int
  | [] => (0, 0)
  | c :: l => ((ev l).2 - ((ev l).1 + dg c * 2 ^ l.length), -((ev l).1 + dg c * 2 ^ l.length) - (ev l).2)
theorem ev_le : ∀ (l : List UInt8), (∀ c ∈ l, bitC c = true) → (ev l).1.natAbs ≤ l.length * 2 ^ l.length ∧ (ev l).2.natAbs ≤ l.length * 2 ^ l.length
  | [], _ => by simp [ev]
  | c :: l, h => by
    obtain ⟨h1, h2⟩ := ev_le l (fun c hc => h c (by simp [hc]))
    have hd := dg_bit (h c (by simp))
    have hdn : (dg c * 2 ^ l.length).natAbs ≤ 2 ^ l.length := by
      rw [natAbs_pow]
      have : (dg c).natAbs ≤ 1 := by omega
      calc (dg c).natAbs * 2 ^ l.length ≤ 1 * 2 ^ l.length := Nat.mul_le_mul_right _ this
        _ = 2 ^ l.length := Nat.one_mul _
    have e : (l.length + 1) * 2 ^ (l.length + 1) = 2 * (l.length * 2 ^ l.length) + 2 * 2 ^ l.length := by rw [Nat.pow_succ, Nat.add_mul, Nat.one_mul, ← Nat.mul_assoc, Nat.mul_comm (l.length * 2 ^ l.length) 2, Nat.mul_comm (2 ^ l.length) 2]
    simp only [ev, List.length_cons]
    rw [e]
    generalize 2 ^ l.length = P at *
    generalize dg c * (2 : Int) ^ l.length = D at *
    generalize l.length * P = Q at *
    omega
theorem bitW_vl (c : UInt8) (h : bitC c = true) : Vl .f64 (bitW .f64 c) (dg c * 2 ^ un .f64) := by
  rw [bitW_int .f64 ((bitC_iff c).1 h)]
  have hd := dg_bit h
  refine ⟨_, _, fl_wholeK .f64 (decide (dg c < 0)) (m := (dg c).natAbs) (by omega), ?_⟩
  rw [sg_scale]
  congr 1
  rw [decide_eq_false (by omega)]
  show (((dg c).natAbs : Nat) : Int) = dg c
  omega
theorem int_vl {x : Int} (h : -1000000 ≤ x ∧ x ≤ 1000000) : Vl .f64 (floatOfInt .f64 x) (x * 2 ^ un .f64) := by
  refine ⟨_, _, fl_wholeK .f64 (decide (x < 0)) (m := x.natAbs) (by omega), ?_⟩
  rw [sg_scale]
  congr 1
  by_cases c : x < 0
  · rw [decide_eq_true c]; show -((x.natAbs : Nat) : Int) = x; omega
  · rw [decide_eq_false c]; show ((x.natAbs : Nat) : Int) = x; omega
theorem scale_up (d : Int) {n : Nat} (hn : n ≤ 60) : d * 2 ^ un .f64 = d * 2 ^ n * 2 ^ uu n := by
  rw [Int.mul_assoc, ← Int.pow_add]
  congr 2
  unfold uu
  have : un .f64 = 1074 := rfl
  omega
theorem len_pow {n : Nat} (hn : n ≤ 45) : (2 * n + 1) * 2 ^ n < 2 ^ 53 := by
  have h1 : (2 * n + 1) * 2 ^ n ≤ 91 * 2 ^ 45 := Nat.mul_le_mul (by omega) (Nat.pow_le_pow_right (by omega) hn)
  have h2 : 91 * 2 ^ 45 < 2 ^ 53 := by decide
  omega
theorem pv_ex : ∀ (l : List UInt8), (∀ c ∈ l, bitC c = true) → l.length ≤ 45 → Vl2 .f64 (pv .f64 l).1 (pv .f64 l).2 ((ev l).1 * 2 ^ uu l.length, (ev l).2 * 2 ^ uu l.length)
  | [], _, _ => by
    have e : ev [] = (0, 0) := rfl
    rw [e]
    simp only [Int.zero_mul]
    exact ⟨vl_zero, vl_zero⟩
  | c :: l, h, hl => by
    simp only [List.length_cons] at hl
    have hb := fun c hc => h c (List.mem_cons_of_mem _ hc)
    obtain ⟨v1, v2⟩ := pv_ex l hb (by omega)
    obtain ⟨b1, b2⟩ := ev_le l hb
    have hc := h c (by simp)
    have hd := dg_bit hc
    have hp := len_pow (n := l.length) (by omega)
    have w1 := bitW_vl c hc
    rw [scale_up (dg c) (n := l.length) (by omega)] at w1
    have hdn : (dg c * 2 ^ l.length).natAbs ≤ 2 ^ l.length := by
      rw [natAbs_pow]
      have : (dg c).natAbs ≤ 1 := by omega
      calc (dg c).natAbs * 2 ^ l.length ≤ 1 * 2 ^ l.length := Nat.mul_le_mul_right _ this
        _ = 2 ^ l.length := Nat.one_mul _
    have e2 : (2 * l.length + 1) * 2 ^ l.length = 2 * (l.length * 2 ^ l.length) + 2 ^ l.length := by rw [Nat.add_mul, Nat.one_mul, Nat.mul_assoc]
    have hsum : ((ev l).1 + dg c * 2 ^ l.length).natAbs + (ev l).2.natAbs ≤ (2 * l.length + 1) * 2 ^ l.length := by omega
    have hbig : (2 * l.length + 1) * 2 ^ l.length ≤ 2000000 * 2 ^ l.length := Nat.mul_le_mul_right _ (by omega)
    obtain ⟨x, x1, x2⟩ := vl_add v1 w1 (by rw [← Int.add_mul]; exact okn (by omega) (by omega) (by omega))
    obtain ⟨y, y1, y2⟩ := vl_add v2 vl_zero (by rw [Int.add_zero]; exact okn (by omega) (by omega) (by omega))
    rw [← Int.add_mul] at x2
    rw [Int.add_zero] at y2
    have ex : plR .f64 (pv .f64 l) c = x := by simp [plR, gd, x1]
    have ey : plI .f64 (pv .f64 l) = y := by simp [plI, gd, y1]
    have hv := vl_divide (n := l.length) (by omega) x2 y2 (by omega) (by omega)
    have ep : pv .f64 (c :: l) = (divR .f64 (plR .f64 (pv .f64 l) c) (plI .f64 (pv .f64 l)), divI .f64 (plR .f64 (pv .f64 l) c) (plI .f64 (pv .f64 l))) := rfl
    rw [ep, ex, ey]
    exact hv
/-- with the whole number -/
theorem wh_ex {l : List UInt8} (hb : ∀ c ∈ l, bitC c = true) (hl : l.length ≤ 45) {X Y : Int} (hX : -1000000 ≤ X ∧ X ≤ 1000000) (hY : -1000000 ≤ Y ∧ Y ≤ 1000000)
    (h1 : ((ev l).1 + X * 2 ^ l.length).natAbs < 2 ^ 53) (h2 : ((ev l).2 + Y * 2 ^ l.length).natAbs < 2 ^ 53)
    (h3 : ((ev l).1 + X * 2 ^ l.length).natAbs ≤ 2000000 * 2 ^ l.length) (h4 : ((ev l).2 + Y * 2 ^ l.length).natAbs ≤ 2000000 * 2 ^ l.length) :
    Vl2 .f64 (whR .f64 (pv .f64 l) X) (whI .f64 (pv .f64 l) Y) (((ev l).1 + X * 2 ^ l.length) * 2 ^ uu l.length, ((ev l).2 + Y * 2 ^ l.length) * 2 ^ uu l.length) := by
  obtain ⟨v1, v2⟩ := pv_ex l hb hl
  have w1 := int_vl hX
  have w2 := int_vl hY
  rw [scale_up X (n := l.length) (by omega)] at w1
  rw [scale_up Y (n := l.length) (by omega)] at w2
  obtain ⟨x, x1, x2⟩ := vl_add v1 w1 (by rw [← Int.add_mul]; exact okn (by omega) h1 h3)
  obtain ⟨y, y1, y2⟩ := vl_add v2 w2 (by rw [← Int.add_mul]; exact okn (by omega) h2 h4)
  have ex : whR .f64 (pv .f64 l) X = x := by simp [whR, gd, x1]
  have ey : whI .f64 (pv .f64 l) Y = y := by simp [whI, gd, y1]
  rw [← Int.add_mul] at x2 y2
  rw [ex, ey]
  exact ⟨x2, y2⟩
end Go.Proofs.Ytlcafjdinjdllab

/- Points multiplied back are whole numbers, exactly. No law is stated here. -/
import Derived.Test.YtlcafjdinjdllabDoorEx
namespace Go.Proofs.YtlcafjdinjdllabDoor
set_option linter.unusedSimpArgs false
set_option linter.unusedVariables false
open Ieee

theorem shift_algx (E1 E2 X Y d P W : Int) : tb ((E2 - (E1 + d * P) + X * (P * 2)) * W, (-(E1 + d * P) - E2 + Y * (P * 2)) * W) = ((E1 + (-X - Y + d) * P) * (W * 2), (E2 + (X - Y) * P) * (W * 2)) := by
  unfold tb
  refine Prod.ext ?_ ?_
  · show -((E2 - (E1 + d * P) + X * (P * 2)) * W) - (-(E1 + d * P) - E2 + Y * (P * 2)) * W = (E1 + (-X - Y + d) * P) * (W * 2)
    grind
  · show (E2 - (E1 + d * P) + X * (P * 2)) * W - (-(E1 + d * P) - E2 + Y * (P * 2)) * W = (E2 + (X - Y) * P) * (W * 2)
    grind
theorem tb_scale (a b U : Int) : tb (a * U, b * U) = ((tb (a, b)).1 * U, (tb (a, b)).2 * U) := by
  unfold tb
  refine Prod.ext ?_ ?_
  · show -(a * U) - b * U = (-a - b) * U; grind
  · show a * U - b * U = (a - b) * U; grind
theorem tbI_scale (a b U : Int) : ∀ n, tbI n (a * U, b * U) = ((tbI n (a, b)).1 * U, (tbI n (a, b)).2 * U)
  | 0 => rfl
  | n + 1 => by
    show tb (tbI n (a * U, b * U)) = ((tb (tbI n (a, b))).1 * U, (tb (tbI n (a, b))).2 * U)
    rw [tbI_scale a b U n, tb_scale]
theorem tbI_comm (p : Int × Int) : ∀ n, tbI (n + 1) p = tbI n (tb p)
  | 0 => rfl
  | n + 1 => by
    show tb (tbI (n + 1) p) = tb (tbI n (tb p))
    rw [tbI_comm p n]
def vF (z : Int × Int) (l : List UInt8) : Int × Int := l.foldl (fun z c => (-z.1 - z.2 + dg c, z.1 - z.2)) z
theorem back_val : ∀ (l : List UInt8) (X Y : Int), tbI l.length ((ev l).1 + X * 2 ^ l.length, (ev l).2 + Y * 2 ^ l.length) = ((vF (X, Y) l).1 * 2 ^ l.length, (vF (X, Y) l).2 * 2 ^ l.length)
  | [], X, Y => by simp [ev, vF, tbI]
  | c :: l, X, Y => by
    have ih := back_val l (-X - Y + dg c) (X - Y)
    have h := shift_algx (ev l).1 (ev l).2 X Y (dg c) (2 ^ l.length) 1
    simp only [Int.mul_one, Int.one_mul] at h
    show tbI (l.length + 1) ((ev l).2 - ((ev l).1 + dg c * 2 ^ l.length) + X * 2 ^ (l.length + 1), -((ev l).1 + dg c * 2 ^ l.length) - (ev l).2 + Y * 2 ^ (l.length + 1)) = ((vF (-X - Y + dg c, X - Y) l).1 * 2 ^ (l.length + 1), (vF (-X - Y + dg c, X - Y) l).2 * 2 ^ (l.length + 1))
    rw [tbI_comm, Int.pow_succ, h, tbI_scale, ih]
    simp only [Int.mul_assoc]
theorem vF_app (a l : List UInt8) : vF (valF a) l = valF (a ++ l) := by unfold vF valF; rw [List.foldl_append]
/-- the norm -/
def nN (p : Int × Int) : Int := p.1 * p.1 + p.2 * p.2
theorem nN_tb (p : Int × Int) : nN (tb p) = 2 * nN p := by
  unfold nN tb
  show (-p.1 - p.2) * (-p.1 - p.2) + (p.1 - p.2) * (p.1 - p.2) = 2 * (p.1 * p.1 + p.2 * p.2)
  grind
theorem sq_nn (x : Int) : 0 ≤ x * x := by rcases Int.le_total 0 x with h | h; exact Int.mul_nonneg h h; exact Int.mul_nonneg_of_nonpos_of_nonpos h h
theorem nN_nn (p : Int × Int) : 0 ≤ nN p := Int.add_nonneg (sq_nn _) (sq_nn _)
theorem nN_mono (p : Int × Int) : ∀ {j n : Nat}, j ≤ n → nN (tbI j p) ≤ nN (tbI n p)
  | j, 0, h => by obtain rfl : j = 0 := by omega
                  exact Int.le_refl _
  | j, n + 1, h => by
    rcases Nat.lt_or_eq_of_le h with c | c
    · have := nN_mono p (j := j) (n := n) (by omega)
      have h2 := nN_tb (tbI n p)
      have h3 := nN_nn (tbI n p)
      show nN (tbI j p) ≤ nN (tb (tbI n p))
      omega
    · subst c; exact Int.le_refl _
theorem abs_of_sq {a : Int} {B : Nat} (h : a * a < (B : Int) * (B : Int)) : a.natAbs < B := by
  rcases Nat.lt_or_ge a.natAbs B with c | c
  · exact c
  · exfalso
    have h1 := Nat.mul_le_mul c c
    have h2 : ((a.natAbs * a.natAbs : Nat) : Int) = a * a := by rw [Int.natCast_mul]; exact Int.natAbs_mul_self
    have h3 : ((B * B : Nat) : Int) = (B : Int) * (B : Int) := Int.natCast_mul B B
    omega
/-- all on the way back is small -/
theorem way_small {q : Int × Int} {n : Nat} {V : Int × Int} (h : tbI n q = (V.1 * 2 ^ n, V.2 * 2 ^ n)) (h1 : -1000000 ≤ V.1 ∧ V.1 ≤ 1000000) (h2 : -1000000 ≤ V.2 ∧ V.2 ≤ 1000000) {j : Nat} (hj : j ≤ n) :
    (tbI j q).1.natAbs < 1500000 * 2 ^ n ∧ (tbI j q).2.natAbs < 1500000 * 2 ^ n := by
  have hm := nN_mono q hj
  rw [h] at hm
  have hsq : ∀ x : Int, -1000000 ≤ x ∧ x ≤ 1000000 → x * x ≤ 1000000000000 := fun x hx => by
    have h0 : 0 ≤ (1000000 - x) * (1000000 + x) := Int.mul_nonneg (by omega) (by omega)
    have e : (1000000 - x) * (1000000 + x) = 1000000000000 - x * x := by grind
    omega
  have s1 := hsq _ h1
  have s2 := hsq _ h2
  have hp : (0 : Int) < 2 ^ n := by exact_mod_cast Nat.two_pow_pos n
  have hpp : (0 : Int) < 2 ^ n * 2 ^ n := Int.mul_pos hp hp
  have e : nN (V.1 * 2 ^ n, V.2 * 2 ^ n) = (V.1 * V.1 + V.2 * V.2) * (2 ^ n * 2 ^ n) := by unfold nN; grind
  have hle : (V.1 * V.1 + V.2 * V.2) * (2 ^ n * 2 ^ n) ≤ 2000000000000 * ((2 : Int) ^ n * 2 ^ n) := Int.mul_le_mul_of_nonneg_right (by omega) (Int.le_of_lt hpp)
  rw [e] at hm
  have eB : ((1500000 * 2 ^ n : Nat) : Int) * ((1500000 * 2 ^ n : Nat) : Int) = 2250000000000 * ((2 : Int) ^ n * 2 ^ n) := by
    have e5 : ((1500000 * 2 ^ n : Nat) : Int) = 1500000 * 2 ^ n := by rw [Int.natCast_mul, Int.natCast_pow]; rfl
    rw [e5]
    generalize (2 : Int) ^ n = P
    grind
  have hlt : 2000000000000 * ((2 : Int) ^ n * 2 ^ n) < 2250000000000 * ((2 : Int) ^ n * 2 ^ n) := Int.mul_lt_mul_of_pos_right (by decide) hpp
  have n1 := sq_nn (tbI j q).1
  have n2 := sq_nn (tbI j q).2
  unfold nN at hm
  constructor
  · exact abs_of_sq (by rw [eB]; omega)
  · exact abs_of_sq (by rw [eB]; omega)
theorem pow51 {n : Nat} (hn : n ≤ 30) : 1500000 * 2 ^ n < 2 ^ 53 := by
  have h1 : 1500000 * 2 ^ n ≤ 1500000 * 2 ^ 30 := Nat.mul_le_mul_left _ (Nat.pow_le_pow_right (by omega) hn)
  have h2 : 1500000 * 2 ^ 30 < 2 ^ 53 := by decide
  omega
/-- a point of few places: what it stands for, what stands on the way back, and what it comes back to -/
theorem exact_point {l : List UInt8} (hb : ∀ c ∈ l, bitC c = true) (hl : l.length ≤ 30) {X Y : Int} (hX : -1000000 ≤ X ∧ X ≤ 1000000) (hY : -1000000 ≤ Y ∧ Y ≤ 1000000)
    (h1 : -1000000 ≤ (vF (X, Y) l).1 ∧ (vF (X, Y) l).1 ≤ 1000000) (h2 : -1000000 ≤ (vF (X, Y) l).2 ∧ (vF (X, Y) l).2 ≤ 1000000) :
    ∃ p : Int × Int, Vl2 .f64 (whR .f64 (pv .f64 l) X) (whI .f64 (pv .f64 l) Y) p ∧ (∀ j, j < l.length → Okv2 .f64 (tb (tbI j p))) ∧ tbI l.length p = ((vF (X, Y) l).1 * 2 ^ un .f64, (vF (X, Y) l).2 * 2 ^ un .f64) := by
  have hback := back_val l X Y
  have hw := fun (j : Nat) (hj : j ≤ l.length) => way_small hback h1 h2 hj
  have h53 := pow51 hl
  have hmul : 1500000 * 2 ^ l.length ≤ 2000000 * 2 ^ l.length := Nat.mul_le_mul_right _ (by omega)
  refine ⟨(((ev l).1 + X * 2 ^ l.length) * 2 ^ uu l.length, ((ev l).2 + Y * 2 ^ l.length) * 2 ^ uu l.length), ?_, ?_, ?_⟩
  · obtain ⟨a, b⟩ := hw 0 (Nat.zero_le _)
    have a' : ((ev l).1 + X * 2 ^ l.length).natAbs < 1500000 * 2 ^ l.length := a
    have b' : ((ev l).2 + Y * 2 ^ l.length).natAbs < 1500000 * 2 ^ l.length := b
    exact wh_ex hb (by omega) hX hY (by omega) (by omega) (by omega) (by omega)
  · intro j hj
    obtain ⟨a, b⟩ := hw (j + 1) hj
    show Okv2 .f64 (tbI (j + 1) _)
    rw [tbI_scale]
    exact ⟨okn (by omega) (by omega) (by omega), okn (by omega) (by omega) (by omega)⟩
  · rw [tbI_scale, hback]
    have e : ∀ v : Int, v * 2 ^ l.length * 2 ^ uu l.length = v * 2 ^ un .f64 := fun v => (scale_up v (n := l.length) (by omega)).symm
    simp only [e]
end Go.Proofs.YtlcafjdinjdllabDoor

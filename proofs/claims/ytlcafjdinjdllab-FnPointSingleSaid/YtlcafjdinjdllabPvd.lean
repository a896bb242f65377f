/- Points of both widths lie near each other. No law is stated here. -/
import Derived.Test.YtlcafjdinjdllabDist
import Derived.Test.YtlcafjdinjdllabEx
namespace Go.Proofs.Ytlcafjdinjdllab
set_option linter.unusedSimpArgs false
set_option linter.unusedVariables false
open Ieee

theorem vl_uniq {k : FloatKind} {x : Nat} {a b : Int} (h : Vl k x a) (h' : Vl k x b) : a = b := by
  have h1 := vl_order h h'
  rw [vl_same h h] at h1
  exact Int.compare_eq_eq.1 (Option.some.inj h1).symm
theorem vl_addU {k : FloatKind} {U x y B : Nat} {a b : Int} (hU : 2 ^ un k = U) (hx : Vl k x a) (hy : Vl k y b) (h : (a + b).natAbs ≤ B * U) (hB : B ≤ 2000000) : ∃ r c, floatBits .add k x y = some r ∧ Vl k r c ∧ Nr ((B + 1) * U) c (a + b) := by
  subst hU; exact vl_addE hx hy h hB
theorem vl_subU {k : FloatKind} {U x y B : Nat} {a b : Int} (hU : 2 ^ un k = U) (hx : Vl k x a) (hy : Vl k y b) (h : (a - b).natAbs ≤ B * U) (hB : B ≤ 2000000) : ∃ r c, floatBits .sub k x y = some r ∧ Vl k r c ∧ Nr ((B + 1) * U) c (a - b) := by
  subst hU; exact vl_subE hx hy h hB
theorem vl_halfU {k : FloatKind} {U x B : Nat} {a : Int} (hU : 2 ^ un k = U) (hx : Vl k x a) (h : a.natAbs ≤ B * U * 2) (hB : B ≤ 2000000) : ∃ r c, floatBits .quo k x (two k) = some r ∧ Vl k r c ∧ Nr ((B + 1) * U * 2) (2 * c) a := by
  subst hU; exact vl_halfE hx h hB
theorem vl_noughtK (k : FloatKind) : Vl k 0 0 := by
  cases k
  · exact ⟨false, 0, fl0_s, rfl⟩
  · exact ⟨false, 0, fl0_d, rfl⟩
theorem int_vlK (k : FloatKind) {U : Nat} (hU : 2 ^ un k = U) {x : Int} (h : -1000000 ≤ x ∧ x ≤ 1000000) : Vl k (floatOfInt k x) (x * U) := by
  subst hU
  refine ⟨_, _, fl_wholeK k (decide (x < 0)) (m := x.natAbs) (by omega), ?_⟩
  rw [sg_scale]
  have e : ((2 ^ un k : Nat) : Int) = 2 ^ un k := Int.natCast_pow 2 (un k)
  rw [e]
  congr 1
  by_cases c : x < 0
  · rw [decide_eq_true c]; show -((x.natAbs : Nat) : Int) = x; omega
  · rw [decide_eq_false c]; show ((x.natAbs : Nat) : Int) = x; omega
theorem bit_vlK (k : FloatKind) {U : Nat} (hU : 2 ^ un k = U) (c : UInt8) (h : bitC c = true) : Vl k (bitW k c) (dg c * U) := by
  rw [bitW_int k ((bitC_iff c).1 h)]
  have hd := dg_bit h
  exact int_vlK k hU (x := dg c) (by omega)
theorem pv_vals (k : FloatKind) {U : Nat} (hU : 2 ^ un k = U) (l : List UInt8) (hl : l.length ≤ 400) : ∃ X Y, Vl k (pv k l).1 X ∧ Vl k (pv k l).2 Y ∧ X.natAbs ≤ 400 * U ∧ Y.natAbs ≤ 400 * U := by
  subst hU
  obtain ⟨s, V, t, W, h1, h2, h3, h4⟩ := pv_pt k l (by omega)
  exact ⟨_, _, ⟨_, _, h1, rfl⟩, ⟨_, _, h2, rfl⟩, by rw [sg_abs]; exact Nat.le_trans h3 (Nat.mul_le_mul_right _ hl), by rw [sg_abs]; exact Nat.le_trans h4 (Nat.mul_le_mul_right _ hl)⟩
theorem pv_stepE {k : FloatKind} {U : Nat} (hU : 2 ^ un k = U) {l : List UInt8} {c : UInt8} {X Y : Int} (hb : bitC c = true) (hX : Vl k (pv k l).1 X) (hY : Vl k (pv k l).2 Y) (bX : X.natAbs ≤ 400 * U) (bY : Y.natAbs ≤ 400 * U) :
    ∃ X' Y', Vl k (pv k (c :: l)).1 X' ∧ Vl k (pv k (c :: l)).2 Y' ∧ Nr (4000 * U) (2 * X') (Y - X - dg c * U) ∧ Nr (4000 * U) (2 * Y') (-X - dg c * U - Y) := by
  have hd := bit_vlK k hU c hb
  have hdg := dg_bit hb
  have hn : 0 ≤ dg c * (U : Int) ∧ dg c * (U : Int) ≤ U := by
    have h01 : dg c = 0 ∨ dg c = 1 := by omega
    rcases h01 with h | h
    · rw [h]; omega
    · rw [h]; omega
  generalize dg c * (U : Int) = d at *
  have z := vl_noughtK k
  obtain ⟨p, P, p1, p2, p3⟩ := vl_addU hU hX hd (B := 401) (by omega) (by omega)
  obtain ⟨q, Q, q1, q2, q3⟩ := vl_addU hU hY z (B := 400) (by omega) (by omega)
  unfold Nr at p3 q3
  obtain ⟨f, F, f1, f2, f3⟩ := vl_subU hU q2 p2 (B := 1000) (by omega) (by omega)
  unfold Nr at f3
  obtain ⟨r, R, r1, r2, r3⟩ := vl_halfU hU f2 (B := 600) (by omega) (by omega)
  unfold Nr at r3
  obtain ⟨n, N, n1, n2, n3⟩ := vl_subU hU z p2 (B := 500) (by omega) (by omega)
  unfold Nr at n3
  obtain ⟨e, E, e1, e2, e3⟩ := vl_subU hU n2 q2 (B := 1000) (by omega) (by omega)
  unfold Nr at e3
  obtain ⟨i, I, i1, i2, i3⟩ := vl_halfU hU e2 (B := 600) (by omega) (by omega)
  unfold Nr at i3
  have er : plR k (pv k l) c = p := by simp [plR, gd, p1]
  have ei : plI k (pv k l) = q := by simp [plI, gd, q1]
  obtain ⟨h1, h2⟩ := div_of (k := k) (x := p) (y := q) ⟨f1, r1, n1, e1, i1⟩
  have ep : pv k (c :: l) = (divR k (plR k (pv k l) c) (plI k (pv k l)), divI k (plR k (pv k l) c) (plI k (pv k l))) := rfl
  rw [ep, er, ei, h1, h2]
  refine ⟨R, I, r2, i2, ?_, ?_⟩
  · unfold Nr; omega
  · unfold Nr; omega
theorem Nr.scale {M : Nat} {a b : Int} (h : Nr M a b) (T : Nat) : Nr (M * T) (a * T) (b * T) := by
  obtain ⟨h1, h2⟩ := h
  have hT : (0 : Int) ≤ T := Int.natCast_nonneg T
  have k1 := Int.mul_le_mul_of_nonneg_right h1 hT
  have k2 := Int.mul_le_mul_of_nonneg_right h2 hT
  rw [Int.add_mul, Int.mul_assoc, Int.mul_assoc] at k1 k2
  unfold Nr
  rw [Int.natCast_mul]
  exact ⟨k1, k2⟩
theorem pv_near {U V T : Nat} (hU : 2 ^ un .f32 = U) (hV : 2 ^ un .f64 = V) (hT : U * T = V) : ∀ (l : List UInt8), (∀ c ∈ l, bitC c = true) → l.length ≤ 400 →
    ∃ X Y X' Y' : Int, Vl .f32 (pv .f32 l).1 X ∧ Vl .f32 (pv .f32 l).2 Y ∧ Vl .f64 (pv .f64 l).1 X' ∧ Vl .f64 (pv .f64 l).2 Y' ∧ Nr (4000 * V * l.length) (X * T) X' ∧ Nr (4000 * V * l.length) (Y * T) Y'
  | [], _, _ => ⟨0, 0, 0, 0, vl_noughtK _, vl_noughtK _, vl_noughtK _, vl_noughtK _, by simp [Nr], by simp [Nr]⟩
  | c :: l, hb, hl => by
    simp only [List.length_cons] at hl
    obtain ⟨X, Y, X', Y', x1, y1, x2, y2, n1, n2⟩ := pv_near hU hV hT l (fun c hc => hb c (by simp [hc])) (by omega)
    obtain ⟨X0, Y0, a1, a2, a3, a4⟩ := pv_vals .f32 hU l (by omega)
    obtain ⟨X0', Y0', b1, b2, b3, b4⟩ := pv_vals .f64 hV l (by omega)
    obtain rfl := vl_uniq x1 a1
    obtain rfl := vl_uniq y1 a2
    obtain rfl := vl_uniq x2 b1
    obtain rfl := vl_uniq y2 b2
    obtain ⟨R, I, r1, i1, s1, s2⟩ := pv_stepE hU (hb c (by simp)) x1 y1 a3 a4
    obtain ⟨R', I', r2, i2, t1, t2⟩ := pv_stepE hV (hb c (by simp)) x2 y2 b3 b4
    refine ⟨R, I, R', I', r1, i1, r2, i2, ?_, ?_⟩
    all_goals
      have u1 := s1.scale T
      have u2 := s2.scale T
      have e1 : (4000 * U * T) = 4000 * V := by rw [Nat.mul_assoc, hT]
      have e2 : dg c * (U : Int) * (T : Int) = dg c * (V : Int) := by rw [Int.mul_assoc, ← Int.natCast_mul, hT]
      have e3 : 4000 * V * (c :: l).length = 4000 * V * l.length + 4000 * V := by rw [List.length_cons, Nat.mul_add, Nat.mul_one]
      rw [e1] at u1 u2
      rw [Int.sub_mul, Int.sub_mul, e2, Int.mul_assoc] at u1
      rw [Int.sub_mul, Int.sub_mul, Int.neg_mul, e2, Int.mul_assoc] at u2
      rw [e3]
      unfold Nr at *
      generalize 4000 * V * l.length = W at *
      generalize dg c * (V : Int) = d at *
      generalize R * (T : Int) = A at *
      generalize I * (T : Int) = B at *
      omega
end Go.Proofs.Ytlcafjdinjdllab

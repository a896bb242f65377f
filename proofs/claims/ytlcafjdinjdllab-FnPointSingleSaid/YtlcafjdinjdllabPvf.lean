/- A point in the narrower width, taken to the wider one, lies less than 1 from the wide point; a short one is the same. No law is stated here. -/
import Derived.Test.YtlcafjdinjdllabPve
import Derived.Test.YtlcafjdinjdllabPx0
namespace Go.Proofs.Ytlcafjdinjdllab
set_option linter.unusedSimpArgs false
set_option linter.unusedVariables false
open Ieee Go.RowKit

/-- so many places more the wider width has -/
def tt : Nat := 925
theorem un_tt : un .f32 + tt = un .f64 := rfl
theorem wdt : Wd (un .f32) tt := wd
theorem val4 : ∀ (l : List UInt8), (∀ c ∈ l, bitC c = true) → l.length ≤ 4 → (valX l).natAbs ≤ 13 ∧ (valY l).natAbs ≤ 13
  | [], _, _ => by simp [valX, valY, valF]
  | [a], h, _ => by
    have := dg_bit (h a (by simp))
    simp [valX, valY, valF]; omega
  | [a, b], h, _ => by
    have := dg_bit (h a (by simp)); have := dg_bit (h b (by simp))
    simp [valX, valY, valF]; omega
  | [a, b, c], h, _ => by
    have := dg_bit (h a (by simp)); have := dg_bit (h b (by simp)); have := dg_bit (h c (by simp))
    simp [valX, valY, valF]; omega
  | [a, b, c, d], h, _ => by
    have := dg_bit (h a (by simp)); have := dg_bit (h b (by simp)); have := dg_bit (h c (by simp)); have := dg_bit (h d (by simp))
    simp [valX, valY, valF]; omega
  | a :: b :: c :: d :: e :: l, _, hl => by simp only [List.length_cons] at hl; omega
theorem vl_up {x T : Nat} {c : Int} (hT : 2 ^ tt = T) (h : Vl .f32 x c) (hc : c.natAbs ≤ 2000000 * 2 ^ un .f32) : ∃ r, floatToFloatBits .f32 x .f64 = some r ∧ Vl .f64 r (c * T) := by
  subst hT
  obtain ⟨s, V, h1, rfl⟩ := h
  rw [sg_abs] at hc
  obtain ⟨a, b⟩ := conv_up wdt h1 hc
  exact ⟨_, a, s, _, b, by rw [sg_scale, Int.natCast_pow]; rfl⟩
theorem one_vl {V : Nat} (hV : 2 ^ un .f64 = V) : Vl .f64 4607182418800017408 V := by
  subst hV
  exact ⟨false, _, fl_one .f64, by rw [Nat.one_mul]; rfl⟩
theorem mone_word : FloatKind.f64.format.nearest true 1 0 = 13830554455654793216 := by decide +kernel
theorem mone_vl {V : Nat} (hV : 2 ^ un .f64 = V) : Vl .f64 13830554455654793216 (-(V : Int)) := by
  subst hV
  have h := fl_wholeK .f64 true (m := 1) (by omega)
  rw [mone_word, Nat.one_mul] at h
  exact ⟨true, _, h, rfl⟩
/-- what is to be told of one part -/
def Part (r R : Nat) (sh : Prop) : Prop :=
  ∃ u d, floatToFloatBits .f32 r .f64 = some u ∧ floatBits .sub .f64 u R = some d ∧ FloatKind.f64.format.order d 4607182418800017408 = some .lt ∧ FloatKind.f64.format.order d 13830554455654793216 = some .gt ∧
    FloatKind.f64.format.order u u = some .eq ∧ (sh → FloatKind.f64.format.order u R = some .eq)
theorem part_of {x y r R : Nat} {z X X' : Int} {n : Nat} {sh : Prop} (hn : n ≤ 320) (hz : -1000000 ≤ z ∧ z ≤ 1000000) (hX : Vl .f32 x X) (hX' : Vl .f64 y X') (bX : X.natAbs ≤ 400 * 2 ^ un .f32) (bX' : X'.natAbs ≤ 400 * 2 ^ un .f64)
    (near : Nr (4000 * 2 ^ un .f64 * n) (X * ((2 ^ tt : Nat) : Int)) X') (hr : floatBits .add .f32 x (floatOfInt .f32 z) = some r) (hR : floatBits .add .f64 y (floatOfInt .f64 z) = some R)
    (hsh : sh → ∃ a : Int, Vl .f32 r a ∧ Vl .f64 R (a * ((2 ^ tt : Nat) : Int))) : Part r R sh := by
  obtain ⟨U, hU⟩ : ∃ U, 2 ^ un .f32 = U := ⟨_, rfl⟩
  obtain ⟨V, hV⟩ : ∃ V, 2 ^ un .f64 = V := ⟨_, rfl⟩
  obtain ⟨T, hT⟩ : ∃ T : Nat, 2 ^ tt = T := ⟨_, rfl⟩
  have hUT : U * T = V := by rw [← hU, ← hT, ← hV, ← Nat.pow_add, un_tt]
  have hzU : (z * (U : Int)).natAbs ≤ 1000000 * U := by rw [Int.natAbs_mul]; exact Nat.mul_le_mul (by omega) (by omega)
  have hzV : (z * (V : Int)).natAbs ≤ 1000000 * V := by rw [Int.natAbs_mul]; exact Nat.mul_le_mul (by omega) (by omega)
  rw [hU] at bX
  rw [hV] at bX' near
  rw [hT] at near
  obtain ⟨r0, c, r1, r2, r3⟩ := vl_addU hU hX (int_vlK .f32 hU hz) (B := 1000400) (by omega) (by omega)
  obtain ⟨R0, c', s1, s2, s3⟩ := vl_addU hV hX' (int_vlK .f64 hV hz) (B := 1000400) (by omega) (by omega)
  obtain rfl : r0 = r := Option.some.inj (r1.symm.trans hr)
  obtain rfl : R0 = R := Option.some.inj (s1.symm.trans hR)
  obtain ⟨u, u1, u2⟩ := vl_up hT r2 (by rw [hU]; unfold Nr at r3; omega)
  have k1 := r3.scale T
  have e1 : (1000400 + 1) * U * T = (1000400 + 1) * V := by rw [Nat.mul_assoc, hUT]
  have e2 : (X + z * (U : Int)) * (T : Int) = X * (T : Int) + z * (V : Int) := by rw [Int.add_mul, Int.mul_assoc z, ← Int.natCast_mul, hUT]
  rw [e1, e2] at k1
  have hW : 4000 * V * n ≤ 1280000 * V := by
    have := Nat.mul_le_mul_left (4000 * V) hn
    omega
  have hd : (c * (T : Int) - c').natAbs ≤ 1 * V := by
    unfold Nr at near k1 s3
    generalize 4000 * V * n = W at *
    generalize c * (T : Int) = a at *
    generalize X * (T : Int) = b at *
    generalize z * (V : Int) = q at *
    omega
  obtain ⟨d, D, d1, d2, d3⟩ := vl_subU hV u2 s2 (B := 1) hd (by omega)
  have hVp : 0 < V := by rw [← hV]; exact Nat.two_pow_pos _
  have hD : -(V : Int) < D ∧ D < V := by
    unfold Nr at near k1 s3 d3
    generalize 4000 * V * n = W at *
    generalize c * (T : Int) = a at *
    generalize X * (T : Int) = b at *
    generalize z * (V : Int) = q at *
    omega
  refine ⟨u, d, u1, d1, ?_, ?_, vl_same u2 u2, ?_⟩
  · rw [vl_order d2 (one_vl hV), Int.compare_eq_lt.2 hD.2]
  · rw [vl_order d2 (mone_vl hV), Int.compare_eq_gt.2 hD.1]
  · intro h
    obtain ⟨a, a1, a2⟩ := hsh h
    obtain rfl := vl_uniq r2 a1
    rw [hT] at a2
    exact vl_same u2 a2
theorem short_part {l : List UInt8} {x r R : Nat} {m z : Int} (hl : l.length ≤ 40) (hz : z.natAbs ≤ 13) (hd : (2 : Int) ^ (l.length / 2) ∣ m) (hm : m.natAbs ≤ 2 * 2 ^ l.length)
    (hx : Vl .f32 x (m * 2 ^ (149 - l.length))) (hr : floatBits .add .f32 x (floatOfInt .f32 z) = some r) (hR : Vl .f64 R ((m + z * 2 ^ l.length) * 2 ^ uu l.length)) :
    ∃ a : Int, Vl .f32 r a ∧ Vl .f64 R (a * ((2 ^ tt : Nat) : Int)) := by
  have hn0 := Nat.two_pow_pos l.length
  have q4 : 2 ^ (l.length + 4) = 16 * 2 ^ l.length := by rw [Nat.pow_add, Nat.mul_comm]
  have hzP : (z * 2 ^ l.length).natAbs ≤ 13 * 2 ^ l.length := by rw [natAbs_pow]; exact Nat.mul_le_mul_right _ hz
  have hiv := int_vlK .f32 rfl (x := z) (by omega)
  rw [split2 z (n := l.length) (e := 149 - l.length) (by omega)] at hiv
  have ok := (okS (m := m + z * 2 ^ l.length) (n := l.length) (e := 149 - l.length) hl (by omega) (Int.dvd_add hd (Int.dvd_mul_of_dvd_right (pdvd (by omega)))) (by
    have := Int.natAbs_add_le m (z * 2 ^ l.length)
    omega)).2
  rw [Int.add_mul] at ok
  obtain ⟨r0, a1, a2⟩ := vl_add hx hiv ok
  obtain rfl : r0 = r := Option.some.inj (a1.symm.trans hr)
  rw [← Int.add_mul] at a2
  refine ⟨_, a2, ?_⟩
  have e : (m + z * 2 ^ l.length) * 2 ^ (149 - l.length) * ((2 ^ tt : Nat) : Int) = (m + z * 2 ^ l.length) * 2 ^ uu l.length := by
    rw [Int.mul_assoc, Int.natCast_pow, show ((2 : Nat) : Int) = 2 from rfl, ← Int.pow_add]
    congr 2
    unfold uu
    have : un .f64 = 1074 := rfl
    have : tt = 925 := rfl
    omega
  rw [e]
  exact hR
theorem parts_of {s : ByteArray} (h : ptB s = true) : Part (ptR .f32 s) (ptR .f64 s) (atP s ≤ 4 ∧ (tlS s).size ≤ 40) ∧ Part (ptI .f32 s) (ptI .f64 s) (atP s ≤ 4 ∧ (tlS s).size ≤ 40) := by
  unfold ptB at h
  rw [Bool.and_eq_true] at h
  obtain ⟨c0, c1, c2, c3⟩ := cutB_facts h.1
  obtain ⟨x1, x2, y1, y2⟩ := inB_le h.2
  have hb := onlyB_bits c1
  have hhd := vldB_bits c2
  have hl : (toL (tlS s)).length = (tlS s).size := toL_len _
  have hh : (toL (hdS s)).length = atP s := by rw [toL_len, hdS_size]
  unfold ptR ptI
  obtain ⟨X, Y, X', Y', v1, v2, v3, v4, n1, n2⟩ := pv_near (T := 2 ^ tt) rfl rfl (by rw [← Nat.pow_add, un_tt]) (toL (tlS s)) hb (by omega)
  obtain ⟨X0, Y0, a1, a2, a3, a4⟩ := pv_vals .f32 rfl (toL (tlS s)) (by omega)
  obtain ⟨X0', Y0', b1, b2, b3, b4⟩ := pv_vals .f64 rfl (toL (tlS s)) (by omega)
  obtain rfl := vl_uniq v1 a1
  obtain rfl := vl_uniq v2 a2
  obtain rfl := vl_uniq v3 b1
  obtain rfl := vl_uniq v4 b2
  have q := fun k => pv_pt k (toL (tlS s)) (by omega)
  have w32 := wh_ops (k := .f32) ((q .f32).mono (C := 1000) (by omega)) ⟨x1, x2⟩ ⟨y1, y2⟩
  have w64 := wh_ops (k := .f64) ((q .f64).mono (C := 1000) (by omega)) ⟨x1, x2⟩ ⟨y1, y2⟩
  have S : atP s ≤ 4 ∧ (tlS s).size ≤ 40 → (valX (toL (hdS s))).natAbs ≤ 13 ∧ (valY (toL (hdS s))).natAbs ≤ 13 := fun hs => val4 _ hhd (by omega)
  have E := ev_two (toL (tlS s))
  have D := ev_bd (toL (tlS s)) hb
  have p53 : (tlS s).size ≤ 40 → 16 * 2 ^ (toL (tlS s)).length < 2 ^ 53 := fun h => by
    have h1 : 16 * 2 ^ (toL (tlS s)).length ≤ 16 * 2 ^ 40 := Nat.mul_le_mul_left _ (Nat.pow_le_pow_right (by omega) (by omega))
    have h2 : 16 * 2 ^ 40 < 2 ^ 53 := by decide
    omega
  have W : atP s ≤ 4 ∧ (tlS s).size ≤ 40 → Vl2 .f64 (whR .f64 (pv .f64 (toL (tlS s))) (valX (toL (hdS s)))) (whI .f64 (pv .f64 (toL (tlS s))) (valY (toL (hdS s)))) (((ev (toL (tlS s))).1 + valX (toL (hdS s)) * 2 ^ (toL (tlS s)).length) * 2 ^ uu (toL (tlS s)).length, ((ev (toL (tlS s))).2 + valY (toL (hdS s)) * 2 ^ (toL (tlS s)).length) * 2 ^ uu (toL (tlS s)).length) := fun hs => by
    obtain ⟨s1, s2⟩ := S hs
    have hp := p53 hs.2
    have z1 : (valX (toL (hdS s)) * 2 ^ (toL (tlS s)).length).natAbs ≤ 13 * 2 ^ (toL (tlS s)).length := by rw [natAbs_pow]; exact Nat.mul_le_mul_right _ s1
    have z2 : (valY (toL (hdS s)) * 2 ^ (toL (tlS s)).length).natAbs ≤ 13 * 2 ^ (toL (tlS s)).length := by rw [natAbs_pow]; exact Nat.mul_le_mul_right _ s2
    have m1 := Int.natAbs_add_le (ev (toL (tlS s))).1 (valX (toL (hdS s)) * 2 ^ (toL (tlS s)).length)
    have m2 := Int.natAbs_add_le (ev (toL (tlS s))).2 (valY (toL (hdS s)) * 2 ^ (toL (tlS s)).length)
    obtain ⟨D1, D2⟩ := D
    exact wh_ex hb (by omega) ⟨x1, x2⟩ ⟨y1, y2⟩ (by omega) (by omega) (by omega) (by omega)
  refine ⟨part_of (n := (toL (tlS s)).length) (by omega) ⟨x1, x2⟩ v1 v3 a3 b3 n1 w32.1 w64.1 ?_, part_of (n := (toL (tlS s)).length) (by omega) ⟨y1, y2⟩ v2 v4 a4 b4 n2 w32.2.1 w64.2.1 ?_⟩
  · intro hs
    exact short_part (by omega) (S hs).1 E.1 D.1 (pv_ex32 _ hb (by omega) _ (by omega)).1 w32.1 (W hs).1
  · intro hs
    exact short_part (by omega) (S hs).2 E.2.1 D.2 (pv_ex32 _ hb (by omega) _ (by omega)).2 w32.2.1 (W hs).2
end Go.Proofs.Ytlcafjdinjdllab

/- Binary floats as whole numbers of the format's least unit: sums, halves, the way between both widths, and the division by the base. No law is stated here. -/
import Derived.Test.YtmdnfamjdogogaaDoorFl
namespace Go.Proofs.YtmdnfamjdogogaaDoor
set_option linter.unusedSimpArgs false
set_option linter.unusedVariables false
open Ieee
/-- the sign and the size of a sum -/
def sumS (s : Bool) (V : Nat) (t : Bool) (W : Nat) : Bool := if sg s V + sg t W = 0 then s && t else decide (sg s V + sg t W < 0)
def sumA (s : Bool) (V : Nat) (t : Bool) (W : Nat) : Nat := (sg s V + sg t W).natAbs
theorem sumA_le (s : Bool) (V : Nat) (t : Bool) (W : Nat) : sumA s V t W ≤ V + W := by
  unfold sumA
  have := Int.natAbs_add_le (sg s V) (sg t W)
  rw [sg_abs, sg_abs] at this
  exact this
theorem fl_sum {f : Format} (s : Bool) (V : Nat) (t : Bool) (W : Nat) (hl : dropU f 0 (sumA s V t W) - 0 + 2 < 2 ^ f.exponentBits - 1) :
    Fl f (sumW f s V t W) (sumS s V t W) (rndU f 0 (sumA s V t W)) := fl_nearest f _ _ 0 (by omega) hl
/-- the half -/
theorem quot_two {f : Format} {s : Bool} {m i : Nat} (hm : m < 2 ^ (f.fractionBits + 1)) :
    ((Datum.number s m (f.leastPlace + (i : Int))).quotient (f.fractionBits + 2) (.number false (2 ^ f.fractionBits) (1 - (f.fractionBits : Int)))).map f.write = some (f.nearest s (m * 2 ^ i) (f.leastPlace - 1)) := by
  have hp := Nat.two_pow_pos f.fractionBits
  have hne : 2 ^ f.fractionBits ≠ 0 := by omega
  unfold Datum.quotient
  simp only [if_neg hne, Option.map_some, Nat.log2_two_pow, Nat.shiftLeft_eq, Bool.xor_false, Format.write]
  have hlog : m.log2 ≤ f.fractionBits := by
    rcases Nat.eq_zero_or_pos m with rfl | h
    · rw [Nat.log2_zero]; omega
    · have := (Nat.log2_lt (by omega)).2 hm; omega
  obtain ⟨a, ha⟩ : ∃ a, f.fractionBits + 2 + f.fractionBits - m.log2 = f.fractionBits + a := ⟨f.fractionBits + 2 - m.log2, by omega⟩
  rw [ha]
  have e1 : m * 2 ^ (f.fractionBits + a) = m * 2 ^ a * 2 ^ f.fractionBits := by rw [Nat.add_comm, Nat.pow_add, Nat.mul_assoc]
  rw [e1, Nat.mul_div_cancel _ hp, Nat.mul_mod_left]
  have e2 : 2 * (m * 2 ^ a) + (0 != 0).toNat = m * 2 ^ (a + 1) := by
    rw [show (0 != 0) = false by rfl, Nat.pow_succ]
    simp only [Bool.toNat_false, Nat.add_zero, Nat.mul_comm, Nat.mul_left_comm]
  rw [e2]
  have e3 : f.leastPlace + (i : Int) - (1 - (f.fractionBits : Int)) - ((f.fractionBits + a : Nat) : Int) - 1 = (f.leastPlace + (i : Int) - 1) - ((a + 1 : Nat) : Int) - 0 := by omega
  rw [e3, Int.sub_zero, nearest_shift]
  have e4 : f.leastPlace - 1 = (f.leastPlace + (i : Int) - 1) - (i : Int) := by omega
  rw [e4, nearest_shift]
theorem fl_div2 {f : Format} {x two : Nat} {s : Bool} {V : Nat} (hx : Fl f x s V) (h2 : f.read two = .number false (2 ^ f.fractionBits) (1 - (f.fractionBits : Int))) :
    f.div x two = some (f.nearest s V (f.leastPlace - 1)) := by
  obtain ⟨m, i, h1, rfl, h3⟩ := hx
  unfold Format.div
  rw [h1, h2]
  exact quot_two h3
theorem fl_half {f : Format} (s : Bool) (V : Nat) (hl : dropU f 1 V - 1 + 2 < 2 ^ f.exponentBits - 1) : Fl f (f.nearest s V (f.leastPlace - 1)) s (rndU f 1 V) :=
  fl_nearest f s V 1 (by omega) hl
/-- both widths -/
theorem least_s : single.leastPlace = -149 := by decide
theorem least_d : double.leastPlace = -1074 := by decide
/-- the unit of a width, as an exponent -/
def un : FloatKind → Nat
  | .f32 => 149
  | .f64 => 1074
theorem lim_gen {f : Format} {U u V M : Nat} (hM : 21 + U ≤ f.fractionBits + 1 + M) (hE : M + 2 < 2 ^ f.exponentBits - 1) (h : V ≤ 2000000 * 2 ^ U * 2 ^ u) : dropU f u V - u + 2 < 2 ^ f.exponentBits - 1 := by
  have : dropU f u V - u ≤ M := drop_lim (by
    have h1 : 2000000 * 2 ^ U * 2 ^ u < 2 ^ 21 * 2 ^ U * 2 ^ u := (Nat.mul_lt_mul_right (Nat.two_pow_pos u)).2 ((Nat.mul_lt_mul_right (Nat.two_pow_pos U)).2 (by decide))
    rw [← Nat.pow_add, ← Nat.pow_add] at h1
    have h2 : 2 ^ (21 + U + u) ≤ 2 ^ (f.fractionBits + 1 + u + M) := Nat.pow_le_pow_right (by omega) (by omega)
    omega)
  omega
theorem lim_s {u V : Nat} (h : V ≤ 2000000 * 2 ^ un .f32 * 2 ^ u) : dropU single u V - u + 2 < 2 ^ single.exponentBits - 1 :=
  lim_gen (f := single) (U := un .f32) (M := 147) (by decide) (by decide) h
theorem lim_d {u V : Nat} (h : V ≤ 2000000 * 2 ^ un .f64 * 2 ^ u) : dropU double u V - u + 2 < 2 ^ double.exponentBits - 1 :=
  lim_gen (f := double) (U := un .f64) (M := 1043) (by decide) (by decide) h
theorem lim_d2 {u V : Nat} (h : V ≤ 2000000 * 2 ^ (un .f32 + 925) * 2 ^ u) : dropU double u V - u + 2 < 2 ^ double.exponentBits - 1 :=
  lim_gen (f := double) (U := un .f32 + 925) (M := 1043) (by decide) (by decide) h
/-- how both widths' units lie -/
structure Wd (US T : Nat) : Prop where
  place : single.leastPlace = double.leastPlace + (T : Int)
  one : 1 ≤ T
  limS : ∀ {u V : Nat}, V ≤ 2000000 * 2 ^ US * 2 ^ u → dropU single u V - u + 2 < 2 ^ single.exponentBits - 1
  limD : ∀ {u V : Nat}, V ≤ 2000000 * 2 ^ (US + T) * 2 ^ u → dropU double u V - u + 2 < 2 ^ double.exponentBits - 1
theorem wd : Wd (un .f32) 925 := ⟨by decide, by omega, lim_s, lim_d2⟩
theorem fl_place {f : Format} {x : Nat} {s : Bool} {V : Nat} (h : Fl f x s V) : ∃ m k : Nat, f.read x = .number s m (f.leastPlace + (k : Int)) ∧ m * 2 ^ k = V := by
  obtain ⟨m, k, h1, h2, _⟩ := h; exact ⟨m, k, h1, h2⟩
theorem notInf {f : Format} {x : Nat} {s : Bool} {V : Nat} (h : Fl f x s V) : (f.read x).isInfinity = false := by
  obtain ⟨m, k, h1, _⟩ := h
  rw [h1]; rfl
theorem rep_wide {V : Nat} (h : Rep single V) : Rep double V := by
  obtain ⟨d, h1, h2⟩ := h
  exact ⟨d, h1, Nat.lt_of_lt_of_le h2 (Nat.pow_le_pow_right (by omega) (by show 23 + 1 + d ≤ 52 + 1 + d; omega))⟩
theorem up_mul {V US T : Nat} (h : V ≤ 2000000 * 2 ^ US) : V * 2 ^ T ≤ 2000000 * 2 ^ (US + T) := by
  have := Nat.mul_le_mul_right (2 ^ T) h
  rw [Nat.mul_assoc, ← Nat.pow_add] at this
  exact this
theorem conv_up {US T x : Nat} (hw : Wd US T) {s : Bool} {V : Nat} (hx : Fl single x s V) (hV : V ≤ 2000000 * 2 ^ US) :
    floatToFloatBits .f32 x .f64 = some (double.nearest s (V * 2 ^ T) double.leastPlace) ∧ Fl double (double.nearest s (V * 2 ^ T) double.leastPlace) s (V * 2 ^ T) := by
  have hl : V * 2 ^ T ≤ 2000000 * 2 ^ (US + T) * 2 ^ 0 := by simpa using up_mul (T := T) hV
  have hF := fl_nearest double s (V * 2 ^ T) 0 (p := double.leastPlace) (by omega) (hw.limD hl)
  have he : rndU double 0 (V * 2 ^ T) = V * 2 ^ T := by
    have := rndU_exact (f := double) (u := 0) (rep_scale (rep_wide (fl_rep hx)) T)
    rw [Nat.pow_zero, Nat.mul_one] at this
    exact this
  rw [he] at hF
  refine ⟨?_, hF⟩
  obtain ⟨m, k, h1, rfl⟩ := fl_place hx
  have ew : double.nearest s m (single.leastPlace + (k : Int)) = double.nearest s (m * 2 ^ k * 2 ^ T) double.leastPlace := by
    have h := nearest_shift double s m (k + T) (single.leastPlace + (k : Int))
    have e : single.leastPlace + (k : Int) - ((k + T : Nat) : Int) = double.leastPlace := by rw [hw.place]; omega
    rw [e, Nat.pow_add, ← Nat.mul_assoc] at h
    exact h.symm
  unfold floatToFloatBits
  rw [if_neg (by decide)]
  have hd : FloatKind.f32.decode x = .number s m (single.leastPlace + (k : Int)) := h1
  rw [hd]
  show (if (double.read (double.nearest s m (single.leastPlace + (k : Int)))).isInfinity = true then none else some (double.nearest s m (single.leastPlace + (k : Int)))) = _
  rw [ew, notInf hF, if_neg (by decide)]
theorem conv_down {US T x : Nat} (hw : Wd US T) {s : Bool} {V : Nat} (hx : Fl double x s V) (hV : V ≤ 2000000 * 2 ^ (US + T)) :
    floatToFloatBits .f64 x .f32 = some (single.nearest s V (single.leastPlace - (T : Int))) ∧ Fl single (single.nearest s V (single.leastPlace - (T : Int))) s (rndU single T V) := by
  have hl : V ≤ 2000000 * 2 ^ US * 2 ^ T := by rw [Nat.mul_assoc, ← Nat.pow_add]; exact hV
  have hF := fl_nearest single s V T (p := single.leastPlace - (T : Int)) (by omega) (hw.limS hl)
  refine ⟨?_, hF⟩
  obtain ⟨m, k, h1, rfl⟩ := fl_place hx
  have ew : single.nearest s m (double.leastPlace + (k : Int)) = single.nearest s (m * 2 ^ k) (single.leastPlace - (T : Int)) := by
    have h := nearest_shift single s m k (double.leastPlace + (k : Int))
    have e : double.leastPlace + (k : Int) - ((k : Nat) : Int) = single.leastPlace - (T : Int) := by rw [hw.place]; omega
    rw [e] at h
    exact h.symm
  unfold floatToFloatBits
  rw [if_neg (by decide)]
  have hd : FloatKind.f64.decode x = .number s m (double.leastPlace + (k : Int)) := h1
  rw [hd]
  show (if (single.read (single.nearest s m (double.leastPlace + (k : Int)))).isInfinity = true then none else some (single.nearest s m (double.leastPlace + (k : Int)))) = _
  rw [ew, notInf hF, if_neg (by decide)]
theorem sg_neg (s : Bool) (V : Nat) : sg (!s) V = -sg s V := by cases s <;> simp [sg]
theorem sg0 (s : Bool) : sg s 0 = 0 := by cases s <;> rfl
theorem sumA_neg0 (s : Bool) (V : Nat) : sumA false 0 (!s) V = V := by
  unfold sumA; cases s <;> simp [sg]
theorem sumS_neg0 (s : Bool) (V t : Nat) : sumS false 0 (!s) (V * 2 ^ t) = sumS false 0 (!s) V := by
  have hp : (0 : Int) < 2 ^ t := by exact_mod_cast Nat.two_pow_pos t
  unfold sumS
  rw [sg0, Int.zero_add, Int.zero_add, sg_scale]
  generalize sg (!s) V = a
  have c1 : (a * 2 ^ t = 0) = (a = 0) := by
    apply propext
    refine ⟨fun h => ?_, fun h => by rw [h, Int.zero_mul]⟩
    rcases Int.mul_eq_zero.1 h with h | h
    · exact h
    · omega
  have c2 : (a * 2 ^ t < 0) = (a < 0) := by
    apply propext
    refine ⟨fun h => ?_, fun h => Int.mul_neg_of_neg_of_pos h hp⟩
    rcases Int.lt_or_le a 0 with h2 | h2
    · exact h2
    · have := Int.mul_nonneg h2 (Int.le_of_lt hp); omega
  simp only [c1, c2]
theorem two_s : single.read 1073741824 = .number false (2 ^ single.fractionBits) (1 - (single.fractionBits : Int)) := by decide +kernel
theorem two_d : double.read 4611686018427387904 = .number false (2 ^ double.fractionBits) (1 - (double.fractionBits : Int)) := by decide +kernel
theorem fl0 {f : Format} (hb : f.binade ≤ f.infRung) : Fl f 0 false 0 := fl_zero f false hb
theorem fl0_s : Fl single 0 false 0 := fl0 (by decide)
theorem fl0_d : Fl double 0 false 0 := fl0 (by decide +kernel)
/-- sizes of at most B whole units -/
theorem rnd_whole {f : Format} {u V B U : Nat} (hF : 23 ≤ f.fractionBits) (hB : B ≤ 2000000) (h : V ≤ B * 2 ^ U * 2 ^ u) : rndU f u V ≤ B * 2 ^ U :=
  rndU_le (rep_scale (rep_small (by
    have : 2 ^ 24 ≤ 2 ^ (f.fractionBits + 1) := Nat.pow_le_pow_right (by omega) (by omega)
    have e : (2 : Nat) ^ 24 = 16777216 := by decide
    omega)) U) h
theorem rnd_same {f : Format} {V : Nat} (h : Rep f V) : rndU f 0 V = V := by
  have := rndU_exact (f := f) (u := 0) h
  simpa using this
/-- a sum of sizes of whole units -/
theorem fl_sumB {f : Format} {U : Nat} (hF : 23 ≤ f.fractionBits) (hlim : ∀ {u V : Nat}, V ≤ 2000000 * 2 ^ U * 2 ^ u → dropU f u V - u + 2 < 2 ^ f.exponentBits - 1)
    {s t : Bool} {V W B C : Nat} (hV : V ≤ B * 2 ^ U) (hW : W ≤ C * 2 ^ U) (hB : B + C ≤ 2000000) :
    Fl f (sumW f s V t W) (sumS s V t W) (rndU f 0 (sumA s V t W)) ∧ rndU f 0 (sumA s V t W) ≤ (B + C) * 2 ^ U := by
  have h1 := sumA_le s V t W
  have h2 : sumA s V t W ≤ (B + C) * 2 ^ U * 2 ^ 0 := by rw [Nat.add_mul]; simp only [Nat.pow_zero, Nat.mul_one]; omega
  exact ⟨fl_sum s V t W (hlim (Nat.le_trans h2 (Nat.mul_le_mul_right _ (Nat.mul_le_mul_right _ hB)))), rnd_whole hF hB h2⟩
theorem fl_halfB {f : Format} {U : Nat} (hF : 23 ≤ f.fractionBits) (hlim : ∀ {u V : Nat}, V ≤ 2000000 * 2 ^ U * 2 ^ u → dropU f u V - u + 2 < 2 ^ f.exponentBits - 1)
    {s : Bool} {V B C : Nat} (hV : V ≤ C * 2 ^ U) (hC : C ≤ 2 * B) (hB : B ≤ 2000000) :
    Fl f (f.nearest s V (f.leastPlace - 1)) s (rndU f 1 V) ∧ rndU f 1 V ≤ B * 2 ^ U := by
  have h2 : V ≤ B * 2 ^ U * 2 ^ 1 := by
    refine Nat.le_trans hV (Nat.le_trans (Nat.mul_le_mul_right _ hC) ?_)
    rw [Nat.pow_one, Nat.mul_comm _ 2, ← Nat.mul_assoc]
    exact Nat.le_refl _
  exact ⟨fl_half s V (hlim (Nat.le_trans h2 (Nat.mul_le_mul_right _ (Nat.mul_le_mul_right _ hB)))), rnd_whole hF hB h2⟩
/-- '(y - x) / 2' and '(0 - x - y) / 2', each operation by itself -/
def DivOps (k : FloatKind) (two x y d n e r i : Nat) : Prop :=
  floatBits .sub k y x = some d ∧ floatBits .quo k d two = some r ∧ floatBits .sub k 0 x = some n ∧ floatBits .sub k n y = some e ∧ floatBits .quo k e two = some i
/-- a point: both parts are finite, of a size of at most B -/
def Pt (f : Format) (U B x y : Nat) : Prop := ∃ s V t W, Fl f x s V ∧ Fl f y t W ∧ V ≤ B * 2 ^ U ∧ W ≤ B * 2 ^ U
theorem divide_d {x y : Nat} {s t : Bool} {V W B C D : Nat} (hx : Fl double x s V) (hy : Fl double y t W) (hV : V ≤ B * 2 ^ un .f64) (hW : W ≤ C * 2 ^ un .f64) (hB : B + C ≤ 2 * D) (hD : D ≤ 1000000) :
    ∃ d n e r i, DivOps .f64 4611686018427387904 x y d n e r i ∧ Pt double (un .f64) D r i := by
  obtain ⟨d1, d2⟩ := fl_sumB (f := double) (s := t) (t := !s) (by decide) lim_d hW hV (by omega)
  obtain ⟨r1, r2⟩ := fl_halfB (f := double) (s := sumS t W (!s) V) (B := D) (by decide) lim_d d2 (by omega) (by omega)
  obtain ⟨n1, n2⟩ := fl_sumB (f := double) (s := false) (V := 0) (t := !s) (B := 0) (by decide) lim_d (by omega) hV (by omega)
  obtain ⟨e1, e2⟩ := fl_sumB (f := double) (s := sumS false 0 (!s) V) (t := !t) (by decide) lim_d n2 hW (by omega)
  obtain ⟨i1, i2⟩ := fl_halfB (f := double) (s := sumS (sumS false 0 (!s) V) (rndU double 0 (sumA false 0 (!s) V)) (!t) W) (B := D) (by decide) lim_d e2 (by omega) (by omega)
  exact ⟨_, _, _, _, _, ⟨fl_sub hy hx, fl_div2 d1 two_d, fl_sub fl0_d hx, fl_sub n1 hy, fl_div2 e1 two_d⟩, _, _, _, _, r1, i1, r2, i2⟩
/-- the same by way of the wider width -/
def WideOps (x y d e r i X Y N y' n' D E R I : Nat) : Prop :=
  floatToFloatBits .f32 x .f64 = some X ∧ floatToFloatBits .f32 y .f64 = some Y ∧ floatBits .sub .f64 0 X = some N ∧ floatToFloatBits .f64 Y .f32 = some y' ∧ floatToFloatBits .f64 N .f32 = some n' ∧
  floatBits .sub .f32 y' x = some d ∧ floatBits .sub .f32 n' y = some e ∧ floatToFloatBits .f32 d .f64 = some D ∧ floatToFloatBits .f32 e .f64 = some E ∧
  floatBits .quo .f64 D 4611686018427387904 = some R ∧ floatBits .quo .f64 E 4611686018427387904 = some I ∧ floatToFloatBits .f64 R .f32 = some r ∧ floatToFloatBits .f64 I .f32 = some i
theorem up_le {V B US : Nat} (h : V ≤ B * 2 ^ US) (hB : B ≤ 2000000) : V ≤ 2000000 * 2 ^ US := Nat.le_trans h (Nat.mul_le_mul_right _ hB)
/-- there and back -/
theorem updown {US T x : Nat} (hw : Wd US T) {s : Bool} {V : Nat} (h : Fl double x s (V * 2 ^ T)) (hr : Rep single V) (hV : V ≤ 2000000 * 2 ^ US) :
    ∃ x', floatToFloatBits .f64 x .f32 = some x' ∧ Fl single x' s V := by
  obtain ⟨c1, c2⟩ := conv_down hw h (up_mul hV)
  rw [rndU_exact hr] at c2
  exact ⟨_, c1, c2⟩
theorem half_route {US T x : Nat} (hw : Wd US T) {s : Bool} {V : Nat} (h : Fl single x s V) (hV : V ≤ 2000000 * 2 ^ US) :
    ∃ X R, floatToFloatBits .f32 x .f64 = some X ∧ floatBits .quo .f64 X 4611686018427387904 = some R ∧ floatToFloatBits .f64 R .f32 = some (single.nearest s V (single.leastPlace - 1)) := by
  obtain ⟨c1, c2⟩ := conv_up hw h hV
  have hm := up_mul (T := T) hV
  have hl : V * 2 ^ T ≤ 2000000 * 2 ^ (US + T) * 2 ^ 1 := by omega
  have hR := fl_half (f := double) s (V * 2 ^ T) (hw.limD hl)
  obtain ⟨T', hT⟩ : ∃ T', T = T' + 1 := ⟨T - 1, by have := hw.one; omega⟩
  have he : rndU double 1 (V * 2 ^ T) = V * 2 ^ T' := by
    have := rndU_exact (f := double) (u := 1) (rep_scale (rep_wide (fl_rep h)) T')
    rw [Nat.mul_assoc, ← Nat.pow_add] at this
    rw [hT]
    exact this
  rw [he] at hR
  have hm2 : V * 2 ^ T' ≤ V * 2 ^ T := Nat.mul_le_mul_left _ (Nat.pow_le_pow_right (by omega) (by omega))
  obtain ⟨g1, g2⟩ := conv_down hw hR (Nat.le_trans hm2 hm)
  refine ⟨_, _, c1, fl_div2 c2 two_d, ?_⟩
  refine g1.trans ?_
  have h := nearest_shift single s V T' (single.leastPlace - 1)
  have e : single.leastPlace - 1 - (T' : Int) = single.leastPlace - (T : Int) := by omega
  rw [e] at h
  rw [h]
theorem divide_s {US T x y : Nat} (hw : Wd US T) {s t : Bool} {V W B C D : Nat} (hx : Fl single x s V) (hy : Fl single y t W) (hV : V ≤ B * 2 ^ US) (hW : W ≤ C * 2 ^ US) (hB : B + C ≤ 2 * D) (hD : D ≤ 1000000) :
    ∃ d n e r i, DivOps .f32 1073741824 x y d n e r i ∧ Pt single US D r i ∧ ∃ X Y N y' n' D E R I, WideOps x y d e r i X Y N y' n' D E R I := by
  obtain ⟨d1, d2⟩ := fl_sumB (f := single) (s := t) (t := !s) (by decide) hw.limS hW hV (by omega)
  obtain ⟨r1, r2⟩ := fl_halfB (f := single) (s := sumS t W (!s) V) (B := D) (by decide) hw.limS d2 (by omega) (by omega)
  obtain ⟨n1, n2⟩ := fl_sumB (f := single) (s := false) (V := 0) (t := !s) (B := 0) (by decide) hw.limS (by omega) hV (by omega)
  rw [sumA_neg0, rnd_same (fl_rep hx)] at n1 n2
  obtain ⟨e1, e2⟩ := fl_sumB (f := single) (s := sumS false 0 (!s) V) (V := V) (t := !t) (B := B) (by decide) hw.limS hV hW (by omega)
  obtain ⟨i1, i2⟩ := fl_halfB (f := single) (s := sumS (sumS false 0 (!s) V) V (!t) W) (B := D) (by decide) hw.limS e2 (by omega) (by omega)
  obtain ⟨X, x1, x2⟩ : ∃ X, floatToFloatBits .f32 x .f64 = some X ∧ Fl double X s (V * 2 ^ T) := ⟨_, conv_up hw hx (up_le hV (by omega))⟩
  obtain ⟨Y, y1, y2⟩ : ∃ Y, floatToFloatBits .f32 y .f64 = some Y ∧ Fl double Y t (W * 2 ^ T) := ⟨_, conv_up hw hy (up_le hW (by omega))⟩
  have hX2 := up_mul (T := T) (up_le hV (by omega))
  have n3 := fl_sum (f := double) false 0 (!s) (V * 2 ^ T) (hw.limD (by rw [sumA_neg0, Nat.pow_zero, Nat.mul_one]; exact hX2))
  rw [sumA_neg0, rnd_same (fl_rep x2), sumS_neg0] at n3
  obtain ⟨y', p1, p2⟩ := updown hw y2 (fl_rep hy) (up_le hW (by omega))
  obtain ⟨n', q1, q2⟩ := updown hw n3 (fl_rep hx) (up_le hV (by omega))
  obtain ⟨D1, R, g1, g2, g3⟩ := half_route hw d1 (up_le d2 (by omega))
  obtain ⟨E1, I, k1, k2, k3⟩ := half_route hw e1 (up_le e2 (by omega))
  exact ⟨_, _, _, _, _, ⟨fl_sub hy hx, fl_div2 d1 two_s, fl_sub fl0_s hx, fl_sub n1 hy, fl_div2 e1 two_s⟩, ⟨_, _, _, _, r1, i1, r2, i2⟩,
    X, Y, _, y', n', D1, E1, R, I, x1, y1, fl_sub fl0_d x2, p1, q1, fl_sub p2 hx, fl_sub q2 hy, g1, k1, g2, k2, g3, k3⟩
/-- whole numbers -/
theorem fl_whole {f : Format} {U : Nat} (hF : 23 ≤ f.fractionBits) (hU : f.leastPlace = -(U : Int)) (hlim : ∀ {u V : Nat}, V ≤ 2000000 * 2 ^ U * 2 ^ u → dropU f u V - u + 2 < 2 ^ f.exponentBits - 1)
    (s : Bool) {m : Nat} (hm : m ≤ 2000000) : Fl f (f.nearest s m 0) s (m * 2 ^ U) := by
  have h := nearest_shift f s m U 0
  have e : (0 : Int) - (U : Int) = f.leastPlace := by omega
  rw [e] at h
  rw [← h]
  have hr : Rep f m := rep_small (by
    have : 2 ^ 24 ≤ 2 ^ (f.fractionBits + 1) := Nat.pow_le_pow_right (by omega) (by omega)
    have e : (2 : Nat) ^ 24 = 16777216 := by decide
    omega)
  have h2 := fl_nearest f s (m * 2 ^ U) 0 (p := f.leastPlace) (by omega) (hlim (by rw [Nat.pow_zero, Nat.mul_one]; exact Nat.mul_le_mul_right _ hm))
  rw [rnd_same (rep_scale hr U)] at h2
  exact h2
theorem whole_down {US T : Nat} (hw : Wd US T) (hU : double.leastPlace = -((US + T : Nat) : Int)) (s : Bool) {m : Nat} (hm : m ≤ 2000000) :
    floatToFloatBits .f64 (double.nearest s m 0) .f32 = some (single.nearest s m 0) := by
  obtain ⟨c1, _⟩ := conv_down hw (fl_whole (f := double) (by decide) hU hw.limD s hm) (Nat.mul_le_mul_right _ hm)
  refine c1.trans ?_
  have h := nearest_shift single s m (US + T) 0
  have e : (0 : Int) - ((US + T : Nat) : Int) = single.leastPlace - (T : Int) := by rw [hw.place, hU]; omega
  rw [e] at h
  rw [h]
end Go.Proofs.YtmdnfamjdogogaaDoor

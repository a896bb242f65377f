/- Chapter 3's points as words: powers and places, in both widths. No law is stated here. -/
import Derived.Test.YtmdnfamjdogogaaDoorFm
namespace Go.Proofs.YtmdnfamjdogogaaDoor
set_option linter.unusedSimpArgs false
set_option linter.unusedVariables false
open Ieee
def two : FloatKind → Nat
  | .f32 => 1073741824
  | .f64 => 4611686018427387904
def one : FloatKind → Nat
  | .f32 => 1065353216
  | .f64 => 4607182418800017408
def gd (o : Option Nat) : Nat := o.getD 0
def divR (k : FloatKind) (x y : Nat) : Nat := gd (floatBits .quo k (gd (floatBits .sub k y x)) (two k))
def divI (k : FloatKind) (x y : Nat) : Nat := gd (floatBits .quo k (gd (floatBits .sub k (gd (floatBits .sub k 0 x)) y)) (two k))
theorem div_of {k : FloatKind} {x y d n e r i : Nat} (h : DivOps k (two k) x y d n e r i) : divR k x y = r ∧ divI k x y = i := by
  obtain ⟨h1, h2, h3, h4, h5⟩ := h
  constructor
  · simp [divR, gd, h1, h2]
  · simp [divI, gd, h3, h4, h5]
/-- 1 divided by the base so many times -/
def pw (k : FloatKind) : Nat → Nat × Nat
  | 0 => (one k, 0)
  | n + 1 => (divR k (pw k n).1 (pw k n).2, divI k (pw k n).1 (pw k n).2)
theorem fl_wholeK (k : FloatKind) (s : Bool) {m : Nat} (hm : m ≤ 2000000) : Fl k.format (k.format.nearest s m 0) s (m * 2 ^ un k) := by
  cases k
  · exact fl_whole (f := single) (U := un .f32) (by decide) (by decide) lim_s s hm
  · exact fl_whole (f := double) (U := un .f64) (by decide) (by decide) lim_d s hm
theorem one_word (k : FloatKind) : k.format.nearest false 1 0 = one k := by cases k <;> decide +kernel
theorem zero_word (k : FloatKind) : k.format.nearest false 0 0 = 0 := by cases k <;> decide +kernel
theorem fl_one (k : FloatKind) : Fl k.format (one k) false (1 * 2 ^ un k) := by rw [← one_word]; exact fl_wholeK k false (by omega)
theorem fl_nought (k : FloatKind) : Fl k.format 0 false (0 * 2 ^ un k) := by
  have := fl_wholeK k false (m := 0) (by omega)
  rw [zero_word] at this
  exact this
theorem sumB {k : FloatKind} {x y : Nat} {s t : Bool} {V W B C : Nat} (hx : Fl k.format x s V) (hy : Fl k.format y t W) (hV : V ≤ B * 2 ^ un k) (hW : W ≤ C * 2 ^ un k) (hB : B + C ≤ 2000000) :
    ∃ r S A, floatBits .add k x y = some r ∧ Fl k.format r S A ∧ A ≤ (B + C) * 2 ^ un k := by
  cases k
  · obtain ⟨h1, h2⟩ := fl_sumB (f := single) (s := s) (t := t) (by decide) lim_s hV hW hB
    exact ⟨_, _, _, fl_add hx hy, h1, h2⟩
  · obtain ⟨h1, h2⟩ := fl_sumB (f := double) (s := s) (t := t) (by decide) lim_d hV hW hB
    exact ⟨_, _, _, fl_add hx hy, h1, h2⟩
/-- the division of a point, with all that stands on the program's way -/
def Div (k : FloatKind) (x y r i : Nat) : Prop :=
  ∃ d n e, DivOps k (two k) x y d n e r i ∧ (k = .f32 → ∃ X Y N y' n' D E R I, WideOps x y d e r i X Y N y' n' D E R I)
theorem divK {k : FloatKind} {x y : Nat} {s t : Bool} {V W B C D : Nat} (hx : Fl k.format x s V) (hy : Fl k.format y t W) (hV : V ≤ B * 2 ^ un k) (hW : W ≤ C * 2 ^ un k) (hB : B + C ≤ 2 * D) (hD : D ≤ 1000000) :
    Div k x y (divR k x y) (divI k x y) ∧ Pt k.format (un k) D (divR k x y) (divI k x y) := by
  cases k
  · obtain ⟨d, n, e, r, i, h1, h2, h3⟩ := divide_s wd hx hy hV hW hB hD
    obtain ⟨e1, e2⟩ := div_of (k := .f32) h1
    rw [e1, e2]
    exact ⟨⟨d, n, e, h1, fun _ => h3⟩, h2⟩
  · obtain ⟨d, n, e, r, i, h1, h2⟩ := divide_d hx hy hV hW hB hD
    obtain ⟨e1, e2⟩ := div_of (k := .f64) h1
    rw [e1, e2]
    exact ⟨⟨d, n, e, h1, fun h => by cases h⟩, h2⟩
theorem pw_pt (k : FloatKind) : ∀ n, Pt k.format (un k) 1 (pw k n).1 (pw k n).2
  | 0 => ⟨_, _, _, _, fl_one k, fl_nought k, Nat.le_refl _, by omega⟩
  | n + 1 => by
    obtain ⟨s, V, t, W, h1, h2, h3, h4⟩ := pw_pt k n
    exact (divK h1 h2 h3 h4 (by omega) (by omega)).2
theorem pw_div (k : FloatKind) (n : Nat) : Div k (pw k n).1 (pw k n).2 (pw k (n + 1)).1 (pw k (n + 1)).2 := by
  obtain ⟨s, V, t, W, h1, h2, h3, h4⟩ := pw_pt k n
  exact (divK h1 h2 h3 h4 (D := 1) (by omega) (by omega)).1
/-- the word of a place -/
def bitW (k : FloatKind) (c : UInt8) : Nat := if c == 49 then one k else 0
theorem fl_bit (k : FloatKind) (c : UInt8) : ∃ V, Fl k.format (bitW k c) false V ∧ V ≤ 1 * 2 ^ un k := by
  unfold bitW
  split
  · exact ⟨_, fl_one k, Nat.le_refl _⟩
  · exact ⟨_, fl_nought k, by omega⟩
/-- with a place added -/
def plR (k : FloatKind) (z : Nat × Nat) (c : UInt8) : Nat := gd (floatBits .add k z.1 (bitW k c))
def plI (k : FloatKind) (z : Nat × Nat) : Nat := gd (floatBits .add k z.2 0)
/-- the point of places, from the last one on -/
def pv (k : FloatKind) : List UInt8 → Nat × Nat
  | [] => (0, 0)
  | c :: l => (divR k (plR k (pv k l) c) (plI k (pv k l)), divI k (plR k (pv k l) c) (plI k (pv k l)))
theorem pv_step {k : FloatKind} {l : List UInt8} {c : UInt8} {B : Nat} (hB : B ≤ 999999) (h : Pt k.format (un k) B (pv k l).1 (pv k l).2) :
    floatBits .add k (pv k l).1 (bitW k c) = some (plR k (pv k l) c) ∧ floatBits .add k (pv k l).2 0 = some (plI k (pv k l)) ∧
    Div k (plR k (pv k l) c) (plI k (pv k l)) (pv k (c :: l)).1 (pv k (c :: l)).2 ∧ Pt k.format (un k) (B + 1) (pv k (c :: l)).1 (pv k (c :: l)).2 := by
  obtain ⟨s, V, t, W, h1, h2, h3, h4⟩ := h
  obtain ⟨b, b1, b2⟩ := fl_bit k c
  obtain ⟨r, S, A, r1, r2, r3⟩ := sumB h1 b1 h3 b2 (by omega)
  obtain ⟨i, S', A', i1, i2, i3⟩ := sumB h2 (fl_nought k) h4 (Nat.le_refl _) (by omega)
  have er : plR k (pv k l) c = r := by simp [plR, gd, r1]
  have ei : plI k (pv k l) = i := by simp [plI, gd, i1]
  have h := divK (D := B + 1) r2 i2 r3 i3 (by omega) (by omega)
  have ep : pv k (c :: l) = (divR k (plR k (pv k l) c) (plI k (pv k l)), divI k (plR k (pv k l) c) (plI k (pv k l))) := rfl
  rw [ep, er, ei]
  exact ⟨r1, i1, h.1, h.2⟩
theorem pv_pt (k : FloatKind) : ∀ l : List UInt8, l.length ≤ 999999 → Pt k.format (un k) l.length (pv k l).1 (pv k l).2
  | [], _ => ⟨_, _, _, _, fl_nought k, fl_nought k, by simp, by simp⟩
  | c :: l, h => by
    simp only [List.length_cons] at h
    exact (pv_step (by omega) (pv_pt k l (by omega))).2.2.2
/-- with the whole number added -/
def whR (k : FloatKind) (z : Nat × Nat) (x : Int) : Nat := gd (floatBits .add k z.1 (floatOfInt k x))
def whI (k : FloatKind) (z : Nat × Nat) (y : Int) : Nat := gd (floatBits .add k z.2 (floatOfInt k y))
theorem fl_int (k : FloatKind) {x : Int} (h : -1000000 ≤ x ∧ x ≤ 1000000) : ∃ s V, Fl k.format (floatOfInt k x) s V ∧ V ≤ 1000000 * 2 ^ un k := by
  refine ⟨_, _, fl_wholeK k (decide (x < 0)) (m := x.natAbs) (by omega), Nat.mul_le_mul_right _ (by omega)⟩
theorem wh_ops {k : FloatKind} {z : Nat × Nat} {x y : Int} (hz : Pt k.format (un k) 1000 z.1 z.2) (hx : -1000000 ≤ x ∧ x ≤ 1000000) (hy : -1000000 ≤ y ∧ y ≤ 1000000) :
    floatBits .add k z.1 (floatOfInt k x) = some (whR k z x) ∧ floatBits .add k z.2 (floatOfInt k y) = some (whI k z y) ∧ Pt k.format (un k) 1001000 (whR k z x) (whI k z y) := by
  obtain ⟨s, V, t, W, h1, h2, h3, h4⟩ := hz
  obtain ⟨_, _, x1, x2⟩ := fl_int k hx
  obtain ⟨_, _, y1, y2⟩ := fl_int k hy
  obtain ⟨r, S, A, r1, r2, r3⟩ := sumB h1 x1 h3 x2 (by omega)
  obtain ⟨i, S', A', i1, i2, i3⟩ := sumB h2 y1 h4 y2 (by omega)
  have er : whR k z x = r := by simp [whR, gd, r1]
  have ei : whI k z y = i := by simp [whI, gd, i1]
  rw [er, ei]
  exact ⟨r1, i1, _, _, _, _, r2, i2, r3, i3⟩
theorem Pt.mono {f : Format} {U B C x y : Nat} (h : Pt f U B x y) (hB : B ≤ C) : Pt f U C x y := by
  obtain ⟨s, V, t, W, h1, h2, h3, h4⟩ := h
  exact ⟨s, V, t, W, h1, h2, Nat.le_trans h3 (Nat.mul_le_mul_right _ hB), Nat.le_trans h4 (Nat.mul_le_mul_right _ hB)⟩
/-- a whole number's word in the narrower width comes of its word in the wider one -/
theorem int_down {x : Int} (h : -1000000 ≤ x ∧ x ≤ 1000000) : floatToFloatBits .f64 (floatOfInt .f64 x) .f32 = some (floatOfInt .f32 x) :=
  whole_down wd (by decide) (decide (x < 0)) (m := x.natAbs) (by omega)
/-- a single point in the wider width -/
theorem pt_up {B x y : Nat} (h : Pt single (un .f32) B x y) (hB : B ≤ 2000000) : ∃ X Y, floatToFloatBits .f32 x .f64 = some X ∧ floatToFloatBits .f32 y .f64 = some Y := by
  obtain ⟨s, V, t, W, h1, h2, h3, h4⟩ := h
  exact ⟨_, _, (conv_up wd h1 (up_le h3 hB)).1, (conv_up wd h2 (up_le h4 hB)).1⟩
end Go.Proofs.YtmdnfamjdogogaaDoor

/- Chapter 7: words of floats that are no NaN, their sums, and checksums. Plain mathematics; no law is stated here. -/
import Derived.Test.YtmdnfamjdogogaaDoorCm
import Derived.Laws.BitsAllLaws
namespace Go.Proofs.YtmdnfamjdogogaaDoor
set_option linter.unusedSimpArgs false
set_option linter.unusedVariables false
open Go.RowKit Ieee

/-- a word of a float32 that is no NaN -/
def Nn (x : Nat) : Prop := x < 4294967296 ∧ (single.read x).isNaN = false
theorem sW : single.signWeight = 2147483648 := by decide
theorem iR : single.infRung = 2139095040 := by decide
theorem bN : single.binade = 8388608 := by decide
theorem nn_word (s : Bool) {r : Nat} (h : r ≤ single.infRung) : Nn (single.word s r) := by
  rw [iR] at h
  have hm : single.word s r % 2147483648 = r := by
    unfold Format.word; rw [sW]; cases s <;> simp <;> omega
  refine ⟨by unfold Format.word; rw [sW]; cases s <;> simp <;> omega, ?_⟩
  unfold Format.read
  simp only [sW, iR, bN, hm]
  split
  · rfl
  · split
    · rfl
    · rw [if_pos (by omega)]; rfl
theorem nn_nearest (s : Bool) (m : Nat) (p : Int) : Nn (single.nearest s m p) := by
  unfold Format.nearest
  split
  · exact nn_word s (Nat.zero_le _)
  · exact nn_word s (Nat.min_le_right _ _)
theorem nn_write {d : Datum} (h : d.isNaN = false) : Nn (single.write d) := by
  cases d with
  | number s m p => exact nn_nearest s m p
  | infinity s => exact nn_word s (Nat.le_refl _)
  | nan s t => cases h
theorem sum_some {d e : Datum} (h : d.isNaN = false) (he : ∃ s m p, e = .number s m p) : ∃ r, d.sum e = some r ∧ r.isNaN = false := by
  obtain ⟨s, m, p, rfl⟩ := he
  cases d with
  | number t n q => exact ⟨_, rfl, rfl⟩
  | infinity t => exact ⟨_, rfl, rfl⟩
  | nan t u => cases h
def fA (x y : Nat) : Nat := (floatBits .add .f32 x y).getD 0
theorem num_read {a : Int} (h : a.natAbs ≤ 2000000) : ∃ s m p, single.read (floatOfInt .f32 a) = .number s m p := by
  obtain ⟨m, k, e, -, -⟩ := fl_sw .f32 (decide (a < 0)) h
  exact ⟨_, _, _, e⟩
theorem nn_num {a : Int} : Nn (floatOfInt .f32 a) := nn_nearest _ _ _
theorem fA_nn {x : Nat} {a : Int} (hx : Nn x) (h : a.natAbs ≤ 2000000) : floatBits .add .f32 x (floatOfInt .f32 a) = some (fA x (floatOfInt .f32 a)) ∧ Nn (fA x (floatOfInt .f32 a)) := by
  obtain ⟨r, hr, hn⟩ := sum_some hx.2 (num_read h)
  have e : floatBits .add .f32 x (floatOfInt .f32 a) = some (single.write r) := by
    show ((single.read x).sum (single.read (floatOfInt .f32 a))).map single.write = _
    rw [hr]; rfl
  have e2 : fA x (floatOfInt .f32 a) = single.write r := by unfold fA; rw [e]; rfl
  rw [e2]
  exact ⟨e, nn_write hn⟩
/-- two words of numbers that are equal -/
def eqw (x y : Nat) : Bool := FloatKind.f32.format.order x y == some .eq
theorem ord_self {d : Datum} (h : d.isNaN = false) : d.order d = some .eq := by
  cases d with
  | number s m p => unfold Datum.order; simp only; rw [Int.compare_eq_eq.2 rfl]
  | infinity s => unfold Datum.order; simp only; rw [Nat.compare_eq_eq.2 rfl]
  | nan s t => cases h
theorem eqw_self {x : Nat} (h : Nn x) : eqw x x = true := by
  unfold eqw
  rw [show FloatKind.f32.format.order x x = some .eq from ord_self h.2]; rfl
theorem eqw_nan {x : Nat} (h : (single.read x).isNaN = true) (y : Nat) : eqw x y = false := by
  unfold eqw
  show ((single.read x).order (single.read y) == some .eq) = false
  cases hd : single.read x with
  | number s m p => rw [hd] at h; cases h
  | infinity s => rw [hd] at h; cases h
  | nan s t => rfl
theorem cmpI_comm (a b : Int) : (compare a b == Ordering.eq) = (compare b a == Ordering.eq) := by rw [cmp_sg, cmp_sg]; exact decide_eq_decide.2 ⟨Eq.symm, Eq.symm⟩
theorem ord_comm (d e : Datum) : (d.order e == some .eq) = (e.order d == some .eq) := by
  cases d with
  | number s m p => cases e with
    | number t n q =>
      unfold Datum.order
      have h := cmpI_comm (signed s m (p - min p q).toNat) (signed t n (q - min p q).toNat)
      show (some (compare _ _) == some Ordering.eq) = (some (compare _ _) == some Ordering.eq)
      rw [Int.min_comm q p]
      exact h
    | infinity t => cases t <;> rfl
    | nan t u => rfl
  | infinity s => cases e with
    | number t n q => cases s <;> rfl
    | infinity t => cases s <;> cases t <;> rfl
    | nan t u => rfl
  | nan s t => cases e <;> rfl
theorem eqw_comm (x y : Nat) : eqw x y = eqw y x := ord_comm _ _

/-! ### words of complex64 -/
abbrev encW (p : Nat × Nat) : Value := .complex .f32 p.1 p.2
def Nn2 (p : Nat × Nat) : Prop := Nn p.1 ∧ Nn p.2
def W32 (p : Nat × Nat) : Prop := p.1 < 4294967296 ∧ p.2 < 4294967296
theorem Nn2.w {p : Nat × Nat} (h : Nn2 p) : W32 p := ⟨h.1.1, h.2.1⟩
def aW (s : Nat × Nat) (z : Int × Int) : Nat × Nat := (fA s.1 (px z), fA s.2 (py z))
theorem aW_nn {s : Nat × Nat} {z : Int × Int} (hs : Nn2 s) (hz : Sm z) : Nn2 (aW s z) := ⟨(fA_nn hs.1 (by have := hz.1; omega)).2, (fA_nn hs.2 (by have := hz.2; omega)).2⟩
def eqW (p q : Nat × Nat) : Bool := eqw p.1 q.1 && eqw p.2 q.2
theorem eqW_self {p : Nat × Nat} (h : Nn2 p) : eqW p p = true := by unfold eqW; rw [eqw_self h.1, eqw_self h.2]; rfl
theorem eqW_comm (p q : Nat × Nat) : eqW p q = eqW q p := by unfold eqW; rw [eqw_comm p.1, eqw_comm p.2]
theorem nn_of_eq {p : Nat × Nat} (h : W32 p) (he : eqW p p = true) : Nn2 p := by
  unfold eqW at he
  rw [Bool.and_eq_true] at he
  refine ⟨⟨h.1, ?_⟩, h.2, ?_⟩
  · cases hn : (single.read p.1).isNaN
    · rfl
    · rw [eqw_nan hn] at he; exact absurd he.1 (by simp)
  · cases hn : (single.read p.2).isNaN
    · rfl
    · rw [eqw_nan hn] at he; exact absurd he.2 (by simp)
section
variable {P : Program} (w : World)
theorem run_wadd (t : TypeId) {s : Nat × Nat} {z : Int × Int} (hs : Nn2 s) (hz : Sm z) : (binOp .add t (encW s) (encP z)).run P w = .ok (encW (aW s z)) w :=
  run_complex_sum w .add (.inl rfl) t .f32 _ _ _ _ _ _ (by simp [cSumBits, px, py, (fA_nn hs.1 (a := z.1) (by have := hz.1; omega)).1, (fA_nn hs.2 (a := z.2) (by have := hz.2; omega)).1, aW])
theorem run_weq (t : TypeId) (p q : Nat × Nat) : (binOp .eql t (encW p) (encW q)).run P w = .ok (.bool (eqW p q)) w := by
  simp [binOp, Op.complexOp, Op.Complex.cmp, Op.floatCmp, asBool, eqW, eqw]
theorem run_wne (t : TypeId) (p q : Nat × Nat) : (binOp .neq t (encW p) (encW q)).run P w = .ok (.bool (!eqW p q)) w := by
  simp [binOp, Op.complexOp, Op.Complex.cmp, Op.floatCmp, asBool, eqW, eqw]
end

/-! ### checksums -/
def smN (h x : Nat) : Nat := (h ^^^ x) * 16777619 % 4294967296
theorem smN_lt (h x : Nat) : smN h x < 4294967296 := Nat.mod_lt _ (by decide)
theorem sm_wrap {h x : Nat} (hh : h < 4294967296) (hx : x < 4294967296) : IntKind.u32.wrap (bits .xor .u32 (h : Int) (x : Int) * 16777619) = ((smN h x : Nat) : Int) := by
  rw [u32_xor_nat h x hh hx]
  unfold smN
  show ((h ^^^ x : Nat) : Int) * 16777619 % ((2 ^ 32 : Nat) : Int) = _
  omega
def smP (h : Nat) (p : Nat × Nat) : Nat := smN (smN h p.1) p.2
def sumN (L : List (Nat × Nat)) : Nat := L.foldl smP 2166136261
theorem sumN_nil : sumN [] = 2166136261 := rfl
theorem sumN_snoc (L : List (Nat × Nat)) (p : Nat × Nat) : sumN (L ++ [p]) = smP (sumN L) p := by unfold sumN; rw [List.foldl_append, List.foldl_cons, List.foldl_nil]
theorem sumN_lt (L : List (Nat × Nat)) : sumN L < 4294967296 := by
  rcases List.eq_nil_or_concat L with rfl | ⟨l, p, rfl⟩
  · decide
  · rw [List.concat_eq_append, sumN_snoc]; exact smN_lt _ _
theorem sm_back {h x : Nat} (hh : h < 4294967296) (hx : x < 4294967296) : smN h x * 899433627 % 4294967296 = h ^^^ x := by
  have hl : h ^^^ x < 2 ^ 32 := Nat.xor_lt_two_pow (by omega) (by omega)
  unfold smN
  generalize h ^^^ x = g at *
  omega
theorem xor_right {a b x : Nat} (h : a ^^^ x = b ^^^ x) : a = b := by
  have := congrArg (· ^^^ x) h
  simpa [Nat.xor_assoc] using this
theorem sm_inj {a b x : Nat} (ha : a < 4294967296) (hb : b < 4294967296) (hx : x < 4294967296) (h : smN a x = smN b x) : a = b := by
  have this : smN a x * 899433627 % 4294967296 = smN b x * 899433627 % 4294967296 := by rw [h]
  rw [sm_back ha hx, sm_back hb hx] at this
  exact xor_right this
/-- a checksum sees a 1 in place of a 0 -/
theorem sum_sees (L : List (Nat × Nat)) : sumN (L ++ [(0, 0)]) ≠ sumN (L ++ [(1065353216, 0)]) := by
  rw [sumN_snoc, sumN_snoc]
  intro h
  unfold smP at h
  have h1 := sm_inj (smN_lt _ _) (smN_lt _ _) (by decide) h
  have h2 : smN (sumN L) 0 * 899433627 % 4294967296 = smN (sumN L) 1065353216 * 899433627 % 4294967296 := by rw [h1]
  rw [sm_back (sumN_lt L) (by decide), sm_back (sumN_lt L) (by decide)] at h2
  have := congrArg (sumN L ^^^ ·) h2
  simp [← Nat.xor_assoc] at this
end Go.Proofs.YtmdnfamjdogogaaDoor

/- Chapter 5's curves: steps, points and their words. Plain mathematics; no law is stated here. -/
import Derived.Test.YtmdnfamjdogogaaDoorCw
import Derived.Test.YtmdnfamjdogogaaDoorWm
namespace Go.Proofs.YtmdnfamjdogogaaDoor
set_option linter.unusedSimpArgs false
set_option linter.unusedVariables false
open Ieee

/-- a step turned at a letter -/
def trn (c : UInt8) (z : Int × Int) : Int × Int := if c = 108 then (-z.2, z.1) else (z.2, -z.1)
def addP (a b : Int × Int) : Int × Int := (a.1 + b.1, a.2 + b.2)
def subP (a b : Int × Int) : Int × Int := (a.1 - b.1, a.2 - b.2)
/-- the step and the point behind the letters -/
def stPt (l : List UInt8) : (Int × Int) × (Int × Int) := l.foldl (fun q c => (trn c q.1, addP q.2 (trn c q.1))) ((1, 0), (1, 0))
def stP (l : List UInt8) : Int × Int := (stPt l).1
def psP (l : List UInt8) : Int × Int := (stPt l).2
theorem stP_nil : stP [] = (1, 0) := rfl
theorem psP_nil : psP [] = (1, 0) := rfl
theorem stP_snoc (l : List UInt8) (c : UInt8) : stP (l ++ [c]) = trn c (stP l) := by unfold stP stPt; rw [List.foldl_append]; rfl
theorem psP_snoc (l : List UInt8) (c : UInt8) : psP (l ++ [c]) = addP (psP l) (trn c (stP l)) := by unfold psP stP stPt; rw [List.foldl_append]; rfl
/-- the points of the curve of a word -/
def crvL (l : List UInt8) : List (Int × Int) := (0, 0) :: (List.range (l.length + 1)).map fun k => psP (l.take k)
theorem crvL_len (l : List UInt8) : (crvL l).length = l.length + 2 := by simp [crvL]
theorem crvL_zero (l : List UInt8) : (crvL l)[0]? = some (0, 0) := rfl
theorem crvL_succ {l : List UInt8} {k : Nat} (h : k ≤ l.length) : (crvL l)[k + 1]? = some (psP (l.take k)) := by
  unfold crvL
  rw [List.getElem?_cons_succ, List.getElem?_map, List.getElem?_range (by omega)]; rfl
theorem crvL_take {l : List UInt8} {k : Nat} (h : k ≤ l.length) : (crvL l).take (k + 2) = (crvL l).take (k + 1) ++ [psP (l.take k)] := by
  rw [List.take_add_one, crvL_succ h]; rfl
theorem crvL_one (l : List UInt8) : (crvL l).take 1 = [(0, 0)] := rfl
theorem crvL_all (l : List UInt8) : (crvL l).take (l.length + 2) = crvL l := List.take_of_length_le (by rw [crvL_len]; omega)
theorem stP_unit (l : List UInt8) : (stP l).1.natAbs ≤ 1 ∧ (stP l).2.natAbs ≤ 1 := by
  induction l using rev_ind with
  | h0 => decide
  | h1 l c ih =>
    rw [stP_snoc]
    unfold trn
    split <;> simp <;> omega
theorem psP_in (l : List UInt8) : (psP l).1.natAbs ≤ l.length + 1 ∧ (psP l).2.natAbs ≤ l.length + 1 := by
  induction l using rev_ind with
  | h0 => decide
  | h1 l c ih =>
    have h := stP_unit (l ++ [c])
    rw [stP_snoc] at h
    rw [psP_snoc, List.length_append, List.length_singleton]
    unfold addP
    dsimp only
    omega
theorem crvL_in (l : List UInt8) : ∀ z ∈ crvL l, z.1.natAbs ≤ l.length + 1 ∧ z.2.natAbs ≤ l.length + 1 := by
  intro z hz
  rcases List.mem_cons.1 hz with rfl | hz
  · simp
  · obtain ⟨k, hk, rfl⟩ := List.mem_map.1 hz
    have h := psP_in (l.take k)
    have : (l.take k).length ≤ l.length := by rw [List.length_take]; omega
    omega

/-! ### numbers with a sign -/
abbrev SZ := (Bool × Nat) × (Bool × Nat)
def val (q : SZ) : Int × Int := (sg q.1.1 q.1.2, sg q.2.1 q.2.2)
theorem val_sum (s : Bool) (m : Nat) (t : Bool) (n : Nat) : sg (sgS s m t n) (sgN s m t n) = sg s m + sg t n := by
  unfold sgS sgN
  generalize sg s m + sg t n = T
  split
  · rename_i h; rw [h]; exact sg0 _
  · exact own_sg T
/-- times i, or times -i -/
def mulq (r : Bool) (q : SZ) : SZ :=
  ((sgS (q.1.1 ^^ false) (q.1.2 * 0) (!(q.2.1 ^^ r)) (q.2.2 * 1), sgN (q.1.1 ^^ false) (q.1.2 * 0) (!(q.2.1 ^^ r)) (q.2.2 * 1)),
   (sgS (q.1.1 ^^ r) (q.1.2 * 1) (q.2.1 ^^ false) (q.2.2 * 0), sgN (q.1.1 ^^ r) (q.1.2 * 1) (q.2.1 ^^ false) (q.2.2 * 0)))
theorem val_mulq (r : Bool) (q : SZ) : val (mulq r q) = if r then ((val q).2, -(val q).1) else (-(val q).2, (val q).1) := by
  obtain ⟨⟨s, m⟩, t, n⟩ := q
  unfold mulq val
  simp only [val_sum, Nat.mul_zero, Nat.mul_one, sg0, Int.zero_add, Int.add_zero]
  cases r <;> cases s <;> cases t <;> simp [sg]
theorem mulq_in (r : Bool) {q : SZ} (h : q.1.2 ≤ 1 ∧ q.2.2 ≤ 1) : (mulq r q).1.2 ≤ 1 ∧ (mulq r q).2.2 ≤ 1 := by
  have h1 := sgN_le (q.1.1 ^^ false) (q.1.2 * 0) (!(q.2.1 ^^ r)) (q.2.2 * 1)
  have h2 := sgN_le (q.1.1 ^^ r) (q.1.2 * 1) (q.2.1 ^^ false) (q.2.2 * 0)
  unfold mulq
  dsimp only
  omega
def rgt (c : UInt8) : Bool := c != 108
def stZ (l : List UInt8) : SZ := l.foldl (fun q c => mulq (rgt c) q) ((false, 1), (false, 0))
theorem stZ_nil : stZ [] = ((false, 1), (false, 0)) := rfl
theorem stZ_snoc (l : List UInt8) (c : UInt8) : stZ (l ++ [c]) = mulq (rgt c) (stZ l) := by unfold stZ; rw [List.foldl_append]; rfl
theorem stZ_in (l : List UInt8) : (stZ l).1.2 ≤ 1 ∧ (stZ l).2.2 ≤ 1 := by
  induction l using rev_ind with
  | h0 => decide
  | h1 l c ih => rw [stZ_snoc]; exact mulq_in _ ih
theorem stZ_val (l : List UInt8) : val (stZ l) = stP l := by
  induction l using rev_ind with
  | h0 => rfl
  | h1 l c ih =>
    rw [stZ_snoc, val_mulq, stP_snoc, ih]
    unfold trn rgt
    by_cases h : c = 108
    · simp [h]
    · simp [h]

/-! ### their words -/
def xr (q : SZ) : Nat := sw .f32 q.1.1 q.1.2
def xi (q : SZ) : Nat := sw .f32 q.2.1 q.2.2
def px (z : Int × Int) : Nat := floatOfInt .f32 z.1
def py (z : Int × Int) : Nat := floatOfInt .f32 z.2
abbrev encZ (q : SZ) : Value := .complex .f32 (xr q) (xi q)
abbrev encP (z : Int × Int) : Value := .complex .f32 (px z) (py z)
theorem w0 (k : FloatKind) : floatOfInt k 0 = 0 := by cases k <;> decide +kernel
theorem w0s : floatOfInt .f32 0 = 0 := by decide +kernel
theorem w1s : floatOfInt .f32 1 = 1065353216 := by decide +kernel
theorem wm1s : floatOfInt .f32 (-1) = 3212836864 := by decide +kernel
theorem enc00 : encP (0, 0) = .complex .f32 0 0 := by unfold encP px py; rw [w0s]
theorem enc10 : encP (1, 0) = .complex .f32 1065353216 0 := by unfold encP px py; rw [w0s, w1s]
theorem encZ10 : encZ ((false, 1), (false, 0)) = .complex .f32 1065353216 0 := enc10
theorem z00 : (Value.complex .f32 0 0) = encP (0, 0) := enc00.symm
def Sm (z : Int × Int) : Prop := z.1.natAbs ≤ 1000000 ∧ z.2.natAbs ≤ 1000000
section
variable {P : Program} (w : World)
theorem run_left (t : TypeId) {q : SZ} (h : q.1.2 ≤ 1 ∧ q.2.2 ≤ 1) : (binOp .mul t (encZ q) (.complex .f32 0 1065353216)).run P w = .ok (encZ (mulq false q)) w := by
  have e := run_cmul32 (P := P) w t q.1.1 q.2.1 false false (a := q.1.2) (b := q.2.2) (c := 0) (d := 1) (by omega) (by omega) (by omega) (by omega)
  rw [show sw .f32 false 0 = 0 from w0s, show sw .f32 false 1 = 1065353216 from w1s] at e
  exact e
theorem run_right (t : TypeId) {q : SZ} (h : q.1.2 ≤ 1 ∧ q.2.2 ≤ 1) : (binOp .mul t (encZ q) (.complex .f32 0 3212836864)).run P w = .ok (encZ (mulq true q)) w := by
  have e := run_cmul32 (P := P) w t q.1.1 q.2.1 false true (a := q.1.2) (b := q.2.2) (c := 0) (d := 1) (by omega) (by omega) (by omega) (by omega)
  rw [show sw .f32 false 0 = 0 from w0s, show sw .f32 true 1 = 3212836864 from wm1s] at e
  exact e
theorem run_pstep (t : TypeId) {p : Int × Int} {q : SZ} (hp : Sm p) (h : q.1.2 ≤ 1 ∧ q.2.2 ≤ 1) : (binOp .add t (encP p) (encZ q)).run P w = .ok (encP (addP p (val q))) w :=
  run_caddS (P := P) w t q.1.1 q.2.1 (by have := hp.1; omega) (by have := hp.2; omega) (by omega) (by omega)
theorem run_padd (t : TypeId) {p q : Int × Int} (hp : Sm p) (hq : Sm q) : (binOp .add t (encP p) (encP q)).run P w = .ok (encP (addP p q)) w :=
  run_cadd (P := P) w t (by have := hp.1; omega) (by have := hp.2; omega) (by have := hq.1; omega) (by have := hq.2; omega)
theorem run_psub (t : TypeId) {p q : Int × Int} (hp : Sm p) (hq : Sm q) : (binOp .sub t (encP p) (encP q)).run P w = .ok (encP (subP p q)) w :=
  run_csub (P := P) w t (by have := hp.1; omega) (by have := hp.2; omega) (by have := hq.1; omega) (by have := hq.2; omega)
end
theorem neg_bits {a : Int} (h : a.natAbs ≤ 1000000) : floatBits .sub .f32 0 (floatOfInt .f32 a) = some (floatOfInt .f32 (-a)) := by
  have := ff_sub (k := .f32) (a := 0) (b := a) (by decide) (by omega)
  rw [w0s, Int.zero_sub] at this
  exact this
end Go.Proofs.YtmdnfamjdogogaaDoor

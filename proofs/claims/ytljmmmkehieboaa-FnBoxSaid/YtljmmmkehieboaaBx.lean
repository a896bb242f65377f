/- Chapter 5: CurveBox, of both sides. No law is stated here. -/
import Derived.Test.YtljmmmkehieboaaTw
namespace Go.Proofs.Ytljmmmkehieboaa
set_option linter.unusedSimpArgs false
set_option linter.unusedVariables false
open Go.RowKit Ieee

def loP (a b : Int × Int) : Int × Int := (min a.1 b.1, min a.2 b.2)
def hiP (a b : Int × Int) : Int × Int := (max a.1 b.1, max a.2 b.2)
/-- over the first points, from the first on -/
def loB (Z : List (Int × Int)) : Nat → Int × Int
  | 0 => zg Z 0
  | k + 1 => loP (loB Z k) (zg Z k)
def hiB (Z : List (Int × Int)) : Nat → Int × Int
  | 0 => zg Z 0
  | k + 1 => hiP (hiB Z k) (zg Z k)
theorem lo_one (Z : List (Int × Int)) : loB Z 1 = zg Z 0 := by
  show loP (zg Z 0) (zg Z 0) = _
  unfold loP; rw [Int.min_self, Int.min_self]
theorem hi_one (Z : List (Int × Int)) : hiB Z 1 = zg Z 0 := by
  show hiP (zg Z 0) (zg Z 0) = _
  unfold hiP; rw [Int.max_self, Int.max_self]
theorem lo_bp {B : Nat} {a b : Int × Int} (ha : Bp B a) (hb : Bp B b) : Bp B (loP a b) := by unfold Bp loP at *; dsimp only; omega
theorem hi_bp {B : Nat} {a b : Int × Int} (ha : Bp B a) (hb : Bp B b) : Bp B (hiP a b) := by unfold Bp hiP at *; dsimp only; omega
theorem loB_in {Z : List (Int × Int)} (h : ∀ z ∈ Z, Bp 400 z) (k : Nat) : Bp 400 (loB Z k) := by
  induction k with
  | zero => exact zg_in h 0
  | succ k ih => exact lo_bp ih (zg_in h k)
theorem hiB_in {Z : List (Int × Int)} (h : ∀ z ∈ Z, Bp 400 z) (k : Nat) : Bp 400 (hiB Z k) := by
  induction k with
  | zero => exact zg_in h 0
  | succ k ih => exact hi_bp ih (zg_in h k)
section
variable {P : Program} (w : World)
theorem run_fmin {a b : Int} (ha : a.natAbs ≤ 2000000) (hb : b.natAbs ≤ 2000000) : (Builtin.min2 (.float .f32 (floatOfInt .f32 a)) (.float .f32 (floatOfInt .f32 b))).run P w = .ok (.float .f32 (floatOfInt .f32 (min a b))) w := by
  have h := ff_order (k := .f32) ha hb
  unfold Builtin.min2
  rcases Int.lt_trichotomy a b with c | c | c
  · rw [Int.compare_eq_lt.2 c] at h
    simp [h, Int.min_eq_left (Int.le_of_lt c)]
  · subst c
    rw [Int.compare_eq_eq.2 rfl] at h
    simp [h]
  · rw [Int.compare_eq_gt.2 c] at h
    simp [h, Int.min_eq_right (Int.le_of_lt c)]
theorem run_fmax {a b : Int} (ha : a.natAbs ≤ 2000000) (hb : b.natAbs ≤ 2000000) : (Builtin.max2 (.float .f32 (floatOfInt .f32 a)) (.float .f32 (floatOfInt .f32 b))).run P w = .ok (.float .f32 (floatOfInt .f32 (max a b))) w := by
  have h := ff_order (k := .f32) ha hb
  unfold Builtin.max2
  rcases Int.lt_trichotomy a b with c | c | c
  · rw [Int.compare_eq_lt.2 c] at h
    simp [h, Int.max_eq_right (Int.le_of_lt c)]
  · subst c
    rw [Int.compare_eq_eq.2 rfl] at h
    simp [h]
  · rw [Int.compare_eq_gt.2 c] at h
    simp [h, Int.max_eq_left (Int.le_of_lt c)]
theorem run_pmin {a b : Int} (ts : Array TypeId) (t : TypeId) (ha : a.natAbs ≤ 2000000) (hb : b.natAbs ≤ 2000000) : (Builtin.min_ ts t #[.float .f32 (floatOfInt .f32 a), .float .f32 (floatOfInt .f32 b)]).run P w = .ok (.float .f32 (floatOfInt .f32 (min a b))) w := by
  have h := run_fmin (P := P) w ha hb
  simp [Builtin.min_, h]
theorem run_pmax {a b : Int} (ts : Array TypeId) (t : TypeId) (ha : a.natAbs ≤ 2000000) (hb : b.natAbs ≤ 2000000) : (Builtin.max_ ts t #[.float .f32 (floatOfInt .f32 a), .float .f32 (floatOfInt .f32 b)]).run P w = .ok (.float .f32 (floatOfInt .f32 (max a b))) w := by
  have h := run_fmax (P := P) w ha hb
  simp [Builtin.max_, h]
end
noncomputable def bxL (L : List SZ) : Int × Int := if pathZ L = true then loB (L.map val) L.length else (0, 0)
noncomputable def bxH (L : List SZ) : Int × Int := if pathZ L = true then hiB (L.map val) L.length else (0, 0)
noncomputable abbrev bxV (L : List SZ) : Value := .tuple #[encP (bxL L), encP (bxH L), .bool (pathZ L)]
theorem bxV_t {L : List SZ} (h : pathZ L = true) : bxV L = .tuple #[encP (loB (L.map val) L.length), encP (hiB (L.map val) L.length), .bool true] := by unfold bxV bxL bxH; rw [if_pos h, if_pos h, h]
theorem bxV_f {L : List SZ} (h : pathZ L = false) : bxV L = .tuple #[.complex .f32 0 0, .complex .f32 0 0, .bool false] := by
  unfold bxV bxL bxH; rw [h]
  exact congrArg (fun x => Value.tuple #[x, x, .bool false]) enc00
def BxRel (Z : List (Int × Int)) (w : World) (k0 m : Nat) (x y i : Value) (wr : World) : Prop :=
  ∃ k : Nat, k0 ≤ k ∧ k + m = Z.length ∧ i = .int .i64 k ∧ x = encP (loB Z k) ∧ y = encP (hiB Z k) ∧ wr = w
/-- the box of the first points: they are within, and its sides are short -/
theorem box_in (Z : List (Int × Int)) : ∀ k j, j < k → (loB Z k).1 ≤ (zg Z j).1 ∧ (zg Z j).1 ≤ (hiB Z k).1 ∧ (loB Z k).2 ≤ (zg Z j).2 ∧ (zg Z j).2 ≤ (hiB Z k).2 := by
  intro k
  induction k with
  | zero => intro j hj; omega
  | succ k ih =>
    intro j hj
    have e1 : loB Z (k + 1) = loP (loB Z k) (zg Z k) := rfl
    have e2 : hiB Z (k + 1) = hiP (hiB Z k) (zg Z k) := rfl
    rw [e1, e2]
    unfold loP hiP
    dsimp only
    rcases Nat.lt_or_eq_of_le (Nat.lt_succ_iff.1 hj) with h | h
    · have := ih j h; omega
    · subst h; omega
theorem box_short {Z : List (Int × Int)} (h : PathP Z) : ∀ k, 1 ≤ k → k ≤ Z.length → ((hiB Z k).1 - (loB Z k).1) + ((hiB Z k).2 - (loB Z k).2) < k := by
  intro k
  induction k with
  | zero => intro h; omega
  | succ k ih =>
    intro _ hk
    by_cases h0 : k = 0
    · subst h0; rw [lo_one, hi_one]; omega
    · have h1 := ih (by omega) (by omega)
      obtain ⟨j, rfl⟩ : ∃ j, k = j + 1 := ⟨k - 1, by omega⟩
      have hin := box_in Z (j + 1) j (by omega)
      have hst := stp_unit h (k := j) (by omega)
      have e1 : loB Z (j + 1 + 1) = loP (loB Z (j + 1)) (zg Z (j + 1)) := rfl
      have e2 : hiB Z (j + 1 + 1) = hiP (hiB Z (j + 1)) (zg Z (j + 1)) := rfl
      rw [e1, e2]
      have hd : stpZ Z j = subP (zg Z (j + 1)) (zg Z j) := rfl
      rw [hd] at hst
      unfold loP hiP
      dsimp only
      rcases unit_cases.1 hst with e | e | e | e <;> (unfold subP at e; simp only [Prod.mk.injEq] at e; omega)
end Go.Proofs.Ytljmmmkehieboaa

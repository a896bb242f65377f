/- Chapter 5: CurveTwice, of both sides. No law is stated here. -/
import Derived.Test.YtljmmmkehieboaaDoorPm
import Derived.Test.YtljmmmkehieboaaDoorCwi
namespace Go.Proofs.YtljmmmkehieboaaDoor
set_option linter.unusedSimpArgs false
set_option linter.unusedVariables false
open Go.RowKit Ieee

def crs (a b : Int × Int) : Int := a.1 * b.2 - a.2 * b.1
def zg (Z : List (Int × Int)) (k : Nat) : Int × Int := Z[k]?.getD (0, 0)
theorem zg_get {Z : List (Int × Int)} {k : Nat} (h : k < Z.length) : zg Z k = Z[k] := by unfold zg; rw [List.getElem?_eq_getElem h]; rfl
/-- the sum over the first edges -/
def opn (Z : List (Int × Int)) : Nat → Int
  | 0 => 0
  | k + 1 => opn Z k + crs (zg Z k) (zg Z (k + 1))
def ttl (Z : List (Int × Int)) : Int := opn Z (Z.length - 1) + crs (zg Z (Z.length - 1)) (zg Z 0)
theorem crs_in {a b : Int × Int} (ha : Bp 400 a) (hb : Bp 400 b) : (a.1 * b.2).natAbs ≤ 160000 ∧ (a.2 * b.1).natAbs ≤ 160000 := by
  rw [Int.natAbs_mul, Int.natAbs_mul]
  exact ⟨Nat.mul_le_mul ha.1 hb.2, Nat.mul_le_mul ha.2 hb.1⟩
theorem zg_in {Z : List (Int × Int)} (h : ∀ z ∈ Z, Bp 400 z) (k : Nat) : Bp 400 (zg Z k) := by
  by_cases hk : k < Z.length
  · rw [zg_get hk]; exact h _ (List.getElem_mem hk)
  · unfold zg; rw [List.getElem?_eq_none (by omega)]; unfold Bp; decide
theorem opn_in {Z : List (Int × Int)} (h : ∀ z ∈ Z, Bp 400 z) (k : Nat) : (opn Z k).natAbs ≤ 320000 * k := by
  induction k with
  | zero => simp [opn]
  | succ k ih =>
    have h1 := crs_in (zg_in h k) (zg_in h (k + 1))
    unfold opn crs
    omega
theorem crs_neg (a b : Int × Int) : crs b a = - crs a b := by
  unfold crs
  rw [Int.mul_comm b.1, Int.mul_comm b.2]; omega
theorem crs_mir (a b : Int × Int) : crs (mir a) (mir b) = - crs a b := by
  unfold crs mir
  dsimp only
  rw [Int.mul_neg, Int.neg_mul]; omega
theorem opn_mir (Z : List (Int × Int)) : ∀ k, k < Z.length ∨ k = 0 → opn (Z.map mir) k = - opn Z k := by
  intro k
  induction k with
  | zero => intro _; rfl
  | succ k ih =>
    intro hk
    have e : ∀ j, j < Z.length → zg (Z.map mir) j = mir (zg Z j) := fun j hj => by
      unfold zg; rw [List.getElem?_map, List.getElem?_eq_getElem hj]; rfl
    unfold opn
    rw [ih (by omega), e k (by omega), e (k + 1) (by omega), crs_mir]; omega
theorem ttl_mir {Z : List (Int × Int)} (h : 1 ≤ Z.length) : ttl (Z.map mir) = - ttl Z := by
  have e : ∀ j, j < Z.length → zg (Z.map mir) j = mir (zg Z j) := fun j hj => by
    unfold zg; rw [List.getElem?_map, List.getElem?_eq_getElem hj]; rfl
  unfold ttl
  rw [List.length_map, opn_mir Z _ (by omega), e _ (by omega), e 0 (by omega), crs_mir]; omega
theorem zg_rev {Z : List (Int × Int)} {j : Nat} (h : j < Z.length) : zg Z.reverse j = zg Z (Z.length - 1 - j) := by
  unfold zg; rw [List.getElem?_reverse h]
theorem opn_rev (Z : List (Int × Int)) : ∀ k, k + 1 ≤ Z.length → opn Z.reverse k = opn Z (Z.length - 1 - k) - opn Z (Z.length - 1) := by
  intro k
  induction k with
  | zero => intro _; unfold opn; simp
  | succ k ih =>
    intro hk
    have e1 : opn Z (Z.length - 1 - k) = opn Z (Z.length - 1 - (k + 1)) + crs (zg Z (Z.length - 1 - (k + 1))) (zg Z (Z.length - 1 - k)) := by
      have : Z.length - 1 - k = (Z.length - 1 - (k + 1)) + 1 := by omega
      rw [this]; rfl
    have e2 : opn Z.reverse (k + 1) = opn Z.reverse k + crs (zg Z.reverse k) (zg Z.reverse (k + 1)) := rfl
    rw [e2, ih (by omega), zg_rev (by omega), zg_rev (by omega), e1, crs_neg (zg Z (Z.length - 1 - (k + 1)))]
    omega
theorem ttl_rev {Z : List (Int × Int)} (h : 1 ≤ Z.length) : ttl Z.reverse = - ttl Z := by
  unfold ttl
  rw [List.length_reverse, opn_rev Z _ (by omega), zg_rev (by omega), zg_rev (by omega), show Z.length - 1 - (Z.length - 1) = 0 by omega, Nat.sub_zero, crs_neg (zg Z (Z.length - 1))]
  show 0 - _ + _ = _
  omega
theorem nbr_symm (a b : Int × Int) : nbr b a = nbr a b := by
  unfold nbr sqN subP
  dsimp only
  rw [show (a.1 - b.1) * (a.1 - b.1) = (b.1 - a.1) * (b.1 - a.1) by rw [show a.1 - b.1 = -(b.1 - a.1) by omega, Int.neg_mul_neg],
    show (a.2 - b.2) * (a.2 - b.2) = (b.2 - a.2) * (b.2 - a.2) by rw [show a.2 - b.2 = -(b.2 - a.2) by omega, Int.neg_mul_neg]]
theorem pathP_rev {Z : List (Int × Int)} (h : PathP Z) : PathP Z.reverse := by
  obtain ⟨h1, h2, h3⟩ := h
  refine ⟨by rw [List.length_reverse]; exact h1, by rw [List.length_reverse]; exact h2, fun j a b ha hb => ?_⟩
  have hj := (List.getElem?_eq_some_iff.1 hb).1
  rw [List.length_reverse] at hj
  rw [List.getElem?_reverse (by omega)] at ha hb
  rw [nbr_symm]
  refine h3 (Z.length - 1 - (j + 1)) b a hb ?_
  rw [show Z.length - 1 - (j + 1) + 1 = Z.length - 1 - j by omega]; exact ha
theorem rev_bp {Z : List (Int × Int)} {B : Nat} (h : ∀ z ∈ Z, Bp B z) : ∀ z ∈ Z.reverse, Bp B z := fun z hz => h z (by simpa using hz)
theorem toInt_fw {a : Int} (h : a.natAbs ≤ 1000000) : floatToIntVal .f32 (floatOfInt .f32 a) .i64 = some a := by
  have e := toInt_swv .f32 (decide (a < 0)) h
  rw [own_sg] at e
  exact e
theorem toInt_run {a : Int} (h : a.natAbs ≤ 1000000) (w : World) : (convert 40 3 (.float .f32 (floatOfInt .f32 a))).run Tryd.prog w = .ok (.int .i64 a) w :=
  run_convert_float_int (P := Tryd.prog) w 40 3 .f32 .i64 _ a (by rw [Tryd.underlying40]; rfl) Tryd.underlying3 (toInt_fw h)
end Go.Proofs.YtljmmmkehieboaaDoor

/- Chapter 5: CurveCorners, the model's side. No law is stated here. -/
import Derived.Test.YtljmmmkehieboaaDoorCr
import Derived.Test.YtljmmmkehieboaaDoorReg
namespace Go.Proofs.YtljmmmkehieboaaDoor
set_option linter.unusedSimpArgs false
set_option linter.unusedVariables false
open Go.RowKit Ieee

noncomputable def crN (L : List SZ) : Nat := if pathZ L = true then (visE (L.map val) L.length).length else 0
noncomputable def crM (L : List SZ) : Nat := if pathZ L = true then visM (L.map val) L.length else 0
noncomputable abbrev crV (L : List SZ) : Value := .tuple #[.int .i64 (crN L : Nat), .int .i64 (crM L : Nat), .bool (pathZ L)]
theorem crV_t {L : List SZ} (h : pathZ L = true) : crV L = .tuple #[.int .i64 ((visE (L.map val) L.length).length : Nat), .int .i64 (visM (L.map val) L.length : Nat), .bool true] := by unfold crV crN crM; rw [if_pos h, if_pos h, h]
theorem crV_f {L : List SZ} (h : pathZ L = false) : crV L = .tuple #[.int .i64 0, .int .i64 0, .bool false] := by
  unfold crV crN crM; rw [h]; rfl
/-- whether none of the first points that stands before i is the point at i -/
def fsB (Z : List (Int × Int)) (i : Nat) : Nat → Bool
  | 0 => true
  | k + 1 => if zg Z i = zg Z k then fsB Z i k && decide (i ≤ k) else fsB Z i k
theorem fsB_iff (Z : List (Int × Int)) (i : Nat) : ∀ k, fsB Z i k = true ↔ ∀ j, j < k → zg Z i = zg Z j → i ≤ j := by
  intro k
  induction k with
  | zero => exact ⟨fun _ j h => by omega, fun _ => rfl⟩
  | succ k ih =>
    rw [fsB]
    by_cases e : zg Z i = zg Z k
    · rw [if_pos e, Bool.and_eq_true, ih, decide_eq_true_eq]
      constructor
      · intro ⟨h1, h2⟩ j hj hz
        rcases Nat.lt_or_eq_of_le (Nat.lt_succ_iff.1 hj) with h | h
        · exact h1 j h hz
        · omega
      · intro h
        exact ⟨fun j hj hz => h j (by omega) hz, h k (by omega) e⟩
    · rw [if_neg e, ih]
      constructor
      · intro h1 j hj hz
        rcases Nat.lt_or_eq_of_le (Nat.lt_succ_iff.1 hj) with h | h
        · exact h1 j h hz
        · rw [h] at hz; exact absurd hz e
      · intro h j hj hz
        exact h j (by omega) hz
theorem fsB_mem {Z : List (Int × Int)} {i : Nat} (hi : i < Z.length) : fsB Z i Z.length = true ↔ ¬ zg Z i ∈ Z.take i := by
  rw [fsB_iff]
  constructor
  · intro h hm
    obtain ⟨j, hj, e⟩ := List.mem_iff_getElem.1 hm
    rw [List.length_take] at hj
    rw [List.getElem_take, ← zg_get (by omega)] at e
    have := h j (by omega) e.symm
    omega
  · intro h j hj e
    apply Classical.byContradiction
    intro hlt
    apply h
    rw [e, zg_get hj]
    exact List.mem_iff_getElem.2 ⟨j, by rw [List.length_take]; omega, by rw [List.getElem_take]⟩
theorem nwS_step {Z : List (Int × Int)} {i : Nat} (hi : i < Z.length) : nwS Z (i + 1) = if fsB Z i Z.length = true then nwS Z i + 1 else nwS Z i := by
  rw [nwS]
  by_cases h : zg Z i ∈ Z.take i
  · rw [if_pos h, if_neg (fun e => (fsB_mem hi).1 e h), Nat.add_zero]
  · rw [if_neg h, if_pos ((fsB_mem hi).2 h)]
theorem nwS_le (Z : List (Int × Int)) : ∀ k, nwS Z k ≤ k := by
  intro k
  induction k with
  | zero => exact Nat.le_refl _
  | succ k ih => rw [nwS]; split <;> omega
theorem numB_le (Z : List (Int × Int)) (z : Int × Int) : ∀ k, numB Z z k ≤ k := by
  intro k
  induction k with
  | zero => exact Nat.le_refl _
  | succ k ih => rw [numB]; split <;> omega
theorem mxS_le (Z : List (Int × Int)) : ∀ k, mxS Z k ≤ Z.length := by
  intro k
  rw [mxS_iff]
  intro j _
  exact numB_le _ _ _
def CoRel (Z : List (Int × Int)) (w : World) (m : Nat) (x y i : Value) (wr : World) : Prop :=
  ∃ k : Nat, k + m = Z.length ∧ i = .int .i64 k ∧ x = .int .i64 (nwS Z k : Nat) ∧ y = .int .i64 (mxS Z k : Nat) ∧ Below w.heap.size w wr
def CiRel (Z : List (Int × Int)) (w : World) (i m : Nat) (v f j : Value) (wr : World) : Prop :=
  ∃ k : Nat, k + m = Z.length ∧ j = .int .i64 k ∧ v = .int .i64 (numB Z (zg Z i) k : Nat) ∧ f = .bool (fsB Z i k) ∧ Below w.heap.size w wr
end Go.Proofs.YtljmmmkehieboaaDoor

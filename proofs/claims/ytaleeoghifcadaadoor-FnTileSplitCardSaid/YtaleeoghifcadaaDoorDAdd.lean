/- The adder of expansions: rows of a table, digits and carries step by step. Plain mathematics; no law is stated here. -/
import Derived.Test.YtaleeoghifcadaaDoorDNum
namespace Go.Proofs.YtaleeoghifcadaaDoor
set_option linter.unusedSimpArgs false
set_option linter.unusedVariables false

def rowX (r : Nat) : Int := [0, -1, 0, -1, 1, 0, 1, -1, 0, -1, 1, 0, -2, -2, 1].getD r 0
def rowY (r : Nat) : Int := [0, -1, 1, 0, 0, -1, 1, -2, 2, 1, -1, -2, -1, 0, 2].getD r 0
def rowN (r b : Nat) : Nat := ([[0, 0, 1], [2, 2, 3], [4, 5, 5], [6, 0, 0], [0, 1, 1], [2, 3, 3], [5, 5, 7], [8, 9, 9], [10, 10, 11], [4, 4, 5], [3, 3, 12], [9, 9, 13], [14, 2, 2], [6, 6, 0], [10, 11, 11]].getD r []).getD b 0
/-- the first digit of a row's three digits: 0 or 1; the second one is the other -/
def rowE (r : Nat) : Nat := [0, 0, 1, 1, 1, 1, 0, 1, 0, 0, 0, 0, 1, 0, 1].getD r 0
def rowD (r b : Nat) : UInt8 := if (rowE r + b) % 2 = 0 then 48 else 49
def rowS (r : Nat) : List UInt8 := [rowD r 0, rowD r 1, rowD r 2]
/-- how many zeros lead back to the row 0 -/
def rowH (r : Nat) : Nat := [0, 3, 2, 5, 1, 3, 4, 8, 7, 2, 6, 3, 8, 5, 7].getD r 0
theorem row_all : ∀ r : Fin 15, ∀ b : Fin 3, rowN r b < 15 ∧ lastD (rowX r + (b : Nat)) (rowY r) = dg (rowD r b) ∧ nX (rowX r + (b : Nat)) (rowY r) = rowX (rowN r b) ∧ nY (rowX r + (b : Nat)) (rowY r) = rowY (rowN r b) := by decide +kernel
theorem row_h : ∀ r : Fin 15, (r.val ≠ 0 → rowH (rowN r 0) + 1 = rowH r) ∧ (rowH r = 0 ↔ r.val = 0) ∧ rowH r ≤ 8 ∧ (rowX r = 0 ∧ rowY r = 0 ↔ r.val = 0) ∧ (-2 ≤ rowX r ∧ rowX r ≤ 2) ∧ (-2 ≤ rowY r ∧ rowY r ≤ 2) := by decide +kernel
theorem rowD_bit (r b : Nat) : bitC (rowD r b) = true := by unfold rowD; split <;> rfl
theorem row_step {r b : Nat} (hr : r < 15) (hb : b < 3) : rowN r b < 15 ∧ lastD (rowX r + (b : Nat)) (rowY r) = dg (rowD r b) ∧ nX (rowX r + (b : Nat)) (rowY r) = rowX (rowN r b) ∧ nY (rowX r + (b : Nat)) (rowY r) = rowY (rowN r b) := row_all ⟨r, hr⟩ ⟨b, hb⟩
theorem row_in {r : Nat} (hr : r < 15) : (-2 ≤ rowX r ∧ rowX r ≤ 2) ∧ (-2 ≤ rowY r ∧ rowY r ≤ 2) := (row_h ⟨r, hr⟩).2.2.2.2
theorem row_zero {r : Nat} (hr : r < 15) : rowX r = 0 ∧ rowY r = 0 ↔ r = 0 := (row_h ⟨r, hr⟩).2.2.2.1

/-- the digit of a text with an index from the right, or 0 -/
def dR (s : ByteArray) (k : Nat) : Nat := if h : k < s.size then (s[s.size - 1 - k]).toNat - 48 else 0
theorem dR_le {s : ByteArray} (h : vldB s = true) (k : Nat) : dR s k ≤ 1 := by
  unfold dR
  split
  · have := vldB_at h (s.size - 1 - k) (by omega); omega
  · omega
theorem dR_beyond {s : ByteArray} {k : Nat} (h : s.size ≤ k) : dR s k = 0 := by unfold dR; rw [dif_neg (by omega)]
def sm (a b : ByteArray) (k : Nat) : Nat := dR a k + dR b k
theorem sm_lt {a b : ByteArray} (ha : vldB a = true) (hb : vldB b = true) (k : Nat) : sm a b k < 3 := by
  have := dR_le ha k; have := dR_le hb k; unfold sm; omega
def wide (a b : ByteArray) : Nat := max a.size b.size
theorem sm_beyond {a b : ByteArray} {k : Nat} (h : wide a b ≤ k) : sm a b k = 0 := by
  unfold sm; rw [dR_beyond (by unfold wide at h; omega), dR_beyond (by unfold wide at h; omega)]

section
variable (a b : ByteArray)
def stA : Nat → Nat
  | 0 => 0
  | k + 1 => rowN (stA k) (sm a b k)
def outA : Nat → List UInt8
  | 0 => []
  | k + 1 => outA k ++ [rowD (stA a b k) (sm a b k)]
def carA : Nat → List (Int × Int)
  | 0 => []
  | k + 1 => carA k ++ [(rowX (stA a b (k + 1)), rowY (stA a b (k + 1)))]
def stepsA : Nat := wide a b + rowH (stA a b (wide a b))
end
variable {a b : ByteArray}
theorem outA_len (k : Nat) : (outA a b k).length = k := by
  induction k with
  | zero => rfl
  | succ k ih => simp [outA, ih]
theorem carA_len (k : Nat) : (carA a b k).length = k := by
  induction k with
  | zero => rfl
  | succ k ih => simp [carA, ih]
theorem outA_bits (k : Nat) : ∀ c ∈ outA a b k, bitC c = true := by
  induction k with
  | zero => intro c h; simp [outA] at h
  | succ k ih =>
    intro c h
    rcases List.mem_append.1 h with h | h
    · exact ih c h
    · rw [List.mem_singleton] at h; rw [h]; exact rowD_bit _ _
theorem stA_lt (ha : vldB a = true) (hb : vldB b = true) (k : Nat) : stA a b k < 15 := by
  induction k with
  | zero => show (0 : Nat) < 15; omega
  | succ k ih => exact (row_step ih (sm_lt ha hb k)).1
theorem stA_tail (ha : vldB a = true) (hb : vldB b = true) : ∀ j, j ≤ rowH (stA a b (wide a b)) → rowH (stA a b (wide a b + j)) + j = rowH (stA a b (wide a b))
  | 0, _ => rfl
  | j + 1, h => by
    have ih := stA_tail ha hb j (by omega)
    have hr := stA_lt ha hb (wide a b + j)
    have h2 := (row_h ⟨_, hr⟩).1
    have h3 := (row_h ⟨_, hr⟩).2.1
    simp only at h2 h3
    have hn : stA a b (wide a b + j) ≠ 0 := by intro e; have := h3.2 e; omega
    have h4 := h2 hn
    show rowH (rowN (stA a b (wide a b + j)) (sm a b (wide a b + j))) + (j + 1) = _
    rw [sm_beyond (by omega)]
    omega
/-- when the adding goes on -/
theorem goes_on (ha : vldB a = true) (hb : vldB b = true) {k : Nat} (hk : k ≤ stepsA a b) : (k < wide a b ∨ stA a b k ≠ 0) ↔ k < stepsA a b := by
  by_cases h : k < wide a b
  · exact ⟨fun _ => by unfold stepsA; omega, fun _ => Or.inl h⟩
  · obtain ⟨j, rfl⟩ : ∃ j, k = wide a b + j := ⟨k - wide a b, by omega⟩
    have ht := stA_tail ha hb j (by unfold stepsA at hk; omega)
    have h3 := (row_h ⟨_, stA_lt ha hb (wide a b + j)⟩).2.1
    simp only at h3
    unfold stepsA
    constructor
    · intro h1
      have h1 := h1.resolve_left h
      have : rowH (stA a b (wide a b + j)) ≠ 0 := fun e => h1 (h3.1 e)
      omega
    · intro h1
      right
      intro e
      have := h3.2 e
      omega
theorem steps_le (ha : vldB a = true) (hb : vldB b = true) : 1 ≤ stepsA a b ∧ stepsA a b ≤ 58 := by
  have h1 := vldB_len ha
  have h2 := vldB_len hb
  have h3 := (row_h ⟨_, stA_lt ha hb (wide a b)⟩).2.2.1
  simp only at h3
  unfold stepsA wide at *
  omega
theorem done_zero (ha : vldB a = true) (hb : vldB b = true) : stA a b (stepsA a b) = 0 ∧ wide a b ≤ stepsA a b := by
  have h : ¬ (stepsA a b < wide a b ∨ stA a b (stepsA a b) ≠ 0) := fun e => Nat.lt_irrefl _ ((goes_on ha hb (Nat.le_refl _)).1 e)
  have h1 : ¬ stepsA a b < wide a b := fun e => h (Or.inl e)
  exact ⟨by by_cases e : stA a b (stepsA a b) = 0; exact e; exact absurd (Or.inr e) h, by omega⟩
end Go.Proofs.YtaleeoghifcadaaDoor

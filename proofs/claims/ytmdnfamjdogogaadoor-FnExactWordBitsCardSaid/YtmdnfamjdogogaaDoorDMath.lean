/- Chapter 2's numbers: expansions as lists of bytes, last digits, the adder. Plain mathematics; no law is stated here. -/
import Derived.Test.YtmdnfamjdogogaaDoorRows
namespace Go.Proofs.YtmdnfamjdogogaaDoor
set_option linter.unusedSimpArgs false
set_option linter.unusedVariables false

/-- a byte list is an expansion -/
def vldL (l : List UInt8) : Bool := decide (1 ≤ l.length) && decide (l.length ≤ 50) && (l == [48] || !(l.head? == some 48)) && l.all fun c => c == 48 || c == 49
/-- the digit that a byte is -/
def dg (c : UInt8) : Int := (c.toNat : Int) - 48
def bitC (c : UInt8) : Bool := c == 48 || c == 49
theorem bitC_iff (c : UInt8) : bitC c = true ↔ c.toNat = 48 ∨ c.toNat = 49 := by
  unfold bitC
  rw [Bool.or_eq_true, beq_iff_eq, beq_iff_eq, ← UInt8.toNat_inj, ← UInt8.toNat_inj]
  rfl
theorem bitC_not {c : UInt8} (h : ¬ (c.toNat = 48 ∨ c.toNat = 49)) : bitC c = false := by
  rw [← Bool.not_eq_true, bitC_iff]; exact h
theorem dg_bit {c : UInt8} (h : bitC c = true) : 0 ≤ dg c ∧ dg c ≤ 1 := by
  rw [bitC_iff] at h; unfold dg; omega
theorem vldL_iff (l : List UInt8) : vldL l = true ↔ 1 ≤ l.length ∧ l.length ≤ 50 ∧ (l = [48] ∨ l.head? ≠ some 48) ∧ ∀ c ∈ l, bitC c = true := by
  simp only [vldL, bitC, Bool.and_eq_true, decide_eq_true_eq, Bool.or_eq_true, beq_iff_eq, List.all_eq_true, Bool.not_eq_true', beq_eq_false_iff_ne, ne_eq]
  grind

/-! ### values -/
def valF (l : List UInt8) : Int × Int := l.foldl (fun z c => (-z.1 - z.2 + dg c, z.1 - z.2)) (0, 0)
def valX (l : List UInt8) : Int := (valF l).1
def valY (l : List UInt8) : Int := (valF l).2
theorem valX_nil : valX [] = 0 := rfl
theorem valY_nil : valY [] = 0 := rfl
theorem valX_snoc (l : List UInt8) (c : UInt8) : valX (l ++ [c]) = -valX l - valY l + dg c := by simp [valX, valY, valF]
theorem valY_snoc (l : List UInt8) (c : UInt8) : valY (l ++ [c]) = valX l - valY l := by simp [valX, valY, valF]
theorem rev_ind {α : Type} {P : List α → Prop} (h0 : P []) (h1 : ∀ l a, P l → P (l ++ [a])) (l : List α) : P l := by
  rw [← List.reverse_reverse l]
  induction l.reverse with
  | nil => exact h0
  | cons a r ih => rw [List.reverse_cons]; exact h1 _ _ ih
theorem val_le (l : List UInt8) (h : ∀ c ∈ l, bitC c = true) : (-(2 ^ l.length : Nat) + 1 ≤ valX l ∧ valX l ≤ (2 ^ l.length : Nat) - 1) ∧ (-(2 ^ l.length : Nat) + 1 ≤ valY l ∧ valY l ≤ (2 ^ l.length : Nat) - 1) := by
  induction l using rev_ind with
  | h0 => simp [valX, valY, valF]
  | h1 l c ih =>
    have hc := dg_bit (h c (by simp))
    have := ih fun c hc => h c (by simp [hc])
    rw [valX_snoc, valY_snoc, List.length_append, List.length_singleton, Nat.pow_succ]
    generalize 2 ^ l.length = n at *
    omega
theorem pow_le50 {k n : Nat} (h : k ≤ n) : 2 ^ k ≤ 2 ^ n := Nat.pow_le_pow_right (by omega) h
theorem val_in {l : List UInt8} (h : ∀ c ∈ l, bitC c = true) (hl : l.length ≤ 50) : (-1125899906842624 ≤ valX l ∧ valX l ≤ 1125899906842624) ∧ (-1125899906842624 ≤ valY l ∧ valY l ≤ 1125899906842624) := by
  have a := val_le l h
  have b := pow_le50 hl
  have e : (2 : Nat) ^ 50 = 1125899906842624 := by decide
  rw [e] at b
  omega

/-! ### binary numbers -/
def idxF (l : List UInt8) : Int := l.foldl (fun n c => 2 * n + dg c) 0
theorem idxF_snoc (l : List UInt8) (c : UInt8) : idxF (l ++ [c]) = 2 * idxF l + dg c := by simp [idxF]
theorem idx_le (l : List UInt8) (h : ∀ c ∈ l, bitC c = true) : 0 ≤ idxF l ∧ idxF l ≤ (2 ^ l.length : Nat) - 1 := by
  induction l using rev_ind with
  | h0 => simp [idxF]
  | h1 l c ih =>
    have hc := dg_bit (h c (by simp))
    have := ih fun c hc => h c (by simp [hc])
    rw [idxF_snoc, List.length_append, List.length_singleton, Nat.pow_succ]
    generalize 2 ^ l.length = n at *
    omega
theorem idx_in {l : List UInt8} (h : ∀ c ∈ l, bitC c = true) (hl : l.length ≤ 50) : 0 ≤ idxF l ∧ idxF l ≤ 1125899906842623 := by
  have a := idx_le l h
  have b := pow_le50 hl
  have e : (2 : Nat) ^ 50 = 1125899906842624 := by decide
  rw [e] at b
  omega

/-! ### the bytes of a string -/
abbrev toL (s : ByteArray) : List UInt8 := s.data.toList
def bs (l : List UInt8) : ByteArray := ⟨l.toArray⟩
theorem bs_toL (s : ByteArray) : bs (toL s) = s := by simp [bs, toL]
theorem toL_bs (l : List UInt8) : toL (bs l) = l := by simp [bs, toL]
theorem toL_len (s : ByteArray) : (toL s).length = s.size := Array.length_toList
theorem toL_get (s : ByteArray) (k : Nat) (h : k < s.size) : (toL s)[k]? = some s[k] := by
  have : k < s.data.size := h
  show s.data.toList[k]? = _
  rw [Array.getElem?_toList, Array.getElem?_eq_getElem this]; rfl
theorem take_snocB (s : ByteArray) (k : Nat) (h : k < s.size) : (toL s).take (k + 1) = (toL s).take k ++ [s[k]] := by
  rw [List.take_add_one, toL_get s k h]; rfl
theorem take_allB (s : ByteArray) (k : Nat) (h : s.size ≤ k) : (toL s).take k = toL s := List.take_of_length_le (by rw [toL_len]; exact h)
/-- a string is an expansion -/
def vldB (s : ByteArray) : Bool := vldL (toL s)
theorem vldB_len {s : ByteArray} (h : vldB s = true) : 1 ≤ s.size ∧ s.size ≤ 50 := by
  have := (vldL_iff _).1 h; rw [toL_len] at this; exact ⟨this.1, this.2.1⟩
theorem vldB_bits {s : ByteArray} (h : vldB s = true) : ∀ c ∈ toL s, bitC c = true := ((vldL_iff _).1 h).2.2.2
theorem vldB_at {s : ByteArray} (h : vldB s = true) (k : Nat) (hk : k < s.size) : s[k].toNat = 48 ∨ s[k].toNat = 49 :=
  (bitC_iff _).1 (vldB_bits h _ (List.mem_of_getElem? (toL_get s k hk)))
theorem take_bits {s : ByteArray} (h : vldB s = true) (k : Nat) : ∀ c ∈ (toL s).take k, bitC c = true := fun c hc => vldB_bits h c (List.mem_of_mem_take hc)
theorem toL_ext {s t : ByteArray} (h : toL s = toL t) : s = t := by rw [← bs_toL s, ← bs_toL t, h]
/-- ways out of an expansion -/
theorem vldB_empty {s : ByteArray} (h : s.size < 1) : vldB s = false := by
  rw [← Bool.not_eq_true]; intro e; have := vldB_len e; omega
theorem vldB_long {s : ByteArray} (h : 50 < s.size) : vldB s = false := by
  rw [← Bool.not_eq_true]; intro e; have := vldB_len e; omega
theorem vldB_lead {s : ByteArray} (h0 : 0 < s.size) (h : s[0].toNat = 48) (h1 : (toL s == [48]) = false) : vldB s = false := by
  rw [← Bool.not_eq_true]
  intro e
  have := ((vldL_iff _).1 e).2.2.1
  have g := toL_get s 0 h0
  rw [← List.head?_eq_getElem?] at g
  rcases this with h2 | h2
  · rw [h2] at h1; simp at h1
  · rw [g] at h2; apply h2; rw [Option.some.injEq, ← UInt8.toNat_inj, h]; rfl
theorem vldB_bad {s : ByteArray} (k : Nat) (hk : k < s.size) (h : ¬ (s[k].toNat = 48 ∨ s[k].toNat = 49)) : vldB s = false := by
  rw [← Bool.not_eq_true]; intro e; exact h (vldB_at e k hk)
theorem vldB_good {s : ByteArray} (h0 : 1 ≤ s.size) (h1 : s.size ≤ 50) (h2 : (toL s == [48]) = true ∨ s[0].toNat ≠ 48) (h3 : ∀ c ∈ toL s, bitC c = true) : vldB s = true := by
  refine (vldL_iff _).2 ⟨by rw [toL_len]; exact h0, by rw [toL_len]; exact h1, ?_, h3⟩
  rcases h2 with h2 | h2
  · exact Or.inl (by simpa using h2)
  · right
    have g := toL_get s 0 (by omega)
    rw [← List.head?_eq_getElem?] at g
    rw [g]
    intro e
    apply h2
    rw [Option.some.injEq] at e
    rw [e]; rfl
end Go.Proofs.YtmdnfamjdogogaaDoor

/- Chapter 3: where the point stands in a text. No law is stated here. -/
import Derived.Test.YtlcafjdinjdllabDa
import Derived.Lib.Bytealg
namespace Go.Proofs.Ytlcafjdinjdllab
set_option linter.unusedSimpArgs false
set_option linter.unusedVariables false
open Go.RowKit
/-- the place of the first point, or the length -/
def dotL : List UInt8 → Nat
  | [] => 0
  | c :: l => if c == 46 then 0 else dotL l + 1
theorem dotL_le : ∀ l, dotL l ≤ l.length
  | [] => Nat.le_refl _
  | c :: l => by
    unfold dotL
    split
    · omega
    · have := dotL_le l; simp only [List.length_cons]; omega
theorem dotL_get : ∀ {l : List UInt8}, dotL l < l.length → l[dotL l]? = some 46
  | [], h => by simp [dotL] at h
  | c :: l, h => by
    unfold dotL at h ⊢
    split
    · rename_i hc
      simp only [List.getElem?_cons_zero, Option.some.injEq]
      exact beq_iff_eq.1 hc
    · rename_i hc
      rw [if_neg hc] at h
      simp only [List.length_cons] at h
      rw [List.getElem?_cons_succ]
      exact dotL_get (by omega)
theorem dotL_before : ∀ {l : List UInt8} {k : Nat}, k < dotL l → l[k]? ≠ some 46
  | [], k, h => by simp [dotL] at h
  | c :: l, k, h => by
    unfold dotL at h
    split at h
    · omega
    · rename_i hc
      cases k with
      | zero => simp only [List.getElem?_cons_zero, ne_eq, Option.some.injEq]; intro e; apply hc; rw [e]; rfl
      | succ k => rw [List.getElem?_cons_succ]; exact dotL_before (by omega)
theorem indexByte_dot : ∀ l : List UInt8, Lib.indexByte l 46 = if dotL l < l.length then (dotL l : Int) else -1
  | [] => rfl
  | c :: l => by
    have hl : dotL (c :: l) = if c == 46 then 0 else dotL l + 1 := rfl
    have hi : Lib.indexByte (c :: l) 46 = if c == 46 then 0 else if Lib.indexByte l 46 == -1 then -1 else Lib.indexByte l 46 + 1 := rfl
    rw [hl, hi, indexByte_dot l, List.length_cons]
    by_cases hc : (c == 46) = true
    · rw [if_pos hc, if_pos hc, if_pos (by omega)]; rfl
    · rw [if_neg hc, if_neg hc]
      by_cases h : dotL l < l.length
      · rw [if_pos h, if_pos (show dotL l + 1 < l.length + 1 by omega), if_neg (by simp)]; omega
      · rw [if_neg h, if_neg (show ¬ dotL l + 1 < l.length + 1 by omega), if_pos (by decide)]
def atP (s : ByteArray) : Nat := dotL (toL s)
theorem atP_le (s : ByteArray) : atP s ≤ s.size := by have := dotL_le (toL s); rwa [toL_len] at this
theorem atP_dot {s : ByteArray} (h : atP s < s.size) : s[atP s].toNat = 46 := by
  have := dotL_get (l := toL s) (by rw [toL_len]; exact h)
  have g := toL_get s (atP s) h
  have e : some s[atP s] = some 46 := g.symm.trans this
  rw [Option.some.injEq] at e
  rw [e]; rfl
theorem atP_before {s : ByteArray} {k : Nat} (h : k < atP s) : s[k]'(by have := atP_le s; omega) ≠ 46 := by
  intro e
  have g := toL_get s k (by have := atP_le s; omega)
  rw [e] at g
  exact dotL_before (l := toL s) h g
theorem atP_lt {s : ByteArray} {k : Nat} (hk : k ≤ atP s) (h : k < s.size) (h46 : s[k].toNat ≠ 46) : k + 1 ≤ atP s := by
  rcases Nat.lt_or_ge k (atP s) with c | c
  · exact c
  · have e : atP s = k := by omega
    have := atP_dot (s := s) (by omega)
    simp only [e] at this
    exact absurd this h46
theorem atP_at {s : ByteArray} {k : Nat} (hk : k ≤ atP s) (h : k < s.size) (h46 : s[k].toNat = 46) : atP s = k := by
  rcases Nat.lt_or_ge k (atP s) with c | c
  · exact absurd (UInt8.toNat_inj.1 (by rw [h46]; rfl)) (atP_before c)
  · omega
theorem index_dot (s : ByteArray) : Lib.indexByte s.data.toList 46 = if atP s < s.size then (atP s : Int) else -1 := by
  have := indexByte_dot (toL s)
  rw [toL_len] at this
  exact this
def hdS (s : ByteArray) : ByteArray := s.extract 0 (atP s)
def tlS (s : ByteArray) : ByteArray := s.extract (atP s + 1) s.size
theorem toL_extract (s : ByteArray) (i j : Nat) : toL (s.extract i j) = ((toL s).take j).drop i := by
  show (s.extract i j).data.toList = _
  rw [ByteArray.data_extract, Array.toList_extract, List.extract_eq_take_drop, List.drop_take]
theorem hdS_size (s : ByteArray) : (hdS s).size = atP s := by
  have h := congrArg List.length (toL_extract s 0 (atP s))
  rw [toL_len, List.drop_zero, List.length_take, toL_len] at h
  have := atP_le s
  show (s.extract 0 (atP s)).size = _
  omega
theorem tlS_size (s : ByteArray) : (tlS s).size = s.size - (atP s + 1) := by
  have h := congrArg List.length (toL_extract s (atP s + 1) s.size)
  rw [toL_len, List.length_drop, List.length_take, toL_len] at h
  show (s.extract (atP s + 1) s.size).size = _
  omega
def dotB (s : ByteArray) : Bool := decide (atP s < s.size) && onlyB (tlS s)
def cutB (s : ByteArray) : Bool := dotB s && (vldB (hdS s) && decide ((tlS s).size ≤ 320))
def pickS (b : Bool) (s : ByteArray) : ByteArray := if b then s else ⟨#[]⟩
abbrev cutS (s : ByteArray) : Value := .tuple #[.string (pickS (dotB s) (hdS s)), .string (pickS (dotB s) (tlS s)), .bool (cutB s)]
abbrev cutI (s : ByteArray) : Value := .tuple #[.string (pickS (cutB s) (hdS s)), .string (pickS (cutB s) (tlS s)), .bool (cutB s)]
theorem cutB_dot {s : ByteArray} (h : cutB s = true) : dotB s = true := by unfold cutB at h; rw [Bool.and_eq_true] at h; exact h.1
theorem cutB_facts {s : ByteArray} (h : cutB s = true) : atP s < s.size ∧ onlyB (tlS s) = true ∧ vldB (hdS s) = true ∧ (tlS s).size ≤ 320 := by
  simp only [cutB, dotB, Bool.and_eq_true, decide_eq_true_eq] at h
  exact ⟨h.1.1, h.1.2, h.2.1, h.2.2⟩
theorem cutS_yes {s : ByteArray} (h : cutB s = true) : cutS s = .tuple #[.string (hdS s), .string (tlS s), .bool true] := by
  unfold cutS pickS; rw [h, cutB_dot h]; rfl
theorem cutI_yes {s : ByteArray} (h : cutB s = true) : cutI s = .tuple #[.string (hdS s), .string (tlS s), .bool true] := by
  unfold cutI pickS; rw [h]; rfl
theorem cutI_no {s : ByteArray} (h : cutB s = false) : cutI s = .tuple #[.string ⟨#[]⟩, .string ⟨#[]⟩, .bool false] := by
  unfold cutI pickS; rw [h]; rfl
end Go.Proofs.Ytlcafjdinjdllab

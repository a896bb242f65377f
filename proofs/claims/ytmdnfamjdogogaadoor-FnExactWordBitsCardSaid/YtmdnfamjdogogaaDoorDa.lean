/- Chapter 2: what is an expansion, of both sides. -/
import Derived.Test.YtmdnfamjdogogaaDoorOo
import Derived.Laws.RangeString
import Derived.Laws.RangeAny
import Derived.Deep.LoopGhost
import Derived.Lib.OthersKept
import Derived.Outline
namespace Go.Proofs.YtmdnfamjdogogaaDoor
set_option linter.unusedSimpArgs false
set_option linter.unusedVariables false
open Go.RowKit

/-- the first bytes are digits; so many are left -/
def VRel (s : ByteArray) (w : World) (m : Nat) (i : Value) (wr : World) : Prop := ∃ k : Nat, k + m = s.size ∧ i = .int .i64 k ∧ wr = w ∧ ∀ c ∈ (toL s).take k, bitC c = true
theorem VRel.step {s : ByteArray} {k : Nat} (hk : k < s.size) (h : ∀ c ∈ (toL s).take k, bitC c = true) (hc : s[k].toNat = 48 ∨ s[k].toNat = 49) : ∀ c ∈ (toL s).take (k + 1), bitC c = true := by
  rw [take_snocB s k hk]
  intro c hm
  rcases List.mem_append.1 hm with hm | hm
  · exact h c hm
  · rw [List.mem_singleton] at hm; rw [hm]; exact (bitC_iff _).2 hc
theorem lead_cases (s : ByteArray) (h1 : 1 ≤ s.size) : ((s.toList == [48]) = false ∧ s[0].toNat = 48) ∨ ((s.toList == [48]) = true ∧ s[0].toNat = 48) ∨ s[0].toNat ≠ 48 := by
  by_cases h : s[0].toNat = 48 <;> cases (s.toList == [48]) <;> simp [h]
/-- the same, with the iterator's block -/
def VRelR (s : ByteArray) (w : World) (m : Nat) (wr : World) : Prop := ∃ k : Nat, k + m = s.size ∧ wr = w.iter s k ∧ ∀ c ∈ (toL s).take k, bitC c = true
/-- a text has no other bytes than digits -/
def onlyB (s : ByteArray) : Bool := (toL s).all bitC
theorem onlyB_bad {s : ByteArray} (k : Nat) (hk : k < s.size) (h : ¬ (s[k].toNat = 48 ∨ s[k].toNat = 49)) : onlyB s = false := by
  rw [← Bool.not_eq_true]
  intro e
  exact h ((bitC_iff _).1 (List.all_eq_true.1 e _ (List.mem_of_getElem? (toL_get s k hk))))
theorem onlyB_good {s : ByteArray} (h : ∀ c ∈ toL s, bitC c = true) : onlyB s = true := List.all_eq_true.2 h
theorem onlyB_bits {s : ByteArray} (h : onlyB s = true) : ∀ c ∈ toL s, bitC c = true := List.all_eq_true.1 h
theorem vldB_only {s : ByteArray} (h0 : 1 ≤ s.size) (h1 : s.size ≤ 50) (h2 : (toL s == [48]) = true ∨ s[0].toNat ≠ 48) : vldB s = onlyB s := by
  cases h : onlyB s
  · rw [← Bool.not_eq_true]
    intro e
    rw [onlyB_good (vldB_bits e)] at h
    cases h
  · exact vldB_good h0 h1 h2 (onlyB_bits h)
theorem onlyB_XY (s : ByteArray) : onlyXY 48 49 s = onlyB s := by
  unfold onlyXY onlyB
  congr 1
  funext c
  rw [Bool.eq_iff_iff, isXY_iff, bitC_iff]
  omega
end Go.Proofs.YtmdnfamjdogogaaDoor

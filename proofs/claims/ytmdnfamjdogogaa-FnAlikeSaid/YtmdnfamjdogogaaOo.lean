/- The program's side: a text has no other letters than two. No law is stated here. -/
import Derived.Test.YtmdnfamjdogogaaGa
import Derived.Test.YtmdnfamjdogogaaDMath
import Derived.Laws.RangeString
import Derived.Laws.RangeAny
import Derived.Deep.LoopGhost
import Derived.Lib.OthersKept
import Derived.Outline
namespace Go.Proofs.Ytmdnfamjdogogaa
set_option linter.unusedSimpArgs false
set_option linter.unusedVariables false
open Go.RowKit

theorem toList_toL (s : ByteArray) : s.toList = toL s := ByteArray.toList_eq s
theorem iter_below (w : World) (s : ByteArray) (k : Nat) : Below w.heap.size w (w.iter s k) := (Below.refl _ _).alloc (Nat.le_refl _) _
def isXY (x y : Int) (c : UInt8) : Bool := decide ((c.toNat : Int) = x) || decide ((c.toNat : Int) = y)
theorem isXY_iff (x y : Int) (c : UInt8) : isXY x y c = true ↔ (c.toNat : Int) = x ∨ (c.toNat : Int) = y := by
  unfold isXY; rw [Bool.or_eq_true, decide_eq_true_eq, decide_eq_true_eq]
def onlyXY (x y : Int) (s : ByteArray) : Bool := (toL s).all (isXY x y)
theorem onlyXY_bad {x y : Int} {s : ByteArray} (k : Nat) (hk : k < s.size) (h : ¬ ((s[k].toNat : Int) = x ∨ (s[k].toNat : Int) = y)) : onlyXY x y s = false := by
  rw [← Bool.not_eq_true]
  intro e
  exact h ((isXY_iff _ _ _).1 (List.all_eq_true.1 e _ (List.mem_of_getElem? (toL_get s k hk))))
theorem onlyXY_good {x y : Int} {s : ByteArray} (h : ∀ c ∈ toL s, isXY x y c = true) : onlyXY x y s = true := List.all_eq_true.2 h
def XYRel (x y : Int) (s : ByteArray) (w : World) (m : Nat) (wr : World) : Prop := ∃ k : Nat, k + m = s.size ∧ wr = w.iter s k ∧ ∀ c ∈ (toL s).take k, isXY x y c = true
theorem XYRel.step {x y : Int} {s : ByteArray} {k : Nat} (hk : k < s.size) (h : ∀ c ∈ (toL s).take k, isXY x y c = true) (hc : (s[k].toNat : Int) = x ∨ (s[k].toNat : Int) = y) : ∀ c ∈ (toL s).take (k + 1), isXY x y c = true := by
  rw [take_snocB s k hk]
  intro c hm
  rcases List.mem_append.1 hm with hm | hm
  · exact h c hm
  · rw [List.mem_singleton] at hm; rw [hm]; exact (isXY_iff _ _ _).2 hc
end Go.Proofs.Ytmdnfamjdogogaa

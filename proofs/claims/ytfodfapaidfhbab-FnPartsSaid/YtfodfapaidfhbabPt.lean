/- Chapter 3's powers: a table of their words in both widths, gone through once. No law is stated here. -/
import Derived.Test.YtfodfapaidfhbabPv
namespace Go.Proofs.Ytfodfapaidfhbab
set_option linter.unusedSimpArgs false
set_option linter.unusedVariables false
open Ieee
def stp (k : FloatKind) (z : Nat × Nat) : Nat × Nat := (divR k z.1 z.2, divI k z.1 z.2)
theorem pw_succ (k : FloatKind) (n : Nat) : pw k (n + 1) = stp k (pw k n) := rfl
def tabRun (f : Nat → Nat × Nat → Nat × Nat → Bool) : Nat → Nat → Nat × Nat → Nat × Nat → Bool
  | 0, _, _, _ => true
  | n + 1, k, z, w => f k z w && tabRun f n (k + 1) (stp .f32 z) (stp .f64 w)
theorem tab_all {f : Nat → Nat × Nat → Nat × Nat → Bool} : ∀ {n k : Nat}, tabRun f n k (pw .f32 k) (pw .f64 k) = true → ∀ j, j < n → f (k + j) (pw .f32 (k + j)) (pw .f64 (k + j)) = true
  | 0, _, _, j, hj => by omega
  | n + 1, k, h, j, hj => by
    rw [tabRun, Bool.and_eq_true] at h
    rcases Nat.eq_zero_or_pos j with rfl | hp
    · exact h.1
    · have := tab_all (f := f) (n := n) (k := k + 1) h.2 (j - 1) (by omega)
      rw [show k + 1 + (j - 1) = k + j by omega] at this
      exact this
/-- a word is subnormal -/
def subN (x : Nat) : Bool := x / 8388608 % 256 == 0 && x % 8388608 != 0
def chkSub (k : Nat) (z _w : Nat × Nat) : Bool := (subN z.1).toNat + (subN z.2).toNat == if 252 < k ∧ k < 299 then 1 + k % 2 else 0
theorem sub_tab : tabRun chkSub 321 0 (pw .f32 0) (pw .f64 0) = true := by decide +kernel
theorem sub_at {k : Nat} (h : k ≤ 320) : (subN (pw .f32 k).1).toNat + (subN (pw .f32 k).2).toNat = if 252 < k ∧ k < 299 then 1 + k % 2 else 0 := by
  have := tab_all sub_tab k (by omega)
  rw [Nat.zero_add] at this
  exact beq_iff_eq.1 this
def same (a b : Nat) : Bool := double.order a b == some .eq
def upW (x : Nat) : Nat := gd (floatToFloatBits .f32 x .f64)
def chkOne (k : Nat) (z w : Nat × Nat) : Bool := (decide (298 < k) || (same (upW z.1) w.1 && same (upW z.2) w.2)) && (decide (k < 299) || (same (upW z.1) 0 && same (upW z.2) 0 && single.order z.1 0 == some .eq && single.order z.2 0 == some .eq))
theorem one_tab : tabRun chkOne 321 0 (pw .f32 0) (pw .f64 0) = true := by decide +kernel
theorem one_at {k : Nat} (h : k ≤ 320) : chkOne k (pw .f32 k) (pw .f64 k) = true := by
  have := tab_all one_tab k (by omega)
  rw [Nat.zero_add] at this
  exact this
end Go.Proofs.Ytfodfapaidfhbab

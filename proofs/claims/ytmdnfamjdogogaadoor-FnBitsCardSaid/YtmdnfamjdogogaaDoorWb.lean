/- Chapter 4: TurnBack, TurnUnfold and TurnSum, of both sides. No law is stated here. -/
import Derived.Test.YtmdnfamjdogogaaDoorWa
import Derived.Test.YtmdnfamjdogogaaDoorBq
namespace Go.Proofs.YtmdnfamjdogogaaDoor
set_option linter.unusedSimpArgs false
set_option linter.unusedVariables false
open Go.RowKit

def selW (b : Bool) (l : List UInt8) : ByteArray := if b then bs l else ⟨#[]⟩
abbrev strV (b : Bool) (l : List UInt8) : Value := .tuple #[.string (selW b l), .bool b]
theorem strV_t {b : Bool} (h : b = true) (l : List UInt8) : strV b l = .tuple #[.string (bs l), .bool true] := by rw [h]; rfl
theorem strV_f {b : Bool} (h : b = false) (l : List UInt8) : strV b l = .tuple #[.string ⟨#[]⟩, .bool false] := by rw [h]; rfl
theorem bsz (l : List UInt8) : (bs l).size = l.length := by rw [← toL_len, toL_bs]
theorem toL_app (s t : ByteArray) : toL (s ++ t) = toL s ++ toL t := by simp [toL, ByteArray.data_append]

/-! ### sums -/
def selZ (b : Bool) (n : Int) : Int := if b then n else 0
abbrev sumV (s : ByteArray) : Value := .tuple #[.int .i64 (selZ (wdB 1023 s) (sumL (toL s))), .bool (wdB 1023 s)]
theorem sumV_t {s : ByteArray} (h : wdB 1023 s = true) : sumV s = .tuple #[.int .i64 (sumL (toL s)), .bool true] := by unfold sumV; rw [h]; rfl
theorem sumV_f {s : ByteArray} (h : wdB 1023 s = false) : sumV s = .tuple #[.int .i64 0, .bool false] := by unfold sumV; rw [h]; rfl
theorem sum_step {s : ByteArray} {k : Nat} (hk : k < s.size) : sumL ((toL s).take (k + 1)) = sumL ((toL s).take k) + sgn s[k] := by
  rw [take_snocB s k hk, sumL_snoc]
theorem sum_up {s : ByteArray} {k : Nat} (hk : k < s.size) (h : s[k].toNat = 108) : sumL ((toL s).take (k + 1)) = sumL ((toL s).take k) + 1 := by
  rw [sum_step hk, show s[k] = 108 from UInt8.toNat_inj.1 (by rw [h]; rfl)]; rfl
theorem sum_down {s : ByteArray} {k : Nat} (hk : k < s.size) (h : s[k].toNat ≠ 108) : sumL ((toL s).take (k + 1)) = sumL ((toL s).take k) - 1 := by
  rw [sum_step hk]
  have : sgn s[k] = -1 := by unfold sgn; rw [if_neg (fun e => h (by rw [e]; rfl))]
  rw [this]; omega
theorem sum_at (s : ByteArray) (k : Nat) (h : s.size ≤ 1023) : -1023 ≤ sumL ((toL s).take k) ∧ sumL ((toL s).take k) ≤ 1023 := by
  have := sumL_in ((toL s).take k)
  have hl : ((toL s).take k).length ≤ s.size := by rw [List.length_take, toL_len]; omega
  omega
def ISumRel (s : ByteArray) (w1 : World) (m : Nat) (v : Value) (wr : World) : Prop :=
  ∃ k : Nat, k + m = s.size ∧ v = .int .i64 (sumL ((toL s).take k)) ∧ wr = w1.iter s k
def SSumRel (s : ByteArray) (w : World) (m : Nat) (v i : Value) (wr : World) : Prop :=
  ∃ k : Nat, k + m = s.size ∧ v = .int .i64 (sumL ((toL s).take k)) ∧ i = .int .i64 k ∧ wr = w
/-! ### unfolded -/
def unfB (s c : ByteArray) : Bool := wdB 511 s && (toL c == [108] || toL c == [114])
abbrev unfV (s c : ByteArray) : Value := strV (unfB s c) (toL s ++ toL c ++ backL (toL s))
theorem unfV_t {s c : ByteArray} (h : unfB s c = true) : unfV s c = .tuple #[.string (bs (toL s ++ toL c ++ backL (toL s))), .bool true] := strV_t h _
theorem unfV_f {s c : ByteArray} (h : unfB s c = false) : unfV s c = .tuple #[.string ⟨#[]⟩, .bool false] := strV_f h _
theorem unfB_no {s c : ByteArray} (h : wdB 511 s = false) : unfB s c = false := by unfold unfB; rw [h]; rfl
theorem unfB_c {s c : ByteArray} (h1 : (toL c == [108]) = false) (h2 : (toL c == [114]) = false) : unfB s c = false := by unfold unfB; rw [h1, h2]; simp
theorem unfB_yes {s c : ByteArray} (h : wdB 511 s = true) (hc : (toL c == [108]) = true ∨ (toL c == [114]) = true) : unfB s c = true := by
  unfold unfB; rw [h]; rcases hc with h | h <;> rw [h] <;> simp
theorem wdB_more {s : ByteArray} (h : wdB 511 s = true) : wdB 1023 s = true := by
  rw [wdB_of (by have := wdB_len h; omega)]; exact wdB_only h
theorem wdB_less {s : ByteArray} (h : wdB 1023 s = true) (h5 : s.size ≤ 511) : wdB 511 s = true := by
  rw [wdB_of h5]; exact wdB_only h
theorem wdB_not {s : ByteArray} (h : wdB 1023 s = false) : wdB 511 s = false := by
  rw [← Bool.not_eq_true] at h ⊢; exact fun e => h (wdB_more e)
theorem one_size {c : ByteArray} {a : UInt8} (h : (toL c == [a]) = true) : c.size = 1 := by rw [← toL_len, eq_of_beq h]; rfl
theorem unf_str (s c : ByteArray) : s ++ c ++ bs (backL (toL s)) = bs (toL s ++ toL c ++ backL (toL s)) := toL_ext (by rw [toL_app, toL_app, toL_bs, toL_bs])
end Go.Proofs.YtmdnfamjdogogaaDoor

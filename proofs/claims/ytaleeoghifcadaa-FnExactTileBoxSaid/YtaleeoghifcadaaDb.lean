/- Chapter 2: the binary number of an expansion, of both sides. -/
import Derived.Test.YtaleeoghifcadaaDa
namespace Go.Proofs.Ytaleeoghifcadaa
set_option linter.unusedSimpArgs false
set_option linter.unusedVariables false
open Go.RowKit

theorem idx_step {s : ByteArray} {k : Nat} (hk : k < s.size) : idxF ((toL s).take (k + 1)) = 2 * idxF ((toL s).take k) + ((s[k].toNat : Int) - 48) := by
  rw [take_snocB s k hk, idxF_snoc]; rfl
theorem idx_at {s : ByteArray} (h : vldB s = true) (k : Nat) : 0 ≤ idxF ((toL s).take k) ∧ idxF ((toL s).take k) ≤ 1125899906842623 :=
  idx_in (take_bits h k) (Nat.le_trans (List.length_take_le' _ _) (by rw [toL_len]; exact (vldB_len h).2))
theorem byte_at {s : ByteArray} (h : vldB s = true) (k : Nat) (hk : k < s.size) : 48 ≤ (s[k].toNat : Int) ∧ (s[k].toNat : Int) ≤ 49 := by
  have := vldB_at h k hk; omega
theorem decode_vld {s : ByteArray} (h : vldB s = true) (k : Nat) (hk : k < s.size) : Utf8.decode s k = (s[k].toNat, 1) :=
  decode_ascii s k hk (by have := vldB_at h k hk; omega)

def BinRel (s : ByteArray) (w : World) (m : Nat) (v : Value) (wr : World) : Prop := ∃ k : Nat, k + m = s.size ∧ wr = w.iter s k ∧ v = .int .i64 (idxF ((toL s).take k))
def idxB (s : ByteArray) : Bool := vldB s && decide (s.size ≤ 40)
def selI (b : Bool) (n : Int) : Int := if b then n else 0
abbrev idxV (s : ByteArray) : Value := .tuple #[.int .i64 (selI (idxB s) (idxF (toL s))), .bool (idxB s)]
theorem idxV_no {s : ByteArray} (h : idxB s = false) : idxV s = .tuple #[.int .i64 0, .bool false] := by unfold idxV; rw [h]; rfl
theorem idxV_yes {s : ByteArray} (h : idxB s = true) : idxV s = .tuple #[.int .i64 (idxF (toL s)), .bool true] := by unfold idxV; rw [h]; rfl

def IdxRel (s : ByteArray) (w : World) (m : Nat) (v i : Value) (wr : World) : Prop := ∃ k : Nat, k + m = s.size ∧ i = .int .i64 k ∧ wr = w ∧ v = .int .i64 (idxF ((toL s).take k))
end Go.Proofs.Ytaleeoghifcadaa

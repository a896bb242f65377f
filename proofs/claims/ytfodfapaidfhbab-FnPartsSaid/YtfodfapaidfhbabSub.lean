/- Chapter 3: subnormal parts, the program's. No law is stated here. -/
import Derived.Test.YtfodfapaidfhbabPo
import Derived.Test.YtfodfapaidfhbabPt
import Derived.Laws.Externs
namespace Go.Proofs.Ytfodfapaidfhbab
set_option linter.unusedSimpArgs false
set_option linter.unusedVariables false
open Go.RowKit

theorem f32bits_run (x : Nat) (w : World) : (Extern.MathFloatBits.float32bits #[.float .f32 x]).run Try.prog w = .ok (.int .u32 (x : Nat)) w := rfl
theorem u32_mask {a k : Nat} (ha : a < 4294967296) (hk : k ≤ 31) : bits .and .u32 (a : Int) ((2 ^ k - 1 : Nat) : Int) = ((a % 2 ^ k : Nat) : Int) := by
  have hp : 2 ^ k ≤ 2 ^ 31 := Nat.pow_le_pow_right (by omega) hk
  have e31 : (2 : Nat) ^ 31 = 2147483648 := by decide
  have h1 : (BitVec.ofInt 32 (a : Int)).toNat = a := by
    rw [BitVec.ofInt_natCast, BitVec.toNat_ofNat]; exact Nat.mod_eq_of_lt (by omega)
  have h2 : (BitVec.ofInt 32 ((2 ^ k - 1 : Nat) : Int)).toNat = 2 ^ k - 1 := by
    rw [BitVec.ofInt_natCast, BitVec.toNat_ofNat]; exact Nat.mod_eq_of_lt (by omega)
  show IntKind.u32.wrap ((BitVec.ofInt 32 (a : Int) &&& BitVec.ofInt 32 ((2 ^ k - 1 : Nat) : Int)).toNat : Int) = _
  rw [BitVec.toNat_and, h1, h2, Nat.and_two_pow_sub_one_eq_mod]
  have : a % 2 ^ k < 4294967296 := Nat.lt_of_le_of_lt (Nat.mod_le _ _) ha
  show ((a % 2 ^ k : Nat) : Int) % ((2 ^ 32 : Nat) : Int) = _
  omega
theorem retB {a b : Bool} (h : a = b) : Ending.returned (.bool a) = .returned (.bool b) := by rw [h]
theorem subnormal_c (x : Nat) (w : World) (hx : x < 4294967296) : Calls Try.prog 45 #[.float .f32 x] w fun e w' => e = .returned (.bool (subN x)) ∧ w = w' := by
  have e1 : bits .and .u32 ((x : Int) / 8388608) 255 = ((x / 8388608 % 256 : Nat) : Int) := u32_mask (a := x / 8388608) (k := 8) (by omega) (by omega)
  have e2 : bits .and .u32 (x : Int) 8388607 = ((x % 8388608 : Nat) : Int) := u32_mask (a := x) (k := 23) hx (by omega)
  by_cases h0 : x / 8388608 % 256 = 0
  · rw [h0] at e1
    have e1' : bits .and .u32 ((x : Int) / 8388608) 255 = 0 := e1
    have HS := Lib.hid (show subN x = (((x % 8388608 : Nat) : Int) != 0) by
      unfold subN; rw [h0]
      by_cases hz : x % 8388608 = 0
      · rw [hz]; rfl
      · have a : (x % 8388608 != 0) = true := by simp [hz]
        have b : (((x % 8388608 : Nat) : Int) != 0) = true := by simp; omega
        rw [a, b]; rfl)
    clear e1 h0
    go_enter Try.func45, Try.ntmps45
    go_wp2
    rw [run_callFunc_extern Try.func61 (by kernel_rfl) (by kernel_rfl) (by kernel_rfl) (e := Extern.MathFloatBits.float32bits) (by kernel_rfl), f32bits_run]
    simp only [Result.andThen]
    rw [Oper.upon_value]
    go_wp2
    go_ret
    exact ⟨retB HS.out.symm, rfl⟩
  · have e3 : (((x / 8388608 % 256 : Nat) : Int) == 0) = false := by simp; omega
    have HS := Lib.hid (show subN x = false by unfold subN; simp [h0])
    go_enter Try.func45, Try.ntmps45
    go_wp2
    rw [run_callFunc_extern Try.func61 (by kernel_rfl) (by kernel_rfl) (by kernel_rfl) (e := Extern.MathFloatBits.float32bits) (by kernel_rfl), f32bits_run]
    simp only [Result.andThen]
    rw [Oper.upon_value]
    go_wp2
    go_ret
    exact ⟨retB HS.out.symm, rfl⟩
end Go.Proofs.Ytfodfapaidfhbab

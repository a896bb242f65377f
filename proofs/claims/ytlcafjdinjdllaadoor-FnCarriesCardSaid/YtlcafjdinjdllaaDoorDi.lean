/- Chapter 2, the model's side: adding digit by digit. -/
import Derived.Test.YtlcafjdinjdllaaDoorDe3
import Derived.Test.YtlcafjdinjdllaaDoorDb
import Derived.Test.YtlcafjdinjdllaaDoorDf
import Derived.Test.YtlcafjdinjdllaaDoorDAdd
namespace Go.Proofs.YtlcafjdinjdllaaDoor
set_option linter.unusedSimpArgs false
set_option linter.unusedVariables false
open Go.RowKit

theorem l2Digit_c (s : ByteArray) (k : Nat) (w : World) (hv : vldB s = true) (hk : k ≤ 1000) : Calls Tryd.prog 73 #[.string s, .int .i64 k] w fun e w' => e = .returned (.int .i64 (dR s k : Nat)) ∧ w = w' := by
  have hl := (vldB_len hv).2
  by_cases h : k < s.size
  · have hi : s.size - 1 - k < s.size := by omega
    obtain ⟨b1, b2⟩ := byte_at hv (s.size - 1 - k) hi
    have HD := Lib.hid (show ((dR s k : Nat) : Int) = (s[s.size - 1 - k].toNat : Int) - 48 by unfold dR; rw [dif_pos h]; omega)
    have e1 : ((s.size : Int) - 1 - (k : Int)).toNat = s.size - 1 - k := by omega
    clear hv
    go_enter Tryd.func73, Tryd.ntmps73
    go_wp2
    go_ret
    exact ⟨by rw [HD.out]; rfl, rfl⟩
  · have HD := Lib.hid (dR_beyond (s := s) (k := k) (by omega))
    clear hv
    go_enter Tryd.func73, Tryd.ntmps73
    go_wp2
    go_ret
    exact ⟨by rw [HD.out]; rfl, rfl⟩
end Go.Proofs.YtlcafjdinjdllaaDoor

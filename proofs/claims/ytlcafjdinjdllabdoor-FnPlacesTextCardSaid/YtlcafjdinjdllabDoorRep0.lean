/- So many noughts. No law is stated here. -/
import Derived.Test.YtlcafjdinjdllabDoorDa
namespace Go.Proofs.YtlcafjdinjdllabDoor
set_option linter.unusedSimpArgs false
set_option linter.unusedVariables false
open Go.RowKit
def zz (n : Nat) : ByteArray := bs (List.replicate n 48)
theorem zz_size (n : Nat) : (zz n).size = n := by unfold zz; rw [← toL_len, toL_bs, List.length_replicate]
theorem zz_succ (n : Nat) : zz n ++ ⟨#[48]⟩ = zz (n + 1) := by
  apply toL_ext
  show (zz n ++ (⟨#[48]⟩ : ByteArray)).data.toList = _
  rw [ByteArray.data_append, Array.toList_append]
  show toL (bs (List.replicate n 48)) ++ [48] = toL (bs (List.replicate (n + 1) 48))
  rw [toL_bs, toL_bs, ← List.replicate_succ']
end Go.Proofs.YtlcafjdinjdllabDoor

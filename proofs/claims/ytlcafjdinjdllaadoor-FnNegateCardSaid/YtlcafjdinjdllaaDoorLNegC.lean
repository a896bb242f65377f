/- Chapter 2: opposite expansions, of both sides. No law is stated here. -/
import Derived.Test.YtlcafjdinjdllaaDoorDo
namespace Go.Proofs.YtlcafjdinjdllaaDoor
set_option linter.unusedSimpArgs false
set_option linter.unusedVariables false
open Go.RowKit

theorem iDigitsNegate_c (a : ByteArray) (w : World) (hT : Tab w) : Calls Tryd.prog 29 #[.string a] w fun e w' => e = .returned (timesV a ⟨#[49, 49, 49, 48, 49]⟩) ∧ Below w.heap.size w w' := by
  obtain ⟨s, ok, hs⟩ := timesV_shape a ⟨#[49, 49, 49, 48, 49]⟩
  have HS := Lib.hid (fun w hT => hs ▸ iDigitsTimes_c a ⟨#[49, 49, 49, 48, 49]⟩ w hT)
  have HT := Lib.hid hT
  rw [hs]
  clear hs hT
  go_enter Tryd.func29, Tryd.ntmps29
  go_wp2_with fail
  refine (HS.out _ HT.out).mono ?_
  rintro e w1 ⟨rfl, hb⟩
  go_wp2
  go_ret2
  exact ⟨rfl, hb⟩
theorem sDigitsNegate_c (a : ByteArray) (w : World) : Calls Tryd.prog 30 #[.string a] w fun e w' => e = .returned (timesV a ⟨#[49, 49, 49, 48, 49]⟩) ∧ Below w.heap.size w w' := by
  obtain ⟨s, ok, hs⟩ := timesV_shape a ⟨#[49, 49, 49, 48, 49]⟩
  have HS := Lib.hid (fun w => hs ▸ sDigitsTimes_c a ⟨#[49, 49, 49, 48, 49]⟩ w)
  rw [hs]
  clear hs
  go_enter Tryd.func30, Tryd.ntmps30
  go_wp2_with fail
  refine (HS.out _).mono ?_
  rintro e w1 ⟨rfl, hb⟩
  go_wp2
  go_ret2
  exact ⟨rfl, hb⟩
end Go.Proofs.YtlcafjdinjdllaaDoor

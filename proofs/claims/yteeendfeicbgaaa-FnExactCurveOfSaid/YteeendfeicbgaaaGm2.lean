/- What the laws ask of two floats: a word is the same as itself. No law is stated here. -/
import Derived.Test.YteeendfeicbgaaaGa
import Derived.Test.YteeendfeicbgaaaFloat
namespace Go.Proofs.Yteeendfeicbgaaa
set_option linter.unusedSimpArgs false
set_option linter.unusedVariables false
open Go.RowKit

theorem sameFloat_c (x : Nat) (w : World) : Calls Try.prog 19 #[.float .f64 x, .float .f64 x] w fun e w' => e = .returned (.bool true) ∧ w = w' := by
  by_cases h1 : FloatKind.f64.format.order x x = some .eq
  · by_cases h2 : FloatKind.f64.format.order x 0 = some .eq
    · obtain ⟨r, hr⟩ := one_div_zero h2
      have hq := fun w => run_float_arith (P := Try.prog) w .quo 37 .f64 _ x r hr
      clear hr
      go_enter Try.func19, Try.ntmps19
      go_wp2
      go_ret
      exact ⟨by simp, rfl⟩
    · go_enter Try.func19, Try.ntmps19
      go_wp2
      go_ret
      exact ⟨by simp, rfl⟩
  · have h3 : (FloatKind.f64.format.order x x != some .eq) = true := by simp [h1]
    go_enter Try.func19, Try.ntmps19
    go_wp2
    go_ret
    exact ⟨by simp [*], rfl⟩
theorem sameComplex_c (x y : Nat) (w : World) : Calls Try.prog 12 #[.complex .f64 x y, .complex .f64 x y] w fun e w' => e = .returned (.bool true) ∧ w = w' := by
  go_enter Try.func12, Try.ntmps12
  go_wp2_with (go_at_call 19; refine (sameFloat_c _ _).mono ?_; rintro e w1 ⟨rfl, rfl⟩)
  go_ret
  exact ⟨rfl, rfl⟩
end Go.Proofs.Yteeendfeicbgaaa

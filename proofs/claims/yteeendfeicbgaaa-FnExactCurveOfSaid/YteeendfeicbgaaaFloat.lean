/- Plain words of floats: a word that is equal to nought, and 1 over it. No law is stated here. -/
import Derived.WalkKit
import Derived.Laws.FloatArith
namespace Go.Proofs.Yteeendfeicbgaaa
set_option linter.unusedSimpArgs false
set_option linter.unusedVariables false
open Ieee
theorem signed_zero {s : Bool} {m k : Nat} (h : signed s m k = 0) : m = 0 := by
  unfold signed at h
  rw [Nat.shiftLeft_eq] at h
  have h2 : m * 2 ^ k = 0 := by split at h <;> omega
  rcases Nat.mul_eq_zero.1 h2 with h3 | h3
  · exact h3
  · exact absurd h3 (Nat.ne_of_gt (Nat.two_pow_pos k))
/-- a word that is equal to nought reads as a nought -/
theorem read_zero {f : Format} {x : Nat} (h0 : f.read 0 = .number false 0 f.leastPlace) (h : f.order x 0 = some .eq) : ∃ s i, f.read x = .number s 0 i := by
  unfold Format.order at h
  rw [h0] at h
  cases hx : f.read x with
  | nan s t => rw [hx] at h; simp [Datum.order] at h
  | infinity s => rw [hx] at h; cases s <;> simp [Datum.order] at h
  | number s m i =>
    rw [hx] at h
    simp only [Datum.order, Option.some.injEq] at h
    have h1 := Int.compare_eq_eq.1 h
    have h2 : signed false 0 (f.leastPlace - min i f.leastPlace).toNat = 0 := by simp [signed]
    rw [h2] at h1
    rw [signed_zero h1]
    exact ⟨s, i, rfl⟩
theorem one_div_zero {x : Nat} (h : FloatKind.f64.format.order x 0 = some .eq) : ∃ r, floatBits .quo .f64 4607182418800017408 x = some r := by
  obtain ⟨s, i, hx⟩ := read_zero (by decide +kernel) h
  show ∃ r, ((FloatKind.f64.format.read 4607182418800017408).quotient _ (FloatKind.f64.format.read x)).map FloatKind.f64.format.write = some r
  rw [hx, show FloatKind.f64.format.read 4607182418800017408 = .number false 4503599627370496 (-52) by decide +kernel]
  simp [Datum.quotient]
end Go.Proofs.Yteeendfeicbgaaa

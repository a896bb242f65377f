/- Primes have no common divisors with 2 but 1 + i: the numbers' side. No law is stated here. -/
import Derived.Test.YtlcafjdinjdllaaGm
import Derived.Test.YtlcafjdinjdllaaGcd
namespace Go.Proofs.Ytlcafjdinjdllaa
set_option linter.unusedSimpArgs false
set_option linter.unusedVariables false
open Go.RowKit

theorem prime_i {x y : Int} : gaussPrimeB (-y) x = gaussPrimeB x y := by
  unfold gaussPrimeB
  have e1 : inB 1000 (-y) x = inB 1000 x y := by
    rw [Bool.eq_iff_iff]; simp [inB, inR]; omega
  have e2 : nrm (-y) x = nrm x y := by unfold nrm; grind
  rw [e1, e2]
  by_cases hz : ¬ x = 0 ∧ ¬ y = 0
  · rw [if_pos hz, if_pos (show ¬ -y = 0 ∧ ¬ x = 0 by omega)]
  · rw [if_neg hz, if_neg (show ¬ (¬ -y = 0 ∧ ¬ x = 0) by omega)]
    have e3 : mx (-y) x = mx x y := by unfold mx; omega
    rw [e3]
theorem prime_bar {x y : Int} : gaussPrimeB x (-y) = gaussPrimeB x y := by
  unfold gaussPrimeB
  have e1 : inB 1000 x (-y) = inB 1000 x y := by
    rw [Bool.eq_iff_iff]; simp [inB, inR]; omega
  have e2 : nrm x (-y) = nrm x y := by unfold nrm; grind
  rw [e1, e2]
  by_cases hz : ¬ x = 0 ∧ ¬ y = 0
  · rw [if_pos hz, if_pos (show ¬ x = 0 ∧ ¬ -y = 0 by omega)]
  · rw [if_neg hz, if_neg (show ¬ (¬ x = 0 ∧ ¬ -y = 0) by omega)]
    have e3 : mx x (-y) = mx x y := by unfold mx; omega
    rw [e3]
/-- a number whose norm is even, and prime: its norm is 2 -/
theorem prime_even {x y : Int} (h : gaussPrimeB x y = true) (h2 : nrm x y % 2 = 0) : nrm x y = 2 := by
  unfold gaussPrimeB at h
  simp only [Bool.and_eq_true] at h
  obtain ⟨-, h⟩ := h
  by_cases hz : ¬ x = 0 ∧ ¬ y = 0
  · rw [if_pos hz] at h
    unfold primeB at h
    simp only [decide_eq_true_eq] at h
    obtain ⟨h3, h4⟩ := h
    have h5 : ¬ (2 * 2 ≤ nrm x y) := fun hh => h4 2 (by omega) hh h2
    omega
  · rw [if_neg hz] at h
    simp only [Bool.and_eq_true, decide_eq_true_eq] at h
    obtain ⟨h3, -⟩ := h
    exfalso
    have hm : nrm x y = mx x y * mx x y := by
      have e : mx x y = x ∨ mx x y = -x ∨ mx x y = y ∨ mx x y = -y := by unfold mx; omega
      have hz' : x = 0 ∨ y = 0 := by omega
      rcases hz' with rfl | rfl
      · have e' : mx 0 y = y ∨ mx 0 y = -y := by unfold mx; omega
        unfold nrm
        rcases e' with e' | e' <;> rw [e'] <;> grind
      · have e' : mx x 0 = x ∨ mx x 0 = -x := by unfold mx; omega
        unfold nrm
        rcases e' with e' | e' <;> rw [e'] <;> grind
    have hq : mx x y = 2 * (mx x y / 2) + 1 := by omega
    have hq2 : mx x y * mx x y = 2 * (mx x y / 2 * (mx x y) + mx x y / 2) + 1 := by
      generalize mx x y / 2 = q at *
      rw [hq]
      grind
    omega
/-- the norm of what comes out: 1, or 2 where the norm is 2 -/
theorem prime_gcd {x y : Int} (h : gaussPrimeB x y = true) :
    (firstX (gcdX x y 2 0) (gcdY x y 2 0) = 1 ∧ firstY (gcdX x y 2 0) (gcdY x y 2 0) = 0) ∨ (firstX (gcdX x y 2 0) (gcdY x y 2 0) = 1 ∧ firstY (gcdX x y 2 0) (gcdY x y 2 0) = 1 ∧ nrm x y = 2) := by
  obtain ⟨k1, k2⟩ := first_eq (gcdX x y 2 0) (gcdY x y 2 0)
  obtain ⟨h1, h2⟩ := gcd_div x y 2 0
  have d1 := k1.trans h1
  have d2 := k1.trans h2
  have hf := first_twice (gcdX x y 2 0) (gcdY x y 2 0)
  clear k1 k2 h1 h2
  generalize firstX (gcdX x y 2 0) (gcdY x y 2 0) = g at *
  generalize firstY (gcdX x y 2 0) (gcdY x y 2 0) = k at *
  obtain ⟨p, q, e1, e2⟩ := d1
  obtain ⟨r, s, e3, e4⟩ := d2
  have n1 : nrm x y = nrm p q * nrm g k := by rw [← nrm_mul, ← e1, ← e2]
  have n2 : (4 : Int) = nrm r s * nrm g k := by rw [← nrm_mul, ← e3, ← e4]; decide
  have hev := prime_even h
  have g0 := nrm_nonneg g k
  have r0 := nrm_nonneg r s
  have gle : nrm g k ≤ 4 := Int.le_of_dvd (by omega) ⟨nrm r s, by rw [Int.mul_comm]; exact n2⟩
  have hc : nrm g k = 0 ∨ nrm g k = 1 ∨ nrm g k = 2 ∨ nrm g k = 3 ∨ nrm g k = 4 := by omega
  obtain ⟨b1, b2, b3, b4⟩ := part_le (x := g) (y := k) (n := 4) gle 2 (by omega) (by omega)
  rcases hc with hc | hc | hc | hc | hc
  · rw [hc] at n2; omega
  · left
    rcases unit_cases hc with ⟨rfl, rfl⟩ | ⟨rfl, rfl⟩ | ⟨rfl, rfl⟩ | ⟨rfl, rfl⟩
    · exact ⟨rfl, rfl⟩
    · exact absurd hf (by decide)
    · exact absurd hf (by decide)
    · exact absurd hf (by decide)
  · right
    rw [hc] at n1
    have hn := hev (by omega)
    have c1 : g = -2 ∨ g = -1 ∨ g = 0 ∨ g = 1 ∨ g = 2 := by omega
    have c2 : k = -2 ∨ k = -1 ∨ k = 0 ∨ k = 1 ∨ k = 2 := by omega
    rcases c1 with rfl | rfl | rfl | rfl | rfl <;> rcases c2 with rfl | rfl | rfl | rfl | rfl <;> first | exact absurd hc (by decide) | exact absurd hf (by decide) | exact ⟨rfl, rfl, hn⟩
  · rw [hc] at n2; omega
  · exfalso
    rw [hc] at n1
    have hn := hev (by omega)
    omega
end Go.Proofs.Ytlcafjdinjdllaa

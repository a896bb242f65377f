/- Plain numbers, no Go in sight: what the repeated divisions give divides both, and is the same first turn whichever number comes first. -/
import Derived.Test.YtlcafjdinjdllaaMath
namespace Go.Proofs.Ytlcafjdinjdllaa
set_option linter.unusedSimpArgs false
set_option linter.unusedVariables false
/-- c + d i divides x + y i -/
def DV (c d x y : Int) : Prop := ∃ p q, x = mre p q c d ∧ y = mim p q c d
theorem DV.refl (c d : Int) : DV c d c d := ⟨1, 0, by unfold mre; omega, by unfold mim; omega⟩
theorem DV.zero (c d : Int) : DV c d 0 0 := ⟨0, 0, by unfold mre; omega, by unfold mim; omega⟩
theorem DV.trans {a b c d x y : Int} (h : DV a b c d) (h' : DV c d x y) : DV a b x y := by
  obtain ⟨p, q, rfl, rfl⟩ := h
  obtain ⟨r, s, rfl, rfl⟩ := h'
  exact ⟨mre r s p q, mim r s p q, by unfold mre mim; grind, by unfold mre mim; grind⟩
theorem DV.mul {c d x y : Int} (h : DV c d x y) (p q : Int) : DV c d (mre p q x y) (mim p q x y) := h.trans ⟨p, q, rfl, rfl⟩
theorem DV.add {c d x y x' y' : Int} (h : DV c d x y) (h' : DV c d x' y') : DV c d (x + x') (y + y') := by
  obtain ⟨p, q, rfl, rfl⟩ := h
  obtain ⟨r, s, rfl, rfl⟩ := h'
  exact ⟨p + r, q + s, by unfold mre; grind, by unfold mim; grind⟩
theorem DV.sub {c d x y x' y' : Int} (h : DV c d x y) (h' : DV c d x' y') : DV c d (x - x') (y - y') := by
  obtain ⟨p, q, rfl, rfl⟩ := h
  obtain ⟨r, s, rfl, rfl⟩ := h'
  exact ⟨p - r, q - s, by unfold mre; grind, by unfold mim; grind⟩
theorem DV.rest {c d x y x' y' : Int} (h : DV c d x y) (h' : DV c d x' y') : DV c d (rx x y x' y') (ry x y x' y') := by
  unfold rx ry; exact h.sub (h'.mul _ _)
theorem DV.back {c d x y x' y' : Int} (h' : DV c d x' y') (h : DV c d (rx x y x' y') (ry x y x' y')) : DV c d x y := by
  have h2 := h.add (h'.mul (qx x y x' y') (qy x y x' y'))
  unfold rx ry at h2
  rwa [Int.sub_add_cancel, Int.sub_add_cancel] at h2
/-- a common divisor divides what comes out -/
theorem gcdF_of : ∀ (n : Nat) {c d x y x' y' : Int}, DV c d x y → DV c d x' y' → DV c d (gcdF n x y x' y').1 (gcdF n x y x' y').2
  | 0, _, _, _, _, _, _, h, _ => h
  | n + 1, _, _, x, y, x', y', h, h' => by
    unfold gcdF
    split
    · exact h
    · exact gcdF_of n h' (h.rest h')
/-- what comes out divides both -/
theorem gcdF_div : ∀ (n : Nat) {x y x' y' : Int}, nrm x' y' ≤ (n : Int) → DV (gcdF n x y x' y').1 (gcdF n x y x' y').2 x y ∧ DV (gcdF n x y x' y').1 (gcdF n x y x' y').2 x' y'
  | 0, x, y, x', y', h => by
    have hz : x' = 0 ∧ y' = 0 := by
      refine Decidable.byContradiction fun h0 => ?_
      have := nrm_pos h0
      omega
    obtain ⟨rfl, rfl⟩ := hz
    exact ⟨DV.refl _ _, DV.zero _ _⟩
  | n + 1, x, y, x', y', h => by
    unfold gcdF
    split
    · next hz =>
      obtain ⟨rfl, rfl⟩ := hz
      exact ⟨DV.refl _ _, DV.zero _ _⟩
    · next hz =>
      have h1 := nrm_pos hz
      have h2 := rest_half (x := x) (y := y) h1
      obtain ⟨k1, k2⟩ := gcdF_div n (x := x') (y := y') (x' := rx x y x' y') (y' := ry x y x' y') (by omega)
      exact ⟨DV.back k1 k2, k1⟩
theorem gcd_div (x y x' y' : Int) : DV (gcdX x y x' y') (gcdY x y x' y') x y ∧ DV (gcdX x y x' y') (gcdY x y x' y') x' y' := gcdF_div _ (nrm_toNat _ _)
theorem gcd_of {c d x y x' y' : Int} (h : DV c d x y) (h' : DV c d x' y') : DV c d (gcdX x y x' y') (gcdY x y x' y') := gcdF_of _ h h'
theorem nrm_mul (p q c d : Int) : nrm (mre p q c d) (mim p q c d) = nrm p q * nrm c d := by unfold nrm mre mim; grind
theorem nrm_zero {x y : Int} (h : nrm x y = 0) : x = 0 ∧ y = 0 := by
  refine Decidable.byContradiction fun h0 => ?_
  have := nrm_pos h0
  omega
/-- the numbers of norm 1 -/
theorem unit_cases {p q : Int} (h : nrm p q = 1) : (p = 1 ∧ q = 0) ∨ (p = 0 ∧ q = 1) ∨ (p = -1 ∧ q = 0) ∨ (p = 0 ∧ q = -1) := by
  obtain ⟨h1, h2, h3, h4⟩ := part_le (x := p) (y := q) (n := 1) (by omega) 1 (by omega) (by omega)
  have e1 : p = -1 ∨ p = 0 ∨ p = 1 := by omega
  have e2 : q = -1 ∨ q = 0 ∨ q = 1 := by omega
  unfold nrm at h
  rcases e1 with rfl | rfl | rfl <;> rcases e2 with rfl | rfl | rfl <;> simp at h ⊢
theorem first_i (a b : Int) : firstX (-b) a = firstX a b ∧ firstY (-b) a = firstY a b := by
  unfold firstX firstY
  constructor
  all_goals
    repeat' split
  all_goals omega
theorem first_unit {p q : Int} (h : nrm p q = 1) (c d : Int) : firstX (mre p q c d) (mim p q c d) = firstX c d ∧ firstY (mre p q c d) (mim p q c d) = firstY c d := by
  have k1 := first_i c d
  have k2 := first_i (-d) c
  have k3 := first_i (-c) (-d)
  rw [Int.neg_neg] at k3
  rcases unit_cases h with ⟨rfl, rfl⟩ | ⟨rfl, rfl⟩ | ⟨rfl, rfl⟩ | ⟨rfl, rfl⟩
  · rw [show mre 1 0 c d = c by unfold mre; omega, show mim 1 0 c d = d by unfold mim; omega]; exact ⟨rfl, rfl⟩
  · rw [show mre 0 1 c d = -d by unfold mre; omega, show mim 0 1 c d = c by unfold mim; omega]; exact k1
  · rw [show mre (-1) 0 c d = -c by unfold mre; omega, show mim (-1) 0 c d = -d by unfold mim; omega]; exact ⟨k2.1.trans k1.1, k2.2.trans k1.2⟩
  · rw [show mre 0 (-1) c d = d by unfold mre; omega, show mim 0 (-1) c d = -c by unfold mim; omega]; exact ⟨k3.1.trans (k2.1.trans k1.1), k3.2.trans (k2.2.trans k1.2)⟩
/-- two numbers that divide each other have one first turn -/
theorem first_dv {a b c d : Int} (h : DV a b c d) (h' : DV c d a b) : firstX a b = firstX c d ∧ firstY a b = firstY c d := by
  by_cases hz : c = 0 ∧ d = 0
  · obtain ⟨rfl, rfl⟩ := hz
    obtain ⟨p, q, e1, e2⟩ := h'
    have e3 : a = 0 := by rw [e1]; unfold mre; omega
    have e4 : b = 0 := by rw [e2]; unfold mim; omega
    rw [e3, e4]; exact ⟨rfl, rfl⟩
  · have hn := nrm_pos hz
    obtain ⟨p, q, e1, e2⟩ := h'
    obtain ⟨r, s, e3, e4⟩ := h
    have n1 : nrm a b = nrm p q * nrm c d := by rw [e1, e2, nrm_mul]
    have n2 : nrm c d = nrm r s * nrm a b := by rw [← nrm_mul, ← e3, ← e4]
    have p1 := nrm_nonneg p q
    have p2 := nrm_nonneg r s
    have hu : nrm p q = 1 := by
      rw [n1, ← Int.mul_assoc] at n2
      have e5 : nrm r s * nrm p q = 1 := by
        have := Int.eq_of_mul_eq_mul_right (a := nrm c d) (b := 1) (c := nrm r s * nrm p q) (by omega) (by omega)
        omega
      exact Int.eq_one_of_mul_eq_one_left p1 e5
    have := first_unit hu c d
    rwa [← e1, ← e2] at this
/-- the first turn of what comes out is the same, whichever number comes first -/
theorem gcd_swap (x y x' y' : Int) : firstX (gcdX x' y' x y) (gcdY x' y' x y) = firstX (gcdX x y x' y') (gcdY x y x' y') ∧ firstY (gcdX x' y' x y) (gcdY x' y' x y) = firstY (gcdX x y x' y') (gcdY x y x' y') := by
  have h1 := gcd_div x y x' y'
  have h2 := gcd_div x' y' x y
  exact first_dv (gcd_of h2.2 h2.1) (gcd_of h1.2 h1.1)
/-- a number and its first turn divide each other -/
theorem first_eq (a b : Int) : DV (firstX a b) (firstY a b) a b ∧ nrm (firstX a b) (firstY a b) = nrm a b := by
  have hx : (firstX a b = a ∧ firstY a b = b) ∨ (firstX a b = -b ∧ firstY a b = a) ∨ (firstX a b = -a ∧ firstY a b = -b) ∨ (firstX a b = b ∧ firstY a b = -a) := by
    unfold firstX firstY
    split
    · exact Or.inl ⟨rfl, rfl⟩
    · split
      · exact Or.inr (Or.inl ⟨rfl, rfl⟩)
      · split
        · exact Or.inr (Or.inr (Or.inl ⟨rfl, rfl⟩))
        · exact Or.inr (Or.inr (Or.inr ⟨rfl, rfl⟩))
  rcases hx with ⟨e1, e2⟩ | ⟨e1, e2⟩ | ⟨e1, e2⟩ | ⟨e1, e2⟩
  all_goals rw [e1, e2]
  · exact ⟨DV.refl _ _, rfl⟩
  · exact ⟨⟨0, -1, by unfold mre; omega, by unfold mim; omega⟩, by unfold nrm; grind⟩
  · exact ⟨⟨-1, 0, by unfold mre; omega, by unfold mim; omega⟩, by unfold nrm; grind⟩
  · exact ⟨⟨0, 1, by unfold mre; omega, by unfold mim; omega⟩, by unfold nrm; grind⟩
theorem first_twice (a b : Int) : firstX (firstX a b) (firstY a b) = firstX a b ∧ firstY (firstX a b) (firstY a b) = firstY a b := by
  unfold firstX firstY
  constructor
  all_goals
    repeat' split
  all_goals omega
theorem near_mul {n : Int} (hn : 1 ≤ n) (p : Int) : near (p * n) n = p := by
  unfold near
  have e : 2 * (p * n) + n = n + p * (2 * n) := by grind
  rw [e, Int.add_mul_ediv_right _ _ (by omega), Int.ediv_eq_zero_of_lt (by omega) (by omega)]
  omega
/-- a divisor leaves no rest -/
theorem rest_dv {c d x y : Int} (h : DV c d x y) (hz : ¬ (c = 0 ∧ d = 0)) : rx x y c d = 0 ∧ ry x y c d = 0 := by
  have hn := nrm_pos hz
  obtain ⟨p, q, rfl, rfl⟩ := h
  have e1 : qx (mre p q c d) (mim p q c d) c d = p := by
    unfold qx
    rw [show mre (mre p q c d) (mim p q c d) c (-d) = p * nrm c d by unfold mre mim nrm; grind, near_mul hn]
  have e2 : qy (mre p q c d) (mim p q c d) c d = q := by
    unfold qy
    rw [show mim (mre p q c d) (mim p q c d) c (-d) = q * nrm c d by unfold mre mim nrm; grind, near_mul hn]
  unfold rx ry
  rw [e1, e2]
  omega
/-- what comes out is nought only where both are -/
theorem gcd_nz {x y x' y' : Int} (h : ¬ (x = 0 ∧ y = 0 ∧ x' = 0 ∧ y' = 0)) : ¬ (firstX (gcdX x y x' y') (gcdY x y x' y') = 0 ∧ firstY (gcdX x y x' y') (gcdY x y x' y') = 0) := by
  intro hz
  obtain ⟨k1, k2⟩ := first_eq (gcdX x y x' y') (gcdY x y x' y')
  obtain ⟨h1, h2⟩ := gcd_div x y x' y'
  rw [hz.1, hz.2] at k1
  obtain ⟨p, q, e1, e2⟩ := k1.trans h1
  obtain ⟨p', q', e3, e4⟩ := k1.trans h2
  apply h
  rw [e1, e2, e3, e4]; unfold mre mim
  omega
/-- the first turn of what comes out leaves no rest of either number -/
theorem gcd_rest {x y x' y' : Int} (h : ¬ (x = 0 ∧ y = 0 ∧ x' = 0 ∧ y' = 0)) :
    (rx x y (firstX (gcdX x y x' y') (gcdY x y x' y')) (firstY (gcdX x y x' y') (gcdY x y x' y')) = 0 ∧ ry x y (firstX (gcdX x y x' y') (gcdY x y x' y')) (firstY (gcdX x y x' y') (gcdY x y x' y')) = 0) ∧
    (rx x' y' (firstX (gcdX x y x' y') (gcdY x y x' y')) (firstY (gcdX x y x' y') (gcdY x y x' y')) = 0 ∧ ry x' y' (firstX (gcdX x y x' y') (gcdY x y x' y')) (firstY (gcdX x y x' y') (gcdY x y x' y')) = 0) := by
  have hz := gcd_nz h
  obtain ⟨k1, k2⟩ := first_eq (gcdX x y x' y') (gcdY x y x' y')
  obtain ⟨h1, h2⟩ := gcd_div x y x' y'
  exact ⟨rest_dv (k1.trans h1) hz, rest_dv (k1.trans h2) hz⟩
/-- it is small -/
theorem gcd_small {x y x' y' : Int} (h : in6 x y) (h' : in6 x' y') : ∀ n : Nat, in6 (gcdF n x y x' y').1 (gcdF n x y x' y').2 := by
  intro n
  induction n generalizing x y x' y' with
  | zero => exact h
  | succ n ih =>
    unfold gcdF
    split
    · exact h
    · next hz => exact ih h' (rest_in (nrm_pos hz) h')
theorem gcd_in {x y x' y' : Int} (h : in6 x y) (h' : in6 x' y') : in6 (firstX (gcdX x y x' y') (gcdY x y x' y')) (firstY (gcdX x y x' y') (gcdY x y x' y')) := first_in (gcd_small h h' _)
end Go.Proofs.Ytlcafjdinjdllaa

/- Sums and products of expansions by their values. No law is stated here. -/
import Derived.Test.YtlcafjdinjdllaaDoorDn
import Derived.Test.YtlcafjdinjdllaaDoorDVal
namespace Go.Proofs.YtlcafjdinjdllaaDoor
set_option linter.unusedSimpArgs false
set_option linter.unusedVariables false
open Go.RowKit

theorem val_dgsV : ∀ (n : Nat) (x y : Int), ms x y = n → valX (dgs x y).reverse = x ∧ valY (dgs x y).reverse = y := by
  intro n
  induction n using Nat.strongRecOn with
  | ind n ih =>
    intro x y hn
    by_cases hz : x = 0 ∧ y = 0
    · obtain ⟨rfl, rfl⟩ := hz
      rw [dgs_zero]; exact ⟨rfl, rfl⟩
    · have hl := ms_less hz
      obtain ⟨h1, h2⟩ := ih (ms (nX x y) (nY x y)) (by omega) _ _ rfl
      have hd := dg_bitc (d := lastD x y) (lastD_01 x y)
      rw [dgs_step hz, List.reverse_cons, valX_snoc, valY_snoc, h1, h2, hd]
      exact ⟨(back_x x y).symm, (back_y x y).symm⟩
theorem val_exp (x y : Int) : valX (expL x y) = x ∧ valY (expL x y) = y := by
  unfold expL dgs1
  split
  · rename_i h; obtain ⟨rfl, rfl⟩ := h; decide
  · exact val_dgsV _ x y rfl
/-- the expansion of a value, if it is short enough -/
def expB (x y : Int) : Bool := vldL (expL x y)
def expS (x y : Int) : ByteArray := selS (expB x y) (expL x y)
theorem expS_t {x y : Int} (h : expB x y = true) : vldB (expS x y) = true ∧ valX (toL (expS x y)) = x ∧ valY (toL (expS x y)) = y := by
  have e : toL (expS x y) = expL x y := by unfold expS selS; rw [h, if_pos rfl, toL_bs]
  refine ⟨by unfold vldB; rw [e]; exact h, ?_, ?_⟩ <;> rw [e]
  · exact (val_exp x y).1
  · exact (val_exp x y).2
/-- a valid text is the expansion of its value -/
theorem exp_of {s : ByteArray} (h : vldB s = true) : expB (valX (toL s)) (valY (toL s)) = true ∧ expS (valX (toL s)) (valY (toL s)) = s := by
  have e := vld_exp (l := toL s) h
  have hb : expB (valX (toL s)) (valY (toL s)) = true := by unfold expB; rw [← e]; exact h
  refine ⟨hb, ?_⟩
  unfold expS selS
  rw [hb, if_pos rfl, ← e, bs_toL]
theorem text_unique {s t : ByteArray} (h1 : vldB s = true) (h2 : vldB t = true) (hx : valX (toL s) = valX (toL t)) (hy : valY (toL s) = valY (toL t)) : s = t := toL_ext (vld_unique h1 h2 hx hy)
theorem sumR_strip {a b : ByteArray} (ha : vldB a = true) (hb : vldB b = true) : strip (sumR a b) = expL (valX (toL a) + valX (toL b)) (valY (toL a) + valY (toL b)) := by
  unfold sumR
  rw [if_neg (by
    intro e
    have h1 := outA_len (a := a) (b := b) (stepsA a b)
    have h2 := (steps_le ha hb).1
    rw [e] at h1; simp at h1; omega)]
  exact out_strip ha hb
theorem addOk_exp {a b : ByteArray} (ha : vldB a = true) (hb : vldB b = true) : addOk a b = expB (valX (toL a) + valX (toL b)) (valY (toL a) + valY (toL b)) := by
  unfold addOk; rw [ha, hb, sumR_strip ha hb]; rfl
theorem addS_exp {a b : ByteArray} (ha : vldB a = true) (hb : vldB b = true) : addS a b = expS (valX (toL a) + valX (toL b)) (valY (toL a) + valY (toL b)) := by
  unfold addS; rw [addOk_exp ha hb, sumR_strip ha hb]; rfl
theorem addV_exp {a b : ByteArray} (ha : vldB a = true) (hb : vldB b = true) : addV a b = .tuple #[.string (expS (valX (toL a) + valX (toL b)) (valY (toL a) + valY (toL b))), .bool (expB (valX (toL a) + valX (toL b)) (valY (toL a) + valY (toL b)))] := by
  rw [addV_eq, addS_exp ha hb, addOk_exp ha hb]
theorem expS_f {x y : Int} (h : expB x y = false) : expS x y = ⟨#[]⟩ := by unfold expS selS; rw [h]; rfl
/-- what a sum is: none, or the valid text with the sum of both values -/
theorem add_cases (a b : ByteArray) : addV a b = .tuple #[.string ⟨#[]⟩, .bool false] ∨ ∃ t : ByteArray, vldB a = true ∧ vldB b = true ∧ vldB t = true ∧ valX (toL t) = valX (toL a) + valX (toL b) ∧ valY (toL t) = valY (toL a) + valY (toL b) ∧ addV a b = .tuple #[.string t, .bool true] := by
  rcases Bool.eq_false_or_eq_true (vldB a) with ha | ha
  · rcases Bool.eq_false_or_eq_true (vldB b) with hb | hb
    · rcases Bool.eq_false_or_eq_true (expB (valX (toL a) + valX (toL b)) (valY (toL a) + valY (toL b))) with h | h
      · obtain ⟨h1, h2, h3⟩ := expS_t h
        exact Or.inr ⟨_, ha, hb, h1, h2, h3, by rw [addV_exp ha hb, h]⟩
      · exact Or.inl (by rw [addV_exp ha hb, h, expS_f h])
    · exact Or.inl (addV_no (Or.inr hb))
  · exact Or.inl (addV_no (Or.inl ha))
/-- two texts with a valid sum of values are added -/
theorem add_to {a b t : ByteArray} (ha : vldB a = true) (hb : vldB b = true) (ht : vldB t = true) (hx : valX (toL t) = valX (toL a) + valX (toL b)) (hy : valY (toL t) = valY (toL a) + valY (toL b)) : addV a b = .tuple #[.string t, .bool true] := by
  obtain ⟨h1, h2⟩ := exp_of ht
  rw [addV_exp ha hb, ← hx, ← hy, h1, h2]

/-! ### products -/
theorem shift_val {a : ByteArray} (z : Nat) : valX (toL (shiftB a z)) = pX z * valX (toL a) - pY z * valY (toL a) ∧ valY (toL (shiftB a z)) = pX z * valY (toL a) + pY z * valX (toL a) := by
  unfold shiftB
  split
  · rename_i h
    rw [h]
    have e1 : valX [48] = 0 := rfl
    have e2 : valY [48] = 0 := rfl
    rw [e1, e2]; simp
  · rw [toL_bs]; exact val_zeros _ z
/-- the value of the first digits of a text, the others taken for noughts -/
def wX (b : ByteArray) (i : Nat) : Int := valX ((toL b).take i ++ List.replicate (b.size - i) 48)
def wY (b : ByteArray) (i : Nat) : Int := valY ((toL b).take i ++ List.replicate (b.size - i) 48)
theorem w_zero (b : ByteArray) : wX b 0 = 0 ∧ wY b 0 = 0 := by
  unfold wX wY
  obtain ⟨h1, h2⟩ := val_zeros [] (b.size - 0)
  rw [List.take_zero, h1, h2, valX_nil, valY_nil]; simp
theorem w_all (b : ByteArray) : wX b b.size = valX (toL b) ∧ wY b b.size = valY (toL b) := by
  unfold wX wY
  rw [take_allB b b.size (Nat.le_refl _), Nat.sub_self]; simp
theorem w_step {b : ByteArray} {i : Nat} (h : i < b.size) : wX b (i + 1) = wX b i + pX (b.size - 1 - i) * dg b[i] ∧ wY b (i + 1) = wY b i + pY (b.size - 1 - i) * dg b[i] := by
  unfold wX wY
  obtain ⟨z, hz⟩ : ∃ z, b.size - i = z + 1 := ⟨b.size - i - 1, by omega⟩
  rw [hz, show b.size - (i + 1) = z by omega, show b.size - 1 - i = z by omega, take_snocB b i h]
  obtain ⟨h1, h2⟩ := val_zeros ((toL b).take i ++ [b[i]]) z
  obtain ⟨h3, h4⟩ := val_zeros ((toL b).take i) (z + 1)
  rw [h1, h2, h3, h4, valX_snoc, valY_snoc, pX_succ, pY_succ]
  constructor <;> grind
theorem tm_val {a b : ByteArray} (ha : vldB a = true) (hb : vldB b = true) : ∀ i, i ≤ b.size → ∀ t, tmO a b i = some t → vldB t = true ∧ valX (toL t) = valX (toL a) * wX b i - valY (toL a) * wY b i ∧ valY (toL t) = valX (toL a) * wY b i + valY (toL a) * wX b i := by
  intro i
  induction i with
  | zero =>
    intro _ t h
    obtain rfl : (⟨#[48]⟩ : ByteArray) = t := Option.some.inj h
    obtain ⟨h1, h2⟩ := w_zero b
    have e1 : valX (toL (⟨#[48]⟩ : ByteArray)) = 0 := rfl
    have e2 : valY (toL (⟨#[48]⟩ : ByteArray)) = 0 := rfl
    rw [h1, h2, e1, e2]
    exact ⟨by decide, by simp, by simp⟩
  | succ i ih =>
    intro hi t h
    have hlt : i < b.size := by omega
    obtain ⟨w1, w2⟩ := w_step hlt
    cases ht : tmO a b i with
    | none => unfold tmO at h; rw [ht] at h; simp at h
    | some t0 =>
      obtain ⟨i0, i1, i2⟩ := ih (by omega) t0 ht
      unfold tmO at h
      rw [ht, Option.bind_some, toL_getD hlt] at h
      by_cases h48 : b[i] = 48
      · rw [if_pos h48] at h
        obtain rfl := Option.some.inj h
        have hd : dg b[i] = 0 := by rw [h48]; rfl
        rw [w1, w2, hd]
        exact ⟨i0, by rw [i1]; simp, by rw [i2]; simp⟩
      · rw [if_neg h48] at h
        have hd : dg b[i] = 1 := by
          have := vldB_at hb i hlt
          have h2 : b[i].toNat ≠ 48 := fun e => h48 (UInt8.toNat_inj.1 (by rw [e]; rfl))
          unfold dg; omega
        by_cases hok : addOk t0 (shiftB a (b.size - 1 - i)) = true
        · rw [if_pos hok] at h
          obtain rfl := Option.some.inj h
          have hvs : vldB (shiftB a (b.size - 1 - i)) = true := by unfold addOk at hok; simp at hok; exact hok.1.2
          rw [addOk_exp i0 hvs] at hok
          obtain ⟨x1, x2, x3⟩ := expS_t hok
          obtain ⟨s1, s2⟩ := shift_val (a := a) (b.size - 1 - i)
          rw [addS_exp i0 hvs]
          refine ⟨x1, ?_, ?_⟩
          · rw [x2, i1, s1, w1, w2, hd]; grind
          · rw [x3, i2, s2, w1, w2, hd]; grind
        · rw [if_neg hok] at h; cases h
/-- what a product is: none, or the valid text with the product of both values -/
theorem times_cases (a b : ByteArray) : timesV a b = .tuple #[.string ⟨#[]⟩, .bool false] ∨ ∃ t : ByteArray, vldB a = true ∧ vldB b = true ∧ vldB t = true ∧ valX (toL t) = valX (toL a) * valX (toL b) - valY (toL a) * valY (toL b) ∧ valY (toL t) = valX (toL a) * valY (toL b) + valY (toL a) * valX (toL b) ∧ timesV a b = .tuple #[.string t, .bool true] ∧ tmO a b b.size = some t := by
  rcases Bool.eq_false_or_eq_true (vldB a) with ha | ha
  · rcases Bool.eq_false_or_eq_true (vldB b) with hb | hb
    · cases h : tmO a b b.size with
      | none => exact Or.inl (timesV_none ha hb h)
      | some t =>
        obtain ⟨h1, h2, h3⟩ := tm_val ha hb b.size (Nat.le_refl _) t h
        obtain ⟨e1, e2⟩ := w_all b
        rw [e1, e2] at h2 h3
        exact Or.inr ⟨t, ha, hb, h1, h2, h3, timesV_some ha hb h, rfl⟩
    · exact Or.inl (timesV_no (Or.inr hb))
  · exact Or.inl (timesV_no (Or.inl ha))
theorem times_comm {a b t u : ByteArray} (h1 : timesV a b = .tuple #[.string t, .bool true]) (h2 : timesV b a = .tuple #[.string u, .bool true]) : u = t := by
  rcases times_cases a b with h | ⟨t', ha, hb, ht, tx, ty, h, -⟩
  · rw [h1] at h; simp at h
  · rcases times_cases b a with k | ⟨u', hb', ha', hu, ux, uy, k, -⟩
    · rw [h2] at k; simp at k
    · rw [h1] at h
      rw [h2] at k
      simp at h k
      subst h; subst k
      exact text_unique hu ht (by rw [ux, tx]; grind) (by rw [uy, ty]; grind)
end Go.Proofs.YtlcafjdinjdllaaDoor

/- Binary numbers as texts: which they are, and the next one. Plain mathematics; no law is stated here. -/
import Derived.Test.YtaleeoghifcadaaDoorDNum
namespace Go.Proofs.YtaleeoghifcadaaDoor
set_option linter.unusedSimpArgs false
set_option linter.unusedVariables false

/-- a list of digits without a leading zero that is the number -/
def Good (l : List UInt8) (n : Int) : Prop := (∀ c ∈ l, bitC c = true) ∧ idxF l = n ∧ l.head? = some 49
theorem idx_pos : ∀ (l : List UInt8), (∀ c ∈ l, bitC c = true) → l.head? = some 49 → 1 ≤ idxF l := by
  intro l
  induction l using rev_ind with
  | h0 => intro _ h; simp at h
  | h1 l c ih =>
    intro hb hh
    have hc := dg_bit (hb c (by simp))
    rw [idxF_snoc]
    cases l with
    | nil =>
      simp at hh
      subst hh
      decide
    | cons a r =>
      have := ih (fun c hc => hb c (by simp at hc ⊢; rcases hc with h | h; exact Or.inl h; exact Or.inr (Or.inl h))) (by simpa using hh)
      omega
theorem good_unique : ∀ (l m : List UInt8) (n : Int), Good l n → Good m n → l = m := by
  intro l
  induction l using rev_ind with
  | h0 => intro m n h; simp [Good] at h
  | h1 l c ih =>
    intro m n h1 h2
    have key : ∃ m' d, m = m' ++ [d] := by
      induction m using rev_ind with
      | h0 => simp [Good] at h2
      | h1 m' d _ => exact ⟨m', d, rfl⟩
    obtain ⟨m', d, rfl⟩ := key
    obtain ⟨b1, i1, g1⟩ := h1
    obtain ⟨b2, i2, g2⟩ := h2
    rw [idxF_snoc] at i1 i2
    have hc := dg_bit (b1 c (by simp))
    have hd := dg_bit (b2 d (by simp))
    have e1 : dg c = dg d := by omega
    have e2 : idxF l = idxF m' := by omega
    have hcd : c = d := by rw [← bitc_dg (b1 c (by simp)), ← bitc_dg (b2 d (by simp)), e1]
    subst hcd
    cases hl : l with
    | nil =>
      cases hm : m' with
      | nil => rfl
      | cons a r =>
        exfalso
        have : 1 ≤ idxF m' := idx_pos m' (fun c hc => b2 c (by simp [hc])) (by rw [hm] at g2 ⊢; simpa using g2)
        rw [← e2, hl] at this
        simp [idxF] at this
    | cons a r =>
      cases hm : m' with
      | nil =>
        exfalso
        have : 1 ≤ idxF l := idx_pos l (fun c hc => b1 c (by simp [hc])) (by rw [hl] at g1 ⊢; simpa using g1)
        rw [e2, hm] at this
        simp [idxF] at this
      | cons a' r' =>
        rw [← hl, ← hm]
        rw [ih m' (idxF l) ⟨fun c hc => b1 c (by simp [hc]), rfl, by rw [hl] at g1 ⊢; simpa using g1⟩ ⟨fun c hc => b2 c (by simp [hc]), e2.symm, by rw [hm] at g2 ⊢; simpa using g2⟩]

/-- the binary digits of a number, so many and one, the highest first -/
def bl : Nat → Nat → List UInt8
  | 0, n => [bitc ((n % 2 : Nat) : Int)]
  | K + 1, n => bl K (n / 2) ++ [bitc ((n % 2 : Nat) : Int)]
theorem bl_len (K : Nat) : ∀ n, (bl K n).length = K + 1 := by
  induction K with
  | zero => intro n; rfl
  | succ K ih => intro n; simp [bl, ih]
theorem bl_bits (K : Nat) : ∀ n, ∀ c ∈ bl K n, bitC c = true := by
  induction K with
  | zero => intro n c h; simp [bl] at h; rw [h]; exact bitc_bit _
  | succ K ih =>
    intro n c h
    simp only [bl, List.mem_append, List.mem_singleton] at h
    rcases h with h | h
    · exact ih _ c h
    · rw [h]; exact bitc_bit _
theorem dg_bitm (n : Nat) : dg (bitc ((n % 2 : Nat) : Int)) = ((n % 2 : Nat) : Int) := dg_bitc (by omega)
theorem bl_idx (K : Nat) : ∀ n, n / 2 ^ K < 2 → idxF (bl K n) = n := by
  induction K with
  | zero =>
    intro n h
    rw [Nat.pow_zero, Nat.div_one] at h
    have : idxF (bl 0 n) = 2 * 0 + dg (bitc ((n % 2 : Nat) : Int)) := by simp [bl, idxF]
    rw [this, dg_bitm]; omega
  | succ K ih =>
    intro n h
    rw [Nat.pow_succ', ← Nat.div_div_eq_div_mul] at h
    simp only [bl]
    rw [idxF_snoc, ih _ h, dg_bitm]; omega
theorem bl_head (K : Nat) : ∀ n, n / 2 ^ K = 1 → (bl K n).head? = some 49 := by
  induction K with
  | zero => intro n h; rw [Nat.pow_zero, Nat.div_one] at h; subst h; rfl
  | succ K ih =>
    intro n h
    rw [Nat.pow_succ', ← Nat.div_div_eq_div_mul] at h
    have := ih _ h
    simp only [bl]
    rw [List.head?_append, this]; rfl
theorem bl_good {K n : Nat} (h : n / 2 ^ K = 1) : Good (bl K n) n := ⟨bl_bits K n, bl_idx K n (by omega), bl_head K n h⟩
theorem bl_at (K : Nat) : ∀ n t, t ≤ K → (bl K n)[t]? = some (bitc ((n / 2 ^ (K - t) % 2 : Nat) : Int)) := by
  induction K with
  | zero => intro n t h; obtain rfl : t = 0 := by omega
            simp [bl]
  | succ K ih =>
    intro n t h
    simp only [bl]
    by_cases ht : t ≤ K
    · rw [List.getElem?_append_left (by rw [bl_len]; omega), ih _ t ht, Nat.div_div_eq_div_mul, ← Nat.pow_succ', show (K - t).succ = K + 1 - t by omega]
    · obtain rfl : t = K + 1 := by omega
      rw [List.getElem?_append_right (by rw [bl_len]; omega), bl_len]
      simp

theorem idx_zeros (l : List UInt8) (m : Nat) : idxF (l ++ List.replicate m 48) = idxF l * (2 ^ m : Nat) := by
  induction m with
  | zero => simp
  | succ m ih =>
    rw [List.replicate_succ', ← List.append_assoc, idxF_snoc, ih, Nat.pow_succ]
    have : dg 48 = 0 := rfl
    rw [this]
    push_cast
    grind
theorem idx_ones (l : List UInt8) (m : Nat) : idxF (l ++ List.replicate m 49) + 1 = (idxF l + 1) * (2 ^ m : Nat) := by
  induction m with
  | zero => simp
  | succ m ih =>
    rw [List.replicate_succ', ← List.append_assoc, idxF_snoc, Nat.pow_succ]
    have : dg 49 = 1 := rfl
    rw [this]
    push_cast at ih ⊢
    grind
/-- what follows a text: the digits ahead of the last 0 (if there is one), 1, and zeros -/
def nextR (s : List UInt8) (k : Nat) : List UInt8 := s.take (k - 1) ++ [49] ++ List.replicate (s.length - k) 48
theorem next_good {s : List UInt8} {k : Nat} (hv : vldL s = true) (hk : k ≤ s.length) (h1 : ∀ j, k ≤ j → j < s.length → s[j]? = some 49) (h0 : 1 ≤ k → s[k - 1]? = some 48) : Good (nextR s k) (idxF s + 1) := by
  obtain ⟨l1, l2, l3, l4⟩ := (vldL_iff s).1 hv
  refine ⟨?_, ?_, ?_⟩
  · intro c hc
    simp only [nextR, List.mem_append, List.mem_singleton, List.mem_replicate] at hc
    rcases hc with (hc | hc) | hc
    · exact l4 c (List.mem_of_mem_take hc)
    · rw [hc]; rfl
    · rw [hc.2]; rfl
  · have hones : s = s.take k ++ List.replicate (s.length - k) 49 := by
      apply List.ext_getElem?
      intro j
      by_cases hj : j < k
      · rw [List.getElem?_append_left (by rw [List.length_take]; omega), List.getElem?_take, if_pos hj]
      · rw [List.getElem?_append_right (by rw [List.length_take]; omega), List.length_take]
        by_cases hjl : j < s.length
        · rw [h1 j (by omega) hjl, List.getElem?_replicate, if_pos (by omega)]
        · rw [List.getElem?_eq_none (by omega), List.getElem?_eq_none (by rw [List.length_replicate]; omega)]
    have e : idxF s + 1 = (idxF (s.take k) + 1) * (2 ^ (s.length - k) : Nat) := by
      conv => lhs; rw [hones]
      rw [idx_ones]
    rw [e]
    unfold nextR
    rw [idx_zeros, idxF_snoc]
    have d1 : dg 49 = 1 := rfl
    rw [d1]
    by_cases hk0 : 1 ≤ k
    · have : s.take k = s.take (k - 1) ++ [48] := by
        conv => lhs; rw [show k = k - 1 + 1 by omega]
        rw [List.take_add_one, h0 hk0]; rfl
      rw [this, idxF_snoc]
      have d0 : dg 48 = 0 := rfl
      rw [d0]; congr 1; omega
    · obtain rfl : k = 0 := by omega
      simp [idxF]
  · unfold nextR
    by_cases hk2 : 2 ≤ k
    · rcases l3 with h | h
      · rw [h] at hk; simp at hk; omega
      · cases s with
        | nil => simp at l1
        | cons c r =>
          have hc := l4 c (by simp)
          rw [bitC_iff] at hc
          have hc9 : c = 49 := by
            rcases hc with hc | hc
            · exfalso; apply h; simp; exact UInt8.toNat_inj.1 (by rw [hc]; rfl)
            · exact UInt8.toNat_inj.1 (by rw [hc]; rfl)
          obtain ⟨q, rfl⟩ : ∃ q, k = q + 2 := ⟨k - 2, by omega⟩
          simp [hc9]
    · have : s.take (k - 1) = [] := by rw [show k - 1 = 0 by omega]; rfl
      rw [this]; rfl
end Go.Proofs.YtaleeoghifcadaaDoor

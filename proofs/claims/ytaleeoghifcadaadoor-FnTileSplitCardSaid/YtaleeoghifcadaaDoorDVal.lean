/- Values of expansions: what adding and multiplying digit by digit does to them; one expansion a value. Plain mathematics; no law is stated here. -/
import Derived.Test.YtaleeoghifcadaaDoorDAdd
namespace Go.Proofs.YtaleeoghifcadaaDoor
set_option linter.unusedSimpArgs false
set_option linter.unusedVariables false

/-! ### powers of the base -/
def bX : Nat → Int × Int
  | 0 => (1, 0)
  | k + 1 => (-(bX k).1 - (bX k).2, (bX k).1 - (bX k).2)
def pX (k : Nat) : Int := (bX k).1
def pY (k : Nat) : Int := (bX k).2
theorem pX_zero : pX 0 = 1 := rfl
theorem pY_zero : pY 0 = 0 := rfl
theorem pX_succ (k : Nat) : pX (k + 1) = -pX k - pY k := rfl
theorem pY_succ (k : Nat) : pY (k + 1) = pX k - pY k := rfl
/-- one more digit ahead -/
theorem val_cons (d : UInt8) (l : List UInt8) : valX (d :: l) = valX l + pX l.length * dg d ∧ valY (d :: l) = valY l + pY l.length * dg d := by
  induction l using rev_ind with
  | h0 =>
    have e : (d :: [] : List UInt8) = [] ++ [d] := rfl
    rw [e, valX_snoc, valY_snoc, valX_nil, valY_nil]
    simp [pX_zero, pY_zero]
  | h1 l c ih =>
    have e : (d :: (l ++ [c]) : List UInt8) = (d :: l) ++ [c] := rfl
    rw [e, valX_snoc, valY_snoc, ih.1, ih.2, valX_snoc, valY_snoc, List.length_append, List.length_singleton, pX_succ, pY_succ]
    constructor <;> grind
/-- noughts behind -/
theorem val_zeros (l : List UInt8) (z : Nat) : valX (l ++ List.replicate z 48) = pX z * valX l - pY z * valY l ∧ valY (l ++ List.replicate z 48) = pX z * valY l + pY z * valX l := by
  induction z with
  | zero => simp [pX_zero, pY_zero]
  | succ z ih =>
    have e : l ++ List.replicate (z + 1) 48 = (l ++ List.replicate z 48) ++ [48] := by rw [List.replicate_succ', List.append_assoc]
    have h0 : dg 48 = 0 := rfl
    rw [e, valX_snoc, valY_snoc, ih.1, ih.2, pX_succ, pY_succ, h0]
    constructor <;> grind

/-! ### one expansion a value -/
theorem head_bit {l : List UInt8} (h : ∀ c ∈ l, bitC c = true) (hn : l ≠ []) (h48 : l.head? ≠ some 48) : l.head? = some 49 := by
  cases l with
  | nil => exact absurd rfl hn
  | cons a r =>
    have hc := (bitC_iff a).1 (h a (by simp))
    simp at h48 ⊢
    rcases hc with hc | hc
    · exact absurd (UInt8.toNat_inj.1 (by rw [hc]; rfl)) h48
    · exact UInt8.toNat_inj.1 (by rw [hc]; rfl)
theorem dgs_valV : ∀ (l : List UInt8), (∀ c ∈ l, bitC c = true) → (l = [] ∨ l.head? = some 49) → dgs (valX l) (valY l) = l.reverse := by
  intro l
  induction l using rev_ind with
  | h0 => intro _ _; rw [valX_nil, valY_nil, dgs_zero]; rfl
  | h1 l c ih =>
    intro hb hh
    have hc := dg_bit (hb c (by simp))
    have hbl : ∀ c ∈ l, bitC c = true := fun c hc => hb c (by simp [hc])
    have hhl : l = [] ∨ l.head? = some 49 := by
      cases l with
      | nil => exact Or.inl rfl
      | cons a r => right; rcases hh with h | h; simp at h; simpa using h
    have h := ih hbl hhl
    have hd : dg c = 0 ∨ dg c = 1 := by omega
    have hz : ¬ (valX (l ++ [c]) = 0 ∧ valY (l ++ [c]) = 0) := by
      rintro ⟨z1, z2⟩
      rw [valX_snoc] at z1
      rw [valY_snoc] at z2
      have e0 : valX l = 0 := by omega
      have e1 : valY l = 0 := by omega
      have e2 : dg c = 0 := by omega
      rw [e0, e1, dgs_zero] at h
      have hl : l = [] := by simpa using h.symm
      subst hl
      rcases hh with h | h
      · simp at h
      · simp at h; subst h; exact absurd e2 (by decide)
    rw [dgs_step hz, valX_snoc, valY_snoc, lastD_of _ _ _ hd, nX_of _ _ _ hd, nY_of _ _ _ hd, h, bitc_dg (hb c (by simp)), List.reverse_append]
    rfl
theorem valF_leadV (r : List UInt8) : valF (48 :: r) = valF r := by
  have h := val_cons 48 r
  have h0 : dg 48 = 0 := rfl
  rw [h0, Int.mul_zero, Int.add_zero, Int.mul_zero, Int.add_zero] at h
  exact Prod.ext h.1 h.2
theorem valF_stripV : ∀ l : List UInt8, valF (strip l) = valF l
  | [] => rfl
  | [c] => rfl
  | c :: d :: r => by
    unfold strip
    split
    · rename_i h; subst h; rw [valF_stripV (d :: r), valF_leadV]
    · rfl
/-- the expansion of a value -/
def expL (x y : Int) : List UInt8 := (dgs1 x y).reverse
theorem strip_val {l : List UInt8} (h : ∀ c ∈ l, bitC c = true) (hn : l ≠ []) : strip l = expL (valX l) (valY l) := by
  have e : valF (strip l) = valF l := valF_stripV l
  have ex : valX (strip l) = valX l := by unfold valX; rw [e]
  have ey : valY (strip l) = valY l := by unfold valY; rw [e]
  rw [← ex, ← ey]
  rcases strip_head (l := l) with h1 | h1
  · rw [h1]; decide
  · have hb := strip_bits h
    have hne := strip_ne hn
    have h2 := head_bit hb hne h1
    have h3 := dgs_valV (strip l) hb (Or.inr h2)
    unfold expL dgs1
    rw [if_neg (by
      rintro ⟨z1, z2⟩
      rw [z1, z2, dgs_zero] at h3
      exact hne (by simpa using h3.symm)), h3, List.reverse_reverse]
theorem strip_of_vld {l : List UInt8} (hv : vldL l = true) : strip l = l := by
  obtain ⟨l1, l2, l3, l4⟩ := (vldL_iff l).1 hv
  cases l with
  | nil => rfl
  | cons c r =>
    cases r with
    | nil => rfl
    | cons d r =>
      have : c ≠ 48 := by
        rcases l3 with h | h
        · simp at h
        · simpa using h
      simp [strip, this]
/-- a valid list is the expansion of its value -/
theorem vld_exp {l : List UInt8} (hv : vldL l = true) : l = expL (valX l) (valY l) := by
  obtain ⟨l1, l2, l3, l4⟩ := (vldL_iff l).1 hv
  rw [← strip_val l4 (by intro e; rw [e] at l1; simp at l1), strip_of_vld hv]
theorem vld_unique {l m : List UInt8} (h1 : vldL l = true) (h2 : vldL m = true) (hx : valX l = valX m) (hy : valY l = valY m) : l = m := by
  rw [vld_exp h1, vld_exp h2, hx, hy]

/-! ### sums -/
/-- the value of the last digits -/
def sX (s : ByteArray) : Nat → Int
  | 0 => 0
  | k + 1 => sX s k + pX k * (dR s k : Nat)
def sY (s : ByteArray) : Nat → Int
  | 0 => 0
  | k + 1 => sY s k + pY k * (dR s k : Nat)
theorem dR_get {s : ByteArray} (hv : vldB s = true) {k : Nat} (hk : k < s.size) : ((dR s k : Nat) : Int) = dg (s[s.size - 1 - k]) := by
  have := vldB_at hv (s.size - 1 - k) (by omega)
  unfold dR dg
  rw [dif_pos hk]; omega
theorem s_drop {s : ByteArray} (hv : vldB s = true) : ∀ k, k ≤ s.size → sX s k = valX ((toL s).drop (s.size - k)) ∧ sY s k = valY ((toL s).drop (s.size - k)) := by
  intro k
  induction k with
  | zero =>
    intro _
    rw [Nat.sub_zero, List.drop_of_length_le (by rw [toL_len]; omega)]
    exact ⟨rfl, rfl⟩
  | succ k ih =>
    intro hk
    obtain ⟨i1, i2⟩ := ih (by omega)
    have hlt : s.size - (k + 1) < (toL s).length := by rw [toL_len]; omega
    have e : (toL s).drop (s.size - (k + 1)) = s[s.size - 1 - k] :: (toL s).drop (s.size - k) := by
      rw [List.drop_eq_getElem_cons hlt, show s.size - (k + 1) + 1 = s.size - k by omega]
      congr 1
      have h1 := toL_get s (s.size - 1 - k) (by omega)
      have h2 := List.getElem?_eq_getElem hlt
      have h3 : (toL s)[s.size - (k + 1)]? = (toL s)[s.size - 1 - k]? := by congr 1; omega
      rw [h3, h1] at h2
      exact (Option.some.inj h2).symm
    have hl : ((toL s).drop (s.size - k)).length = k := by rw [List.length_drop, toL_len]; omega
    obtain ⟨v1, v2⟩ := val_cons (s[s.size - 1 - k]) ((toL s).drop (s.size - k))
    rw [hl] at v1 v2
    rw [e, v1, v2, ← i1, ← i2, ← dR_get hv (by omega)]
    exact ⟨rfl, rfl⟩
theorem s_all {s : ByteArray} (hv : vldB s = true) : ∀ j, sX s (s.size + j) = valX (toL s) ∧ sY s (s.size + j) = valY (toL s)
  | 0 => by
    have h := s_drop hv s.size (Nat.le_refl _)
    rw [Nat.sub_self, List.drop_zero] at h
    exact h
  | j + 1 => by
    have h := s_all hv j
    have h0 : dR s (s.size + j) = 0 := dR_beyond (by omega)
    show sX s (s.size + j) + pX (s.size + j) * (dR s (s.size + j) : Nat) = _ ∧ sY s (s.size + j) + pY (s.size + j) * (dR s (s.size + j) : Nat) = _
    rw [h0]
    exact ⟨by rw [h.1]; simp, by rw [h.2]; simp⟩
theorem s_ge {s : ByteArray} (hv : vldB s = true) {k : Nat} (h : s.size ≤ k) : sX s k = valX (toL s) ∧ sY s k = valY (toL s) := by
  obtain ⟨j, rfl⟩ : ∃ j, k = s.size + j := ⟨k - s.size, by omega⟩
  exact s_all hv j
variable {a b : ByteArray}
theorem out_val (ha : vldB a = true) (hb : vldB b = true) : ∀ k, sX a k + sX b k = valX (outA a b k).reverse + (pX k * rowX (stA a b k) - pY k * rowY (stA a b k)) ∧
    sY a k + sY b k = valY (outA a b k).reverse + (pX k * rowY (stA a b k) + pY k * rowX (stA a b k)) := by
  intro k
  induction k with
  | zero =>
    have rx : rowX 0 = 0 := rfl
    have ry : rowY 0 = 0 := rfl
    have e0 : stA a b 0 = 0 := rfl
    have e1 : outA a b 0 = [] := rfl
    have e2 : sX a 0 = 0 := rfl
    have e3 : sX b 0 = 0 := rfl
    have e4 : sY a 0 = 0 := rfl
    have e5 : sY b 0 = 0 := rfl
    rw [e0, e1, e2, e3, e4, e5, rx, ry, List.reverse_nil, valX_nil, valY_nil, pX_zero, pY_zero]
    decide
  | succ k ih =>
    obtain ⟨i1, i2⟩ := ih
    obtain ⟨r1, r2, r3, r4⟩ := row_step (stA_lt ha hb k) (sm_lt ha hb k)
    have bx := back_x (rowX (stA a b k) + (sm a b k : Nat)) (rowY (stA a b k))
    have by' := back_y (rowX (stA a b k) + (sm a b k : Nat)) (rowY (stA a b k))
    rw [r2, r3, r4] at bx
    rw [r3, r4] at by'
    have e1 : outA a b (k + 1) = outA a b k ++ [rowD (stA a b k) (sm a b k)] := rfl
    have e2 : stA a b (k + 1) = rowN (stA a b k) (sm a b k) := rfl
    have e3 : sX a (k + 1) = sX a k + pX k * (dR a k : Nat) := rfl
    have e4 : sX b (k + 1) = sX b k + pX k * (dR b k : Nat) := rfl
    have e5 : sY a (k + 1) = sY a k + pY k * (dR a k : Nat) := rfl
    have e6 : sY b (k + 1) = sY b k + pY k * (dR b k : Nat) := rfl
    obtain ⟨v1, v2⟩ := val_cons (rowD (stA a b k) (sm a b k)) (outA a b k).reverse
    rw [List.length_reverse, outA_len] at v1 v2
    have hs : ((sm a b k : Nat) : Int) = (dR a k : Nat) + (dR b k : Nat) := by unfold sm; omega
    rw [e1, e2, e3, e4, e5, e6, List.reverse_append, List.reverse_singleton, List.singleton_append, v1, v2, pX_succ, pY_succ]
    rw [hs] at bx
    generalize dg (rowD (stA a b k) (sm a b k)) = d at *
    generalize rowX (rowN (stA a b k) (sm a b k)) = X' at *
    generalize rowY (rowN (stA a b k) (sm a b k)) = Y' at *
    generalize rowX (stA a b k) = X at *
    generalize rowY (stA a b k) = Y at *
    generalize ((dR a k : Nat) : Int) = da at *
    generalize ((dR b k : Nat) : Int) = db at *
    generalize pX k = p at *
    generalize pY k = q at *
    clear e1 e2 e3 e4 e5 e6 r1 r2 r3 r4 v1 v2 hs
    have hX : X = -X' - Y' + d - da - db := by omega
    subst hX
    subst by'
    constructor
    · have : p * (-X' - Y' + d - da - db) - q * (X' - Y') + p * da + p * db = p * d + ((-p - q) * X' - (p - q) * Y') := by grind
      omega
    · have : p * (X' - Y') + q * (-X' - Y' + d - da - db) + q * da + q * db = q * d + ((-p - q) * Y' + (p - q) * X') := by grind
      omega
/-- the sum's digits have the sum of both values -/
theorem sum_val (ha : vldB a = true) (hb : vldB b = true) : valX (outA a b (stepsA a b)).reverse = valX (toL a) + valX (toL b) ∧ valY (outA a b (stepsA a b)).reverse = valY (toL a) + valY (toL b) := by
  obtain ⟨h1, h2⟩ := out_val ha hb (stepsA a b)
  obtain ⟨d1, d2⟩ := done_zero ha hb
  have hwa : a.size ≤ stepsA a b := Nat.le_trans (Nat.le_max_left _ _) d2
  have hwb : b.size ≤ stepsA a b := Nat.le_trans (Nat.le_max_right _ _) d2
  obtain ⟨a1, a2⟩ := s_ge ha hwa
  obtain ⟨b1, b2⟩ := s_ge hb hwb
  have rx : rowX 0 = 0 := rfl
  have ry : rowY 0 = 0 := rfl
  rw [d1, rx, ry] at h1 h2
  rw [a1, b1] at h1
  rw [a2, b2] at h2
  constructor
  · simpa using h1.symm
  · simpa using h2.symm
theorem out_strip (ha : vldB a = true) (hb : vldB b = true) : strip (outA a b (stepsA a b)).reverse = expL (valX (toL a) + valX (toL b)) (valY (toL a) + valY (toL b)) := by
  have hne : (outA a b (stepsA a b)).reverse ≠ [] := by
    intro e
    have h1 := outA_len (a := a) (b := b) (stepsA a b)
    have h2 := (steps_le ha hb).1
    have : outA a b (stepsA a b) = [] := by simpa using e
    rw [this] at h1; simp at h1; omega
  rw [strip_val (fun c hc => outA_bits (a := a) (b := b) _ c (by simpa using hc)) hne, (sum_val ha hb).1, (sum_val ha hb).2]
end Go.Proofs.YtaleeoghifcadaaDoor

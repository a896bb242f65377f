/- Chapter 6's tiles: what stands behind the last digits, and what ahead of them. Plain mathematics; no law is stated here. -/
import Derived.Test.YtaleeoghifcadaaDNum
import Derived.Test.YtaleeoghifcadaaCm
namespace Go.Proofs.Ytaleeoghifcadaa
set_option linter.unusedSimpArgs false
set_option linter.unusedVariables false

abbrev ZZ := Int × Int
/-- a digit behind a number -/
def sd (z : ZZ) (d : Int) : ZZ := (-z.1 - z.2 + d, z.1 - z.2)
def nx (z : ZZ) : ZZ := (nX z.1 z.2, nY z.1 z.2)
def ld (z : ZZ) : Int := lastD z.1 z.2
/-- what stands ahead of the last n digits -/
def qn : Nat → ZZ → ZZ
  | 0, z => z
  | n + 1, z => nx (qn n z)
/-- the powers of the base -/
def bpw : Nat → ZZ
  | 0 => (1, 0)
  | n + 1 => sd (bpw n) 0
/-- what the last n digits are -/
def rn : Nat → ZZ → ZZ
  | 0, _ => (0, 0)
  | n + 1, z => ((rn n z).1 + ld (qn n z) * (bpw n).1, (rn n z).2 + ld (qn n z) * (bpw n).2)
theorem ld_01 (z : ZZ) : ld z = 0 ∨ ld z = 1 := lastD_01 _ _
theorem nx_sd (z : ZZ) {d : Int} (hd : d = 0 ∨ d = 1) : nx (sd z d) = z := by
  obtain ⟨x, y⟩ := z
  exact Prod.ext (nX_of x y d hd) (nY_of x y d hd)
theorem ld_sd (z : ZZ) {d : Int} (hd : d = 0 ∨ d = 1) : ld (sd z d) = d := lastD_of z.1 z.2 d hd
theorem sd_nx (z : ZZ) : sd (nx z) (ld z) = z := by
  obtain ⟨x, y⟩ := z
  exact Prod.ext (back_x x y).symm (back_y x y).symm
theorem nx_zero : nx (0, 0) = (0, 0) := by decide
theorem ld_zero : ld (0, 0) = 0 := by decide
theorem sd_zero : sd (0, 0) 0 = (0, 0) := by decide
theorem qn_zero (n : Nat) : qn n (0, 0) = (0, 0) := by
  induction n with
  | zero => rfl
  | succ n ih => unfold qn; rw [ih]; exact nx_zero
theorem rn_zero (n : Nat) : rn n (0, 0) = (0, 0) := by
  induction n with
  | zero => rfl
  | succ n ih => unfold rn; rw [ih, qn_zero, ld_zero]; simp
theorem qn_nx (n : Nat) (z : ZZ) : qn n (nx z) = qn (n + 1) z := by
  induction n with
  | zero => rfl
  | succ n ih => show nx (qn n (nx z)) = nx (qn (n + 1) z); rw [ih]
theorem rn_back (n : Nat) (z : ZZ) : rn (n + 1) z = sd (rn n (nx z)) (ld z) := by
  induction n with
  | zero => simp [rn, bpw, sd, qn]
  | succ n ih =>
    have e : rn (n + 2) z = ((rn (n + 1) z).1 + ld (qn (n + 1) z) * (bpw (n + 1)).1, (rn (n + 1) z).2 + ld (qn (n + 1) z) * (bpw (n + 1)).2) := rfl
    have e2 : rn (n + 1) (nx z) = ((rn n (nx z)).1 + ld (qn n (nx z)) * (bpw n).1, (rn n (nx z)).2 + ld (qn n (nx z)) * (bpw n).2) := rfl
    rw [e, ih, e2, qn_nx]
    generalize ld (qn (n + 1) z) = e
    show ((sd (rn n (nx z)) (ld z)).1 + e * (sd (bpw n) 0).1, (sd (rn n (nx z)) (ld z)).2 + e * (sd (bpw n) 0).2) = _
    unfold sd
    refine Prod.ext ?_ ?_
    · simp only [Int.mul_add, Int.mul_sub, Int.mul_neg, Int.mul_zero]; omega
    · simp only [Int.mul_sub]; omega
theorem valF_snoc (l : List UInt8) (c : UInt8) : valF (l ++ [c]) = sd (valF l) (dg c) := by simp [valF, sd]
theorem valF_nil : valF [] = (0, 0) := rfl
theorem val_XY (l : List UInt8) : valF l = (valX l, valY l) := rfl

/-! ### the digits of a number -/
def dgz (z : ZZ) : List UInt8 := dgs z.1 z.2
theorem dgz_zero : dgz (0, 0) = [] := dgs_zero
theorem dgz_step {z : ZZ} (hz : z ≠ (0, 0)) : dgz z = bitc (ld z) :: dgz (nx z) := dgs_step (fun h => hz (Prod.ext h.1 h.2))
theorem dgz_nil {z : ZZ} (h : dgz z = []) : z = (0, 0) := by
  apply Classical.byContradiction
  intro hz
  rw [dgz_step hz] at h
  cases h
theorem dgz_drop (n : Nat) (z : ZZ) : (dgz z).drop n = dgz (qn n z) := by
  induction n with
  | zero => rfl
  | succ n ih =>
    rw [← List.drop_drop (i := 1), ih]
    show (dgz (qn n z)).drop 1 = dgz (nx (qn n z))
    by_cases hz : qn n z = (0, 0)
    · rw [hz, nx_zero, dgz_zero]; rfl
    · rw [dgz_step hz]; rfl
theorem dgz_len (n : Nat) (z : ZZ) : (dgz z).length ≤ n ↔ qn n z = (0, 0) := by
  rw [← List.drop_eq_nil_iff, dgz_drop]
  exact ⟨dgz_nil, fun h => by rw [h]; exact dgz_zero⟩
theorem val_take (n : Nat) : ∀ z : ZZ, valF ((dgz z).take n).reverse = rn n z := by
  induction n with
  | zero => intro z; rfl
  | succ n ih =>
    intro z
    by_cases hz : z = (0, 0)
    · subst hz; rw [dgz_zero, rn_zero]; rfl
    · rw [dgz_step hz, List.take_succ_cons, List.reverse_cons, valF_snoc, ih, rn_back, dg_bitc (ld_01 z)]
theorem val_dgz : ∀ (n : Nat) (z : ZZ), ms z.1 z.2 = n → valF (dgz z).reverse = z := by
  intro n
  induction n using Nat.strongRecOn with
  | ind n ih =>
    intro z hn
    by_cases hz : z = (0, 0)
    · subst hz; rw [dgz_zero]; rfl
    · have hl := ms_less (x := z.1) (y := z.2) (fun h => hz (Prod.ext h.1 h.2))
      rw [dgz_step hz, List.reverse_cons, valF_snoc, ih _ (by rw [← hn]; exact hl) (nx z) rfl, dg_bitc (ld_01 z), sd_nx]
theorem val_drop (n : Nat) (z : ZZ) : valF ((dgz z).drop n).reverse = qn n z := by
  rw [dgz_drop]; exact val_dgz _ _ rfl

/-! ### the numbers of a tile -/
def tp : Nat → Nat → ZZ
  | 0, _ => (0, 0)
  | n + 1, i => sd (tp n (i / 2)) ((i % 2 : Nat) : Int)
def ix : Nat → ZZ → Nat
  | 0, _ => 0
  | n + 1, z => 2 * ix n (nx z) + (ld z).toNat
theorem bit01 (i : Nat) : ((i % 2 : Nat) : Int) = 0 ∨ ((i % 2 : Nat) : Int) = 1 := by omega
theorem qn_tp (n : Nat) : ∀ i, qn n (tp n i) = (0, 0) := by
  induction n with
  | zero => intro i; rfl
  | succ n ih => intro i; rw [← qn_nx]; show qn n (nx (sd _ _)) = _; rw [nx_sd _ (bit01 i)]; exact ih _
theorem ix_tp (n : Nat) : ∀ i, i < 2 ^ n → ix n (tp n i) = i := by
  induction n with
  | zero => intro i h; simp at h; subst h; rfl
  | succ n ih =>
    intro i h
    show 2 * ix n (nx (sd _ _)) + (ld (sd _ _)).toNat = i
    rw [nx_sd _ (bit01 i), ld_sd _ (bit01 i), ih _ (by rw [Nat.pow_succ] at h; omega)]
    omega
theorem tp_ix (n : Nat) : ∀ z, qn n z = (0, 0) → tp n (ix n z) = z := by
  induction n with
  | zero => intro z h; exact h.symm
  | succ n ih =>
    intro z h
    rw [← qn_nx] at h
    show sd (tp n ((2 * ix n (nx z) + (ld z).toNat) / 2)) (((2 * ix n (nx z) + (ld z).toNat) % 2 : Nat) : Int) = z
    have h1 : (2 * ix n (nx z) + (ld z).toNat) / 2 = ix n (nx z) := by rcases ld_01 z with e | e <;> rw [e] <;> simp <;> omega
    have h2 : (((2 * ix n (nx z) + (ld z).toNat) % 2 : Nat) : Int) = ld z := by rcases ld_01 z with e | e <;> rw [e] <;> simp
    rw [h1, h2, ih _ h, sd_nx]
theorem ix_lt (n : Nat) : ∀ z, ix n z < 2 ^ n := by
  induction n with
  | zero => intro z; simp [ix]
  | succ n ih =>
    intro z
    have := ih (nx z)
    rw [Nat.pow_succ]
    show 2 * ix n (nx z) + (ld z).toNat < _
    rcases ld_01 z with e | e <;> rw [e] <;> simp <;> omega
theorem tp_inj {n i j : Nat} (hi : i < 2 ^ n) (hj : j < 2 ^ n) (h : tp n i = tp n j) : i = j := by
  rw [← ix_tp n i hi, ← ix_tp n j hj, h]
theorem idxF_nn (l : List UInt8) (h : ∀ c ∈ l, bitC c = true) : 0 ≤ idxF l := (idx_le l h).1
theorem val_tp : ∀ (l : List UInt8), (∀ c ∈ l, bitC c = true) → ∀ n, idxF l < (2 ^ n : Nat) → valF l = tp n (idxF l).toNat := by
  intro l
  induction l using rev_ind with
  | h0 =>
    intro _ n _
    have : tp n 0 = (0, 0) := by
      induction n with
      | zero => rfl
      | succ n ih => show sd (tp n 0) 0 = _; rw [ih (by show (0 : Int) < ((2 ^ n : Nat) : Int); have := Nat.two_pow_pos n; omega)]; rfl
    exact this.symm
  | h1 l c ih =>
    intro hb n hn
    have hbl : ∀ d ∈ l, bitC d = true := fun d hd => hb d (by simp [hd])
    have h0 := idxF_nn l hbl
    have hc := dg_bit (hb c (by simp))
    rw [idxF_snoc] at hn ⊢
    rw [valF_snoc]
    cases n with
    | zero =>
      simp at hn
      have e1 : idxF l = 0 := by omega
      have e2 : dg c = 0 := by omega
      have h1 := ih hbl 0 (by rw [e1]; decide)
      rw [h1, e2]; rfl
    | succ n =>
      have hn2 : idxF l < (2 ^ n : Nat) := by
        have : ((2 ^ (n + 1) : Nat) : Int) = 2 * ((2 ^ n : Nat) : Int) := by rw [Nat.pow_succ]; omega
        rw [this] at hn; omega
      rw [ih hbl n hn2]
      show _ = sd (tp n ((2 * idxF l + dg c).toNat / 2)) _
      rw [show (2 * idxF l + dg c).toNat / 2 = (idxF l).toNat by omega, show (((2 * idxF l + dg c).toNat % 2 : Nat) : Int) = dg c by omega]
def allT : Nat → List ZZ
  | 0 => [(0, 0)]
  | n + 1 => allT n ++ (allT n).map (fun z => addP z (bpw n))
theorem allT_all : ∀ n ∈ List.range 9, allT n = (List.range (2 ^ n)).map (tp n) := by decide +kernel
theorem allT_tp {n : Nat} (h : n ≤ 8) : allT n = (List.range (2 ^ n)).map (tp n) := allT_all n (by simp; omega)
theorem allT_len (n : Nat) : (allT n).length = 2 ^ n := by
  induction n with
  | zero => rfl
  | succ n ih => simp [allT, ih, Nat.pow_succ]; omega
theorem tp_all : ∀ n ∈ List.range 9, ∀ i ∈ List.range (2 ^ n), (tp n i).1.natAbs ≤ 200 ∧ (tp n i).2.natAbs ≤ 200 := by decide +kernel
theorem tp_in {n i : Nat} (h : n ≤ 8) (hi : i < 2 ^ n) : (tp n i).1.natAbs ≤ 200 ∧ (tp n i).2.natAbs ≤ 200 := tp_all n (by simp; omega) i (by simp; exact hi)
theorem bpw_all : ∀ n ∈ List.range 14, (bpw n).1.natAbs ≤ 4096 ∧ (bpw n).2.natAbs ≤ 4096 := by decide +kernel
theorem bpw_in {n : Nat} (h : n ≤ 13) : (bpw n).1.natAbs ≤ 4096 ∧ (bpw n).2.natAbs ≤ 4096 := bpw_all n (by simp; omega)
theorem rn_in (z : ZZ) : ∀ n, n ≤ 13 → (rn n z).1.natAbs ≤ 4096 * n ∧ (rn n z).2.natAbs ≤ 4096 * n := by
  intro n
  induction n with
  | zero => intro _; simp [rn]
  | succ n ih =>
    intro h
    have h1 := ih (by omega)
    have h2 := bpw_in (n := n) (by omega)
    unfold rn
    rcases ld_01 (qn n z) with e | e <;> rw [e] <;> simp <;> omega
theorem val_one (k : Nat) : valF (49 :: List.replicate k 48) = bpw k := by
  induction k with
  | zero => decide
  | succ k ih =>
    rw [List.replicate_succ', ← List.cons_append, valF_snoc, ih]; rfl
theorem qn_in {k : Int} {z : ZZ} (h1 : -k ≤ z.1 ∧ z.1 ≤ k) (h2 : -k ≤ z.2 ∧ z.2 ≤ k) (n : Nat) : (-k ≤ (qn n z).1 ∧ (qn n z).1 ≤ k) ∧ (-k ≤ (qn n z).2 ∧ (qn n z).2 ≤ k) := by
  induction n with
  | zero => exact ⟨h1, h2⟩
  | succ n ih => exact next_in ih.1 ih.2
end Go.Proofs.Ytaleeoghifcadaa

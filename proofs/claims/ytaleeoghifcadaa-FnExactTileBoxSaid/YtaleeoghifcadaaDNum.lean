/- Last digits and what is left: expansions of numbers. Plain mathematics; no law is stated here. -/
import Derived.Test.YtaleeoghifcadaaDMath
namespace Go.Proofs.Ytaleeoghifcadaa
set_option linter.unusedSimpArgs false
set_option linter.unusedVariables false

def lastD (x y : Int) : Int := (x + y) % 2
def nX (x y : Int) : Int := (y - (x - lastD x y)) / 2
def nY (x y : Int) : Int := (-(x - lastD x y) - y) / 2
theorem lastD_01 (x y : Int) : lastD x y = 0 ∨ lastD x y = 1 := by unfold lastD; omega
theorem two_nX (x y : Int) : 2 * nX x y = y - (x - lastD x y) := by unfold nX lastD; omega
theorem two_nY (x y : Int) : 2 * nY x y = -(x - lastD x y) - y := by unfold nY lastD; omega
/-- a number is its last digit and b times the rest -/
theorem back_x (x y : Int) : x = -nX x y - nY x y + lastD x y := by have := two_nX x y; have := two_nY x y; omega
theorem back_y (x y : Int) : y = nX x y - nY x y := by have := two_nX x y; have := two_nY x y; omega
theorem lastD_of (x y d : Int) (hd : d = 0 ∨ d = 1) : lastD (-x - y + d) (x - y) = d := by unfold lastD; omega
theorem nX_of (x y d : Int) (hd : d = 0 ∨ d = 1) : nX (-x - y + d) (x - y) = x := by have := two_nX (-x - y + d) (x - y); rw [lastD_of x y d hd] at this; omega
theorem nY_of (x y d : Int) (hd : d = 0 ∨ d = 1) : nY (-x - y + d) (x - y) = y := by have := two_nY (-x - y + d) (x - y); rw [lastD_of x y d hd] at this; omega
theorem next_in {x y : Int} {k : Int} (hx : -k ≤ x ∧ x ≤ k) (hy : -k ≤ y ∧ y ≤ k) : (-k ≤ nX x y ∧ nX x y ≤ k) ∧ (-k ≤ nY x y ∧ nY x y ≤ k) := by
  have := two_nX x y; have := two_nY x y; have := lastD_01 x y; omega

def nm (x y : Int) : Int := x * x + y * y
theorem nm_next (x y : Int) : 2 * nm (nX x y) (nY x y) = (x - lastD x y) * (x - lastD x y) + y * y := by
  have h1 := two_nX x y
  have h2 := two_nY x y
  generalize nX x y = a at *
  generalize nY x y = b at *
  generalize hu : x - lastD x y = u at *
  have e1 : u = -a - b := by omega
  have e2 : y = a - b := by omega
  subst e2
  rw [e1]
  unfold nm
  grind
theorem sqr_ge (x : Int) : 0 ≤ x * x := by rcases Int.le_total 0 x with h | h; exact Int.mul_nonneg h h; exact Int.mul_nonneg_of_nonpos_of_nonpos h h
theorem nm_less {x y : Int} (h : 6 ≤ nm x y) : nm (nX x y) (nY x y) < nm x y ∧ 0 ≤ nm (nX x y) (nY x y) := by
  have h1 := nm_next x y
  have h0 : 0 ≤ nm (nX x y) (nY x y) := by have := sqr_ge (nX x y); have := sqr_ge (nY x y); unfold nm; omega
  refine ⟨?_, h0⟩
  rcases lastD_01 x y with hd | hd
  · rw [hd, Int.sub_zero] at h1; unfold nm at *; omega
  · rw [hd] at h1
    have e : (x - 1) * (x - 1) = x * x - 2 * x + 1 := by grind
    rw [e] at h1
    have k : -2 * x + 1 < nm x y := by
      by_cases hx : x ≤ -3
      · have : 0 ≤ (-x - 3) * (-x) := Int.mul_nonneg (by omega) (by omega)
        have e2 : (-x - 3) * (-x) = x * x + 3 * x := by grind
        have := sqr_ge y
        unfold nm; omega
      · omega
    unfold nm at *; omega
def cntS : Nat → Int → Int → Nat
  | 0, _, _ => 0
  | f + 1, x, y => if x = 0 ∧ y = 0 then 0 else cntS f (nX x y) (nY x y) + 1
theorem cntS_le : ∀ f x y, cntS f x y ≤ f
  | 0, _, _ => Nat.le_refl _
  | f + 1, x, y => by unfold cntS; split; omega; have := cntS_le f (nX x y) (nY x y); omega
/-- how many rounds, at most -/
def ms (x y : Int) : Nat := if 6 ≤ nm x y then (nm x y).toNat + 100 else cntS 20 x y
theorem small_all : ∀ a : Fin 5, ∀ b : Fin 5, let x : Int := (a.val : Int) - 2; let y : Int := (b.val : Int) - 2; nm x y < 6 → ¬ (x = 0 ∧ y = 0) → nm (nX x y) (nY x y) < 6 ∧ cntS 20 (nX x y) (nY x y) < cntS 20 x y := by decide +kernel
theorem small_in {x y : Int} (h : nm x y < 6) : (-2 ≤ x ∧ x ≤ 2) ∧ (-2 ≤ y ∧ y ≤ 2) := by
  have key : ∀ a b : Int, a * a + b * b < 6 → -2 ≤ a ∧ a ≤ 2 := by
    intro a b h
    have hb := sqr_ge b
    have h1 : a < 3 := by
      apply Int.lt_of_not_ge; intro h3
      have := Int.mul_le_mul h3 h3 (by omega) (by omega); omega
    have h2 : -3 < a := by
      apply Int.lt_of_not_ge; intro h3
      have h4 : 3 ≤ -a := by omega
      have := Int.mul_le_mul h4 h4 (by omega) (by omega)
      rw [Int.neg_mul_neg] at this; omega
    omega
  exact ⟨key x y h, key y x (by unfold nm at h; omega)⟩
theorem ms_less {x y : Int} (hz : ¬ (x = 0 ∧ y = 0)) : ms (nX x y) (nY x y) < ms x y := by
  by_cases h : 6 ≤ nm x y
  · obtain ⟨h1, h2⟩ := nm_less h
    unfold ms
    rw [if_pos h]
    split
    · omega
    · have := cntS_le 20 (nX x y) (nY x y); omega
  · obtain ⟨h1, h2⟩ := small_in (Int.not_le.1 h)
    have := small_all ⟨(x + 2).toNat, by omega⟩ ⟨(y + 2).toNat, by omega⟩
    simp only [show ((x + 2).toNat : Int) - 2 = x by omega, show ((y + 2).toNat : Int) - 2 = y by omega] at this
    obtain ⟨h3, h4⟩ := this (Int.not_le.1 h) hz
    unfold ms
    rw [if_neg h, if_neg (Int.not_le.2 h3)]
    exact h4

/-- the byte of a digit -/
def bitc (d : Int) : UInt8 := if d = 0 then 48 else 49
theorem bitc_bit (d : Int) : bitC (bitc d) = true := by unfold bitc; split <;> rfl
theorem dg_bitc {d : Int} (h : d = 0 ∨ d = 1) : dg (bitc d) = d := by rcases h with rfl | rfl <;> rfl
theorem bitc_dg {c : UInt8} (h : bitC c = true) : bitc (dg c) = c := by
  rw [bitC_iff] at h
  unfold bitc dg
  rcases h with h | h
  · rw [if_pos (by omega)]; exact UInt8.toNat_inj.1 (by rw [h]; rfl)
  · rw [if_neg (by omega)]; exact UInt8.toNat_inj.1 (by rw [h]; rfl)
def dgsF : Nat → Int → Int → List UInt8
  | 0, _, _ => []
  | f + 1, x, y => if x = 0 ∧ y = 0 then [] else bitc (lastD x y) :: dgsF f (nX x y) (nY x y)
/-- the digits of a number, from the last one on; none for 0 -/
def dgs (x y : Int) : List UInt8 := dgsF (ms x y) x y
theorem dgsF_ms : ∀ (f : Nat) (x y : Int), ms x y ≤ f → dgsF f x y = dgs x y := by
  have key : ∀ (n : Nat) (x y : Int), ms x y = n → ∀ f g, n ≤ f → n ≤ g → dgsF f x y = dgsF g x y := by
    intro n
    induction n using Nat.strongRecOn with
    | ind n ih =>
      intro x y hn f g hf hg
      by_cases hz : x = 0 ∧ y = 0
      · cases f <;> cases g <;> simp [dgsF, hz]
      · have hl := ms_less hz
        obtain ⟨f', rfl⟩ : ∃ f', f = f' + 1 := ⟨f - 1, by omega⟩
        obtain ⟨g', rfl⟩ : ∃ g', g = g' + 1 := ⟨g - 1, by omega⟩
        simp only [dgsF, if_neg hz]
        rw [ih _ (by omega) _ _ rfl f' g' (by omega) (by omega)]
  intro f x y h
  exact key _ x y rfl f _ h (Nat.le_refl _)
theorem dgs_zero : dgs 0 0 = [] := by unfold dgs; cases ms 0 0 <;> simp [dgsF]
theorem dgs_step {x y : Int} (hz : ¬ (x = 0 ∧ y = 0)) : dgs x y = bitc (lastD x y) :: dgs (nX x y) (nY x y) := by
  rw [← dgsF_ms (ms x y + 1) x y (by omega)]
  simp only [dgsF, if_neg hz]
  rw [dgsF_ms _ _ _ (by have := ms_less hz; omega)]
theorem dgs_bits (x y : Int) : ∀ c ∈ dgs x y, bitC c = true := by
  have key : ∀ (f : Nat) (x y : Int), ∀ c ∈ dgsF f x y, bitC c = true := by
    intro f
    induction f with
    | zero => intro x y c h; simp [dgsF] at h
    | succ f ih =>
      intro x y c h
      simp only [dgsF] at h
      split at h
      · simp at h
      · rcases List.mem_cons.1 h with h | h
        · rw [h]; exact bitc_bit _
        · exact ih _ _ c h
  exact key _ x y
theorem dgs_len_le (x y : Int) : (dgs x y).length ≤ ms x y := by
  have key : ∀ (f : Nat) (x y : Int), (dgsF f x y).length ≤ f := by
    intro f
    induction f with
    | zero => intro x y; simp [dgsF]
    | succ f ih => intro x y; simp only [dgsF]; split <;> simp [ih]
  exact key _ x y
/-- the digits as they are written: at least one -/
def dgs1 (x y : Int) : List UInt8 := if x = 0 ∧ y = 0 then [48] else dgs x y
theorem dgs1_step (x y : Int) : dgs1 x y = bitc (lastD x y) :: dgs (nX x y) (nY x y) := by
  unfold dgs1
  by_cases hz : x = 0 ∧ y = 0
  · obtain ⟨rfl, rfl⟩ := hz
    simp [lastD, nX, nY, bitc, dgs_zero]
  · rw [if_neg hz, dgs_step hz]

/-! ### leading zeros -/
def strip : List UInt8 → List UInt8
  | c :: d :: r => if c = 48 then strip (d :: r) else c :: d :: r
  | l => l
def drop0 (l : List UInt8) : List UInt8 := l.dropWhile (· == 48)
theorem strip_bits {l : List UInt8} (h : ∀ c ∈ l, bitC c = true) : ∀ c ∈ strip l, bitC c = true := by
  induction l with
  | nil => exact h
  | cons c r ih =>
    cases r with
    | nil => exact h
    | cons d r =>
      unfold strip
      split
      · exact ih fun c hc => h c (List.mem_cons_of_mem _ hc)
      · exact h
theorem strip_ne {l : List UInt8} (h : l ≠ []) : strip l ≠ [] := by
  induction l with
  | nil => exact absurd rfl h
  | cons c r ih =>
    cases r with
    | nil => simp [strip]
    | cons d r =>
      unfold strip
      split
      · exact ih (by simp)
      · simp
theorem strip_head {l : List UInt8} : strip l = [48] ∨ (strip l).head? ≠ some 48 := by
  induction l with
  | nil => simp [strip]
  | cons c r ih =>
    cases r with
    | nil => simp [strip]; by_cases h : c = 48 <;> simp [h]
    | cons d r =>
      unfold strip
      split
      · exact ih
      · right; simpa using ‹¬c = 48›
theorem strip_drop0 {l : List UInt8} (h : l ≠ []) : strip l = if drop0 l = [] then [48] else drop0 l := by
  induction l with
  | nil => exact absurd rfl h
  | cons c r ih =>
    cases r with
    | nil =>
      by_cases hc : c = 48
      · subst hc; simp [strip, drop0]
      · simp [strip, drop0, hc]
    | cons d r =>
      unfold strip
      by_cases hc : c = 48
      · subst hc
        have e : drop0 (48 :: d :: r) = drop0 (d :: r) := by simp [drop0]
        rw [if_pos rfl, ih (by simp), e]
      · rw [if_neg hc]
        simp [drop0, hc]
theorem vldL_strip {l : List UInt8} (h : ∀ c ∈ l, bitC c = true) (hn : l ≠ []) : vldL (strip l) = decide ((strip l).length ≤ 50) := by
  rw [Bool.eq_iff_iff, vldL_iff, decide_eq_true_eq]
  exact ⟨fun h => h.2.1, fun h2 => ⟨List.length_pos_iff.2 (strip_ne hn), h2, strip_head, strip_bits h⟩⟩
def selS (b : Bool) (l : List UInt8) : ByteArray := if b then bs l else bs []
end Go.Proofs.Ytaleeoghifcadaa

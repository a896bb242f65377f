/- Chapter 6: the expansion of a small number has at most 46 digits, and it is split at a level. No law is stated here. -/
import Derived.Test.YtaleeoghifcadaaDoorTl
import Derived.Test.YtaleeoghifcadaaDoorTt
import Derived.Test.YtaleeoghifcadaaDoorDe3
import Derived.Test.YtaleeoghifcadaaDoorDr
namespace Go.Proofs.YtaleeoghifcadaaDoor
set_option linter.unusedSimpArgs false
set_option linter.unusedVariables false
open Go.RowKit

def InZ (B : Int) (z : ZZ) : Prop := (-B ≤ z.1 ∧ z.1 ≤ B) ∧ (-B ≤ z.2 ∧ z.2 ≤ B)
theorem two_in {B C : Int} (hC : B + 1 ≤ 2 * C + 1) {z : ZZ} (h : InZ B z) : InZ C (nx (nx z)) := by
  obtain ⟨x, y⟩ := z
  obtain ⟨⟨a, b⟩, c, d⟩ := h
  have h1 := two_nX x y
  have h2 := two_nY x y
  have e := lastD_01 x y
  have h3 := two_nX (nX x y) (nY x y)
  have h4 := two_nY (nX x y) (nY x y)
  have e2 := lastD_01 (nX x y) (nY x y)
  show InZ C (nX (nX x y) (nY x y), nY (nX x y) (nY x y))
  unfold InZ
  dsimp only at a b c d ⊢
  omega
def halfs : Nat → Int → Int
  | 0, B => B
  | n + 1, B => halfs n ((B + 1) / 2)
theorem halfs_in : ∀ (k : Nat) (B : Int) (z : ZZ), InZ B z → InZ (halfs k B) (qn (2 * k) z) := by
  intro k
  induction k with
  | zero => intro B z h; exact h
  | succ k ih =>
    intro B z h
    have := ih ((B + 1) / 2) (nx (nx z)) (two_in (by omega) h)
    rw [qn_nx, qn_nx] at this
    exact this
theorem nine : ∀ a ∈ [-1, 0, 1], ∀ b ∈ [-1, 0, 1], qn 6 (a, b) = (0, 0) := by decide +kernel
theorem qn_add (m : Nat) (z : ZZ) : ∀ n, qn (n + m) z = qn n (qn m z) := by
  intro n
  induction n with
  | zero => rw [Nat.zero_add]; rfl
  | succ n ih => rw [Nat.add_right_comm]; show nx (qn (n + m) z) = nx (qn n (qn m z)); rw [ih]
theorem small_46 {x y : Int} (h : inB 1000000 x y = true) : qn 46 (x, y) = (0, 0) := by
  have h1 := inB_le h
  have h2 := halfs_in 20 1000000 (x, y) ⟨⟨h1.1, h1.2.1⟩, h1.2.2⟩
  rw [show halfs 20 1000000 = 1 by decide] at h2
  rw [show (46 : Nat) = 6 + 2 * 20 from rfl, qn_add]
  generalize qn (2 * 20) (x, y) = z at *
  obtain ⟨a, b⟩ := z
  obtain ⟨⟨a1, a2⟩, b1, b2⟩ := h2
  dsimp only at a1 a2 b1 b2
  exact nine a (by have : a = -1 ∨ a = 0 ∨ a = 1 := by omega
                   simpa using this) b (by have : b = -1 ∨ b = 0 ∨ b = 1 := by omega
                                           simpa using this)
theorem dgz_head : ∀ (n : Nat) (z : ZZ), ms z.1 z.2 = n → z ≠ (0, 0) → (dgz z).reverse.head? = some 49 := by
  intro n
  induction n using Nat.strongRecOn with
  | ind n ih =>
    intro z hn hz
    have hl := ms_less (x := z.1) (y := z.2) (fun h => hz (Prod.ext h.1 h.2))
    rw [dgz_step hz, List.reverse_cons]
    by_cases h0 : nx z = (0, 0)
    · have e := sd_nx z
      rw [h0] at e
      rw [h0, dgz_zero]
      rcases ld_01 z with hd | hd
      · rw [hd, sd_zero] at e; exact absurd e.symm hz
      · rw [hd]; rfl
    · have := ih _ (by rw [← hn]; exact hl) (nx z) rfl h0
      rw [List.head?_append, this]; rfl
/-- the digits of a number, from the first one on -/
def txL (x y : Int) : List UInt8 := (dgs1 x y).reverse
def txB (x y : Int) : ByteArray := bs (txL x y)
theorem txL_eq (x y : Int) : txL x y = if (x, y) = ((0, 0) : ZZ) then [48] else (dgz (x, y)).reverse := by
  unfold txL dgs1
  by_cases h : x = 0 ∧ y = 0
  · rw [if_pos h, if_pos (Prod.ext h.1 h.2)]; rfl
  · rw [if_neg h, if_neg (fun e => h ⟨congrArg Prod.fst e, congrArg Prod.snd e⟩)]; rfl
theorem txL_bits (x y : Int) : ∀ c ∈ txL x y, bitC c = true := by
  rw [txL_eq]
  split
  · intro c hc; simp at hc; subst hc; rfl
  · intro c hc; exact dgs_bits x y c (show c ∈ dgz (x, y) by simpa using hc)
theorem txL_len {x y : Int} (h : inB 1000000 x y = true) : (txL x y).length ≤ 46 := by
  rw [txL_eq]
  split
  · simp
  · rw [List.length_reverse]; exact (dgz_len 46 (x, y)).2 (small_46 h)
theorem txL_head (x y : Int) : txL x y = [48] ∨ (txL x y).head? = some 49 := by
  rw [txL_eq]
  split
  · left; rfl
  · right; rename_i h; exact dgz_head _ _ rfl h
theorem txL_ne (x y : Int) : txL x y ≠ [] := by
  rcases txL_head x y with h | h <;> intro e <;> rw [e] at h <;> cases h
theorem txL_vld {x y : Int} (h : inB 1000000 x y = true) : vldL (txL x y) = true := by
  rw [vldL_iff]
  have h1 := txL_len h
  refine ⟨List.length_pos_iff.2 (txL_ne x y), by omega, ?_, txL_bits x y⟩
  rcases txL_head x y with h | h
  · left; exact h
  · right; rw [h]; decide
theorem ofV_tx {x y : Int} (h : inB 1000000 x y = true) : ofV x y = .tuple #[.string (txB x y), .bool true] := by
  unfold ofV
  rw [h, if_pos rfl]
  refine resD_t ?_ ?_
  · show strip (txL x y) = toL (bs (txL x y))
    rw [toL_bs]
    rcases txL_head x y with h | h
    · rw [h]; rfl
    · exact strip_keep (by rw [← List.head?_eq_getElem?, h]; decide)
  · show vldL (toL (bs (txL x y))) = true
    rw [toL_bs]; exact txL_vld h
theorem split_val (x y : Int) (n : Nat) : valF ((txL x y).take ((txL x y).length - n)) = qn n (x, y) ∧ valF ((txL x y).drop ((txL x y).length - n)) = rn n (x, y) := by
  rw [txL_eq]
  split
  · rename_i h
    rw [h, qn_zero, rn_zero]
    cases n with
    | zero => decide
    | succ n => rw [show ([48] : List UInt8).length - (n + 1) = 0 by simp]; decide
  · rw [List.length_reverse, ← List.reverse_drop, ← List.reverse_take]
    exact ⟨val_drop n _, val_take n _⟩
end Go.Proofs.YtaleeoghifcadaaDoor

/- Chapter 5: edges of a path that stand twice. No law is stated here. -/
import Derived.Test.YtljmmmkehieboaaDoorCr
namespace Go.Proofs.YtljmmmkehieboaaDoor
set_option linter.unusedSimpArgs false
set_option linter.unusedVariables false
open Go.RowKit Ieee

/-- the sums of both ends -/
def edg (Z : List (Int × Int)) : List (Int × Int) := (List.range (Z.length - 1)).map fun k => addP (zg Z k) (zg Z (k + 1))
theorem edg_len (Z : List (Int × Int)) : (edg Z).length = Z.length - 1 := by unfold edg; rw [List.length_map, List.length_range]
theorem zg_edg {Z : List (Int × Int)} {k : Nat} (h : k + 1 < Z.length) : zg (edg Z) k = addP (zg Z k) (zg Z (k + 1)) := by
  rw [zg_get (by rw [edg_len]; omega)]
  unfold edg
  rw [List.getElem_map, List.getElem_range]
theorem edg_snoc {Z : List (Int × Int)} {k : Nat} (h : k + 1 < Z.length) : ((edg Z).take (k + 1)).map encP = ((edg Z).take k).map encP ++ [encP (addP (zg Z k) (zg Z (k + 1)))] := by
  refine take_map_snoc ?_ encP
  rw [List.getElem?_eq_getElem (by rw [edg_len]; omega), ← zg_edg h, zg_get]
theorem edg_bp {Z : List (Int × Int)} (h : ∀ z ∈ Z, Bp 400 z) : ∀ z ∈ edg Z, Bp 1000 z := by
  intro z hz
  obtain ⟨k, hk, rfl⟩ := List.mem_map.1 hz
  have h1 := zg_in h k
  have h2 := zg_in h (k + 1)
  unfold Bp addP at *
  dsimp only
  omega
/-- the edges from k and from i are the same, in one direction or in both -/
def sameE (Z : List (Int × Int)) (k i : Nat) : Prop := (zg Z k = zg Z i ∧ zg Z (k + 1) = zg Z (i + 1)) ∨ (zg Z k = zg Z (i + 1) ∧ zg Z (k + 1) = zg Z i)
theorem sameE_iff {Z : List (Int × Int)} (h : PathP Z) {k i : Nat} (hk : k + 1 < Z.length) (hi : i + 1 < Z.length) : sameE Z k i ↔ zg (edg Z) k = zg (edg Z) i := by
  rw [zg_edg hk, zg_edg hi]
  have u1 := stp_unit h hk
  have u2 := stp_unit h hi
  have e1 : stpZ Z k = subP (zg Z (k + 1)) (zg Z k) := rfl
  have e2 : stpZ Z i = subP (zg Z (i + 1)) (zg Z i) := rfl
  rw [e1] at u1
  rw [e2] at u2
  unfold sameE
  clear e1 e2
  generalize zg Z k = pa at *
  generalize zg Z (k + 1) = pb at *
  generalize zg Z i = pc at *
  generalize zg Z (i + 1) = pd at *
  obtain ⟨a1, a2⟩ := pa
  obtain ⟨b1, b2⟩ := pb
  obtain ⟨c1, c2⟩ := pc
  obtain ⟨d1, d2⟩ := pd
  unfold addP
  unfold subP at u1 u2
  dsimp only at *
  rcases unit_cases.1 u1 with e | e | e | e <;> rcases unit_cases.1 u2 with f | f | f | f <;> 
    (simp only [Prod.mk.injEq] at e f ⊢
     obtain ⟨e3, e4⟩ := e
     obtain ⟨f3, f4⟩ := f
     constructor
     · rintro (⟨⟨h1, h2⟩, h3, h4⟩ | ⟨⟨h1, h2⟩, h3, h4⟩) <;> constructor <;> omega
     · rintro ⟨h1, h2⟩
       first
         | (left; refine ⟨⟨?_, ?_⟩, ?_, ?_⟩ <;> omega)
         | (right; refine ⟨⟨?_, ?_⟩, ?_, ?_⟩ <;> omega))
def onceP (Z : List (Int × Int)) : Prop := ∀ i k, k < i → i + 1 < Z.length → ¬ sameE Z k i
/-- no number is more than one where all points are different -/
theorem numB_one (E : List (Int × Int)) : ∀ n, (∀ z, numB E z n ≤ 1) ↔ ∀ i k, k < i → i < n → zg E k ≠ zg E i := by
  intro n
  induction n with
  | zero => exact ⟨fun _ i k _ h => by omega, fun _ z => by rw [numB]; omega⟩
  | succ n ih =>
    constructor
    · intro h i k hk hi e
      rcases Nat.lt_or_eq_of_le (Nat.lt_succ_iff.1 hi) with h1 | h1
      · exact ih.1 (fun z => Nat.le_trans (numB_mono E z (n + 1) (by omega)) (h z)) i k hk h1 e
      · subst h1
        have h2 := h (zg E i)
        rw [numB, if_pos rfl] at h2
        have h3 := numB_mono E (zg E i) (i := k + 1) i (by omega)
        rw [numB, if_pos e.symm] at h3
        omega
    · intro h z
      have h1 := ih.2 (fun i k hk hi => h i k hk (by omega)) z
      rw [numB]
      by_cases e : z = zg E n
      · rw [if_pos e, e, numB_zero E (zg E n) n (fun j hj => (h n j hj (by omega)).symm)]
        omega
      · rw [if_neg e]; omega
theorem once_iff {Z : List (Int × Int)} (h : PathP Z) : visM (edg Z) (edg Z).length ≤ 1 ↔ onceP Z := by
  rw [visM_iff _ 1 _ (Nat.le_refl _), numB_one, edg_len]
  constructor
  · intro h1 i k hk hi hs
    exact h1 i k hk (by omega) ((sameE_iff h (by omega) hi).1 hs)
  · intro h1 i k hk hi e
    exact h1 i k hk (by omega) ((sameE_iff h (by omega) (by omega)).2 e)
noncomputable def onB (L : List SZ) : Bool := pathZ L && decide (visM (edg (L.map val)) (edg (L.map val)).length ≤ 1)
theorem onB_iff {L : List SZ} (h : pathZ L = true) : onB L = true ↔ onceP (L.map val) := by
  unfold onB
  rw [h, Bool.true_and, decide_eq_true_eq, once_iff (pathP_of (pathZ_iff.1 h))]
theorem once_rev {Z : List (Int × Int)} (h : onceP Z) : onceP Z.reverse := by
  intro i k hk hi hs
  rw [List.length_reverse] at hi
  refine h (Z.length - 1 - (k + 1)) (Z.length - 1 - (i + 1)) (by omega) (by omega) ?_
  unfold sameE at *
  rw [zg_rev (by omega), zg_rev (by omega), zg_rev (by omega), zg_rev (by omega)] at hs
  have e1 : Z.length - 1 - (k + 1) + 1 = Z.length - 1 - k := by omega
  have e2 : Z.length - 1 - (i + 1) + 1 = Z.length - 1 - i := by omega
  rw [e1, e2]
  rcases hs with ⟨h1, h2⟩ | ⟨h1, h2⟩
  · exact Or.inl ⟨h2.symm, h1.symm⟩
  · exact Or.inr ⟨h1.symm, h2.symm⟩
theorem once_take {Z : List (Int × Int)} (h : onceP Z) {n : Nat} (hn : n ≤ Z.length) : onceP (Z.take n) := by
  intro i k hk hi hs
  rw [List.length_take] at hi
  have e : ∀ j, j < n → zg (Z.take n) j = zg Z j := fun j hj => by unfold zg; rw [List.getElem?_take, if_pos hj]
  refine h i k hk (by omega) ?_
  unfold sameE at *
  rw [e _ (by omega), e _ (by omega), e _ (by omega), e _ (by omega)] at hs
  exact hs
end Go.Proofs.YtljmmmkehieboaaDoor

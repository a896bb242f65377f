/- Chapter 5: corners of a path and how often they are visited. No law is stated here. -/
import Derived.Test.YtljmmmkehieboaaDoorVs
namespace Go.Proofs.YtljmmmkehieboaaDoor
set_option linter.unusedSimpArgs false
set_option linter.unusedVariables false
open Go.RowKit Ieee

theorem fnd_sh (z : Int × Int) (E : List Ent) : ∀ i j, (fnd z E i).map (·.2) = (fnd z E j).map (·.2) := by
  induction E with
  | nil => intro i j; rfl
  | cons p r ih => intro i j; unfold fnd; split; · rfl
                   · exact ih _ _
theorem cnt_cons (p : Ent) (r : List Ent) (z : Int × Int) : cnt (p :: r) z = if z = p.1 then p.2 else cnt r z := by
  have h := fnd_sh z r (0 + 1) 0
  unfold cnt
  rw [fnd]
  by_cases e : z = p.1
  · rw [if_pos e, if_pos e]
  · rw [if_neg e, if_neg e]
    cases h1 : fnd z r (0 + 1) <;> cases h2 : fnd z r 0 <;> simp [h1, h2] at h ⊢
    exact h
theorem cnt_bump (y : Int × Int) (E : List Ent) (z : Int × Int) : cnt (bump y E) z = cnt E z + (if z = y then 1 else 0) := by
  induction E with
  | nil =>
    rw [bump, cnt_cons]
    have h0 : cnt [] z = 0 := rfl
    rw [h0, Nat.zero_add]
  | cons p r ih =>
    rw [bump]
    by_cases e : y = p.1
    · rw [if_pos e, cnt_cons, cnt_cons]
      dsimp only
      by_cases ez : z = p.1
      · rw [if_pos ez, if_pos ez, if_pos (ez.trans e.symm)]
      · rw [if_neg ez, if_neg ez, if_neg (fun h => ez (h.trans e)), Nat.add_zero]
    · rw [if_neg e, cnt_cons, cnt_cons]
      by_cases ez : z = p.1
      · rw [if_pos ez, if_pos ez, if_neg (fun h => e (h.symm.trans ez)), Nat.add_zero]
      · rw [if_neg ez, if_neg ez, ih]
/-- how often a point is among the first ones -/
def numB (Z : List (Int × Int)) (z : Int × Int) : Nat → Nat
  | 0 => 0
  | k + 1 => numB Z z k + (if z = zg Z k then 1 else 0)
theorem cnt_visE (Z : List (Int × Int)) (z : Int × Int) : ∀ k, k ≤ Z.length → cnt (visE Z k) z = numB Z z k := by
  intro k
  induction k with
  | zero => intro _; rfl
  | succ k ih => intro h; rw [visE_succ (by omega), cnt_bump, ih (by omega)]; rfl
theorem numB_count (Z : List (Int × Int)) (z : Int × Int) : ∀ k, k ≤ Z.length → numB Z z k = (Z.take k).countP (fun y => decide (y = z)) := by
  intro k
  induction k with
  | zero => intro _; simp [numB]
  | succ k ih =>
    intro h
    rw [numB, ih (by omega), List.take_add_one, List.getElem?_eq_getElem (by omega), zg_get (by omega), Option.toList_some, List.countP_append, List.countP_singleton]
    by_cases e : z = Z[k]
    · rw [if_pos e, if_pos (decide_eq_true e.symm)]
    · rw [if_neg e, if_neg (fun h => e (of_decide_eq_true h).symm)]
theorem numB_mono (Z : List (Int × Int)) (z : Int × Int) {i : Nat} : ∀ k, i ≤ k → numB Z z i ≤ numB Z z k := by
  intro k
  induction k with
  | zero => intro h; rw [Nat.le_zero.1 h]; exact Nat.le_refl _
  | succ k ih =>
    intro h
    rcases Nat.lt_or_eq_of_le h with h | h
    · have := ih (by omega); rw [numB]; omega
    · rw [h]; exact Nat.le_refl _
theorem visM_iff (Z : List (Int × Int)) (B : Nat) : ∀ k, k ≤ Z.length → (visM Z k ≤ B ↔ ∀ z, numB Z z k ≤ B) := by
  intro k
  induction k with
  | zero => intro _; exact ⟨fun _ z => Nat.zero_le _, fun _ => Nat.zero_le _⟩
  | succ k ih =>
    intro h
    have i1 := ih (by omega)
    rw [visM, cnt_visE _ _ _ h]
    constructor
    · intro hm z
      have h1 := i1.1 (by omega) z
      rw [numB]
      by_cases e : z = zg Z k
      · have h2 : numB Z (zg Z k) (k + 1) ≤ B := by omega
        rw [numB] at h2
        rw [e]; omega
      · rw [if_neg e]; omega
    · intro hz
      have h1 := i1.2 (fun z => Nat.le_trans (numB_mono Z z (k + 1) (by omega)) (hz z))
      have h2 := hz (zg Z k)
      omega
/-- the model's: over the first points, how often each is there at all -/
def mxS (Z : List (Int × Int)) : Nat → Nat
  | 0 => 0
  | k + 1 => max (mxS Z k) (numB Z (zg Z k) Z.length)
theorem mxS_iff (Z : List (Int × Int)) (B : Nat) : ∀ k, (mxS Z k ≤ B ↔ ∀ j, j < k → numB Z (zg Z j) Z.length ≤ B) := by
  intro k
  induction k with
  | zero => exact ⟨fun _ j h => absurd h (Nat.not_lt_zero _), fun _ => Nat.zero_le _⟩
  | succ k ih =>
    rw [mxS]
    constructor
    · intro h j hj
      rcases Nat.lt_or_eq_of_le (Nat.lt_succ_iff.1 hj) with h1 | h1
      · exact ih.1 (by omega) j h1
      · rw [h1]; omega
    · intro h
      have h1 := ih.2 (fun j hj => h j (by omega))
      have h2 := h k (by omega)
      omega
theorem numB_zero (Z : List (Int × Int)) (z : Int × Int) : ∀ k, (∀ j, j < k → z ≠ zg Z j) → numB Z z k = 0 := by
  intro k
  induction k with
  | zero => intro _; rfl
  | succ k ih => intro h; rw [numB, ih (fun j hj => h j (by omega)), if_neg (h k (by omega))]
theorem mxS_eq (Z : List (Int × Int)) : mxS Z Z.length = visM Z Z.length := by
  have key : ∀ B, mxS Z Z.length ≤ B ↔ visM Z Z.length ≤ B := by
    intro B
    rw [mxS_iff, visM_iff Z B _ (Nat.le_refl _)]
    constructor
    · intro h z
      by_cases e : ∃ j, j < Z.length ∧ z = zg Z j
      · obtain ⟨j, hj, rfl⟩ := e; exact h j hj
      · rw [numB_zero Z z _ (fun j hj h => e ⟨j, hj, h⟩)]; exact Nat.zero_le _
    · intro h j _; exact h _
  exact Nat.le_antisymm ((key _).2 (Nat.le_refl _)) ((key _).1 (Nat.le_refl _))
theorem visM_rev (Z : List (Int × Int)) : visM Z.reverse Z.length = visM Z Z.length := by
  have key : ∀ B, visM Z.reverse Z.length ≤ B ↔ visM Z Z.length ≤ B := by
    intro B
    rw [visM_iff Z.reverse B _ (by rw [List.length_reverse]; omega), visM_iff Z B _ (Nat.le_refl _)]
    have e : ∀ z, numB Z.reverse z Z.length = numB Z z Z.length := by
      intro z
      rw [numB_count _ _ _ (by rw [List.length_reverse]; omega), numB_count _ _ _ (Nat.le_refl _), List.take_of_length_le (by rw [List.length_reverse]; omega), List.take_of_length_le (Nat.le_refl _), List.countP_reverse]
    constructor
    · intro h z; rw [← e]; exact h z
    · intro h z; rw [e]; exact h z
  exact Nat.le_antisymm ((key _).2 (Nat.le_refl _)) ((key _).1 (Nat.le_refl _))
/-- the corners told -/
def keyS (E : List Ent) : List (Int × Int) := E.map (·.1)
theorem key_bump (z : Int × Int) (E : List Ent) : keyS (bump z E) = if z ∈ keyS E then keyS E else keyS E ++ [z] := by
  induction E with
  | nil => rfl
  | cons p r ih =>
    rw [bump]
    by_cases e : z = p.1
    · rw [if_pos e, if_pos (by rw [e]; simp [keyS])]; rfl
    · rw [if_neg e]
      have : keyS (p :: bump z r) = p.1 :: keyS (bump z r) := rfl
      rw [this, ih]
      by_cases h : z ∈ keyS r
      · rw [if_pos h, if_pos (by simp [keyS] at h ⊢; exact Or.inr h)]; rfl
      · rw [if_neg h, if_neg (by intro h2; rcases List.mem_cons.1 (show z ∈ p.1 :: keyS r from h2) with h3 | h3; exact e h3; exact h h3)]; rfl
theorem key_visE (Z : List (Int × Int)) : ∀ k, k ≤ Z.length → (keyS (visE Z k)).Nodup ∧ ∀ z, z ∈ keyS (visE Z k) ↔ z ∈ Z.take k := by
  intro k
  induction k with
  | zero => intro _; exact ⟨by simp [visE, keyS], fun z => by simp [visE, keyS]⟩
  | succ k ih =>
    intro h
    obtain ⟨h1, h2⟩ := ih (by omega)
    rw [visE_succ (by omega), key_bump, List.take_add_one, List.getElem?_eq_getElem (by omega), zg_get (by omega)]
    by_cases hm : Z[k] ∈ keyS (visE Z k)
    · rw [if_pos hm]
      refine ⟨h1, fun z => ?_⟩
      rw [h2 z]
      simp only [Option.toList, List.mem_append, List.mem_singleton]
      exact ⟨Or.inl, fun h => h.elim id (fun e => by rw [e]; exact (h2 _).1 hm)⟩
    · rw [if_neg hm]
      refine ⟨?_, fun z => ?_⟩
      · rw [List.nodup_append]
        refine ⟨h1, by simp, ?_⟩
        intro a ha b hb
        simp at hb
        rw [hb]
        intro e
        exact hm (e ▸ ha)
      · simp only [Option.toList, List.mem_append, List.mem_singleton, h2 z]
theorem visE_rev (Z : List (Int × Int)) : (visE Z.reverse Z.length).length = (visE Z Z.length).length := by
  obtain ⟨a1, a2⟩ := key_visE Z.reverse Z.length (by rw [List.length_reverse]; omega)
  obtain ⟨b1, b2⟩ := key_visE Z Z.length (Nat.le_refl _)
  have := ((List.perm_ext_iff_of_nodup a1 b1).2 (fun z => by
    rw [a2, b2, List.take_of_length_le (by rw [List.length_reverse]; omega), List.take_of_length_le (Nat.le_refl _), List.mem_reverse])).length_eq
  simpa [keyS] using this
/-- the model's: how many of the first points stand there first -/
def nwS (Z : List (Int × Int)) : Nat → Nat
  | 0 => 0
  | k + 1 => nwS Z k + (if zg Z k ∈ Z.take k then 0 else 1)
theorem nwS_eq (Z : List (Int × Int)) : ∀ k, k ≤ Z.length → nwS Z k = (visE Z k).length := by
  intro k
  induction k with
  | zero => intro _; rfl
  | succ k ih =>
    intro h
    have h2 := (key_visE Z k (by omega)).2 (zg Z k)
    have h3 := congrArg List.length (key_bump (zg Z k) (visE Z k))
    rw [nwS, ih (by omega), visE_succ (by omega)]
    have e : ∀ E : List Ent, (keyS E).length = E.length := fun E => by simp [keyS]
    rw [e] at h3
    rw [h3]
    by_cases hm : zg Z k ∈ keyS (visE Z k)
    · rw [if_pos (h2.1 hm), if_pos hm, e, Nat.add_zero]
    · rw [if_neg (fun h => hm (h2.2 h)), if_neg hm, List.length_append, e]; rfl
theorem visE_pos {Z : List (Int × Int)} (h : 1 ≤ Z.length) : 1 ≤ (visE Z Z.length).length := by
  have h2 := (key_visE Z Z.length (Nat.le_refl _)).2 (zg Z 0)
  rw [List.take_of_length_le (Nat.le_refl _), zg_get (by omega)] at h2
  have := h2.2 (List.getElem_mem _)
  have e : (keyS (visE Z Z.length)).length = (visE Z Z.length).length := by simp [keyS]
  rw [← e]
  exact List.length_pos_of_mem this
theorem bump_mem {z : Int × Int} (E : List Ent) : ∀ p ∈ bump z E, p ∈ E ∨ p.2 = cnt (bump z E) z := by
  induction E with
  | nil => intro p hp; simp [bump] at hp; rw [hp]; exact Or.inr (by rw [bump, cnt_cons, if_pos rfl])
  | cons q r ih =>
    intro p hp
    rw [bump] at hp ⊢
    by_cases e : z = q.1
    · rw [if_pos e] at hp ⊢
      rcases List.mem_cons.1 hp with rfl | hp
      · exact Or.inr (by rw [cnt_cons, if_pos e])
      · exact Or.inl (by simp [hp])
    · rw [if_neg e] at hp ⊢
      rcases List.mem_cons.1 hp with rfl | hp
      · exact Or.inl (by simp)
      · rcases ih p hp with h | h
        · exact Or.inl (by simp [h])
        · exact Or.inr (by rw [cnt_cons, if_neg e]; exact h)
theorem visE_le (Z : List (Int × Int)) : ∀ k, k ≤ Z.length → ∀ p ∈ visE Z k, p.2 ≤ visM Z k := by
  intro k
  induction k with
  | zero => intro _ p hp; simp [visE] at hp
  | succ k ih =>
    intro h p hp
    rw [visM]
    rw [visE_succ (by omega)] at hp ⊢
    rcases bump_mem _ p hp with h1 | h1
    · have := ih (by omega) p h1; omega
    · omega
theorem tot_le (M : Nat) (E : List Ent) (h : ∀ p ∈ E, p.2 ≤ M) : tot E ≤ E.length * M := by
  induction E with
  | nil => simp [tot]
  | cons p r ih =>
    have h1 := ih (fun q hq => h q (by simp [hq]))
    have h2 := h p (by simp)
    unfold tot at *
    rw [List.map_cons, List.sum_cons, List.length_cons, Nat.add_mul, Nat.one_mul]
    omega
theorem vis_prod (Z : List (Int × Int)) : Z.length ≤ (visE Z Z.length).length * visM Z Z.length := by
  have := tot_le _ _ (visE_le Z Z.length (Nat.le_refl _))
  rw [visE_tot Z _ (Nat.le_refl _)] at this
  exact this
end Go.Proofs.YtljmmmkehieboaaDoor

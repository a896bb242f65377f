/- Chapter 5: the curve of a fold of at most seven creases goes along no edge twice, and visits no corner more than twice: every fold is looked at. No law is stated here. -/
import Derived.Test.YtljmmmkehieboaaDoorOn
import Derived.Test.YtljmmmkehieboaaDoorCm
namespace Go.Proofs.YtljmmmkehieboaaDoor
set_option linter.unusedSimpArgs false
set_option linter.unusedVariables false
open Go.RowKit Ieee

/-- the points behind the first two, in one walk -/
def wlk (st ps : Int × Int) : List UInt8 → List (Int × Int)
  | [] => []
  | c :: r => addP ps (trn c st) :: wlk (trn c st) (addP ps (trn c st)) r
theorem wlk_eq (l : List UInt8) : ∀ p : List UInt8, wlk (stP p) (psP p) l = (List.range l.length).map fun k => psP (p ++ l.take (k + 1)) := by
  induction l with
  | nil => intro p; rfl
  | cons c r ih =>
    intro p
    have h := ih (p ++ [c])
    rw [stP_snoc, psP_snoc] at h
    rw [wlk, h, List.length_cons, List.range_succ_eq_map, List.map_cons, List.map_map]
    congr 1
    · rw [← psP_snoc]; rfl
    · apply List.map_congr_left
      intro k _
      simp
def crvW (l : List UInt8) : List (Int × Int) := (0, 0) :: (1, 0) :: wlk (1, 0) (1, 0) l
theorem crvW_eq (l : List UInt8) : crvW l = crvL l := by
  have h := wlk_eq l []
  rw [stP_nil, psP_nil] at h
  unfold crvW crvL
  rw [h, List.range_succ_eq_map, List.map_cons, List.map_map]
  rfl
def sums : List (Int × Int) → List (Int × Int)
  | a :: b :: r => addP a b :: sums (b :: r)
  | _ => []
theorem sums_eq (Z : List (Int × Int)) : sums Z = edg Z := by
  have key : ∀ Z : List (Int × Int), (sums Z).length = Z.length - 1 ∧ ∀ k, k + 1 < Z.length → (sums Z)[k]? = some (addP (zg Z k) (zg Z (k + 1))) := by
    intro Z
    induction Z with
    | nil => exact ⟨rfl, fun k h => by simp at h⟩
    | cons a r ih =>
      cases r with
      | nil => exact ⟨rfl, fun k h => by simp at h⟩
      | cons b r =>
        obtain ⟨i1, i2⟩ := ih
        refine ⟨by rw [sums]; simp [i1], fun k hk => ?_⟩
        rw [sums]
        cases k with
        | zero => rfl
        | succ k =>
          have := i2 k (by simp at hk ⊢; omega)
          rw [List.getElem?_cons_succ, this]
          rfl
  obtain ⟨h1, h2⟩ := key Z
  apply List.ext_getElem?
  intro k
  by_cases hk : k + 1 < Z.length
  · rw [h2 k hk, List.getElem?_eq_getElem (by rw [edg_len]; omega), ← zg_edg hk, zg_get]
  · rw [List.getElem?_eq_none (by rw [h1]; omega), List.getElem?_eq_none (by rw [edg_len]; omega)]
def kyOk (z : Int × Int) : Bool := decide (-64 ≤ z.1) && decide (z.1 < 64) && decide (-64 ≤ z.2) && decide (z.2 < 64)
def ky (z : Int × Int) : Nat := (z.1 + 64).toNat * 128 + (z.2 + 64).toNat
theorem ky_inj {a b : Int × Int} (ha : kyOk a = true) (hb : kyOk b = true) (h : ky a = ky b) : a = b := by
  unfold kyOk at ha hb
  unfold ky at h
  simp only [Bool.and_eq_true, decide_eq_true_eq] at ha hb
  obtain ⟨a1, a2⟩ := a
  obtain ⟨b1, b2⟩ := b
  dsimp only at *
  have e1 : a1 = b1 := by omega
  have e2 : a2 = b2 := by omega
  rw [e1, e2]
/-- no point of the list is in the mask, and none is there twice -/
def uq : List (Int × Int) → Nat → Bool
  | [], _ => true
  | z :: r, m => kyOk z && !(m.testBit (ky z)) && uq r (m ||| 2 ^ ky z)
theorem uq_ok : ∀ (l : List (Int × Int)) (m : Nat), uq l m = true → l.Nodup ∧ ∀ z ∈ l, kyOk z = true ∧ m.testBit (ky z) = false := by
  intro l
  induction l with
  | nil => intro m _; exact ⟨List.nodup_nil, fun z h => by simp at h⟩
  | cons z r ih =>
    intro m h
    rw [uq, Bool.and_eq_true, Bool.and_eq_true, Bool.not_eq_true'] at h
    obtain ⟨⟨h1, h2⟩, h3⟩ := h
    obtain ⟨i1, i2⟩ := ih _ h3
    refine ⟨List.nodup_cons.2 ⟨fun hz => ?_, i1⟩, fun y hy => ?_⟩
    · have := (i2 z hz).2
      rw [Nat.testBit_or, Nat.testBit_two_pow_self] at this
      simp at this
    · rcases List.mem_cons.1 hy with rfl | hy
      · exact ⟨h1, h2⟩
      · have := i2 y hy
        rw [Nat.testBit_or, Bool.or_eq_false_iff] at this
        exact ⟨this.1, this.2.1⟩
def bt (m : Nat) (k : Nat) : Nat := if m.testBit k then 1 else 0
/-- no point is there more than twice; a: what is in once, b: what is in twice -/
def u2 : List (Int × Int) → Nat → Nat → Bool
  | [], _, _ => true
  | z :: r, a, b => kyOk z && !(b.testBit (ky z)) && u2 r (a ||| 2 ^ ky z) (if a.testBit (ky z) then b ||| 2 ^ ky z else b)
theorem u2_ok : ∀ (l : List (Int × Int)) (a b : Nat), u2 l a b = true → ∀ z, kyOk z = true → l.countP (fun y => decide (y = z)) + bt a (ky z) + bt b (ky z) ≤ 2 := by
  intro l
  induction l with
  | nil => intro a b _ z _; unfold bt; simp; split <;> split <;> omega
  | cons y r ih =>
    intro a b h z hz
    rw [u2, Bool.and_eq_true, Bool.and_eq_true, Bool.not_eq_true'] at h
    obtain ⟨⟨h1, h2⟩, h3⟩ := h
    have h4 := ih _ _ h3 z hz
    rw [List.countP_cons]
    by_cases e : y = z
    · subst e
      rw [if_pos (by simp)]
      unfold bt at h4 ⊢
      rw [h2]
      rw [Nat.testBit_or, Nat.testBit_two_pow_self, Bool.or_true, if_pos rfl] at h4
      by_cases ha : a.testBit (ky y) = true
      · rw [if_pos ha] at h4 ⊢
        rw [Nat.testBit_or, Nat.testBit_two_pow_self, Bool.or_true, if_pos rfl] at h4
        simp only [Bool.false_eq_true, if_false] at h4 ⊢
        omega
      · rw [if_neg ha] at h4 ⊢
        rw [h2] at h4
        simp only [Bool.false_eq_true, if_false] at h4 ⊢
        omega
    · rw [if_neg (by simpa using e)]
      have hk : ky y ≠ ky z := fun h => e (ky_inj h1 hz h)
      have t1 : bt (a ||| 2 ^ ky y) (ky z) = bt a (ky z) := by
        unfold bt; rw [Nat.testBit_or, Nat.testBit_two_pow_of_ne hk, Bool.or_false]
      have t2 : bt (b ||| 2 ^ ky y) (ky z) = bt b (ky z) := by
        unfold bt; rw [Nat.testBit_or, Nat.testBit_two_pow_of_ne hk, Bool.or_false]
      rw [t1] at h4
      split at h4
      · rw [t2] at h4; omega
      · omega
theorem u2_in : ∀ (l : List (Int × Int)) (a b : Nat), u2 l a b = true → ∀ z ∈ l, kyOk z = true := by
  intro l
  induction l with
  | nil => intro a b _ z h; simp at h
  | cons y r ih =>
    intro a b h z hz
    rw [u2, Bool.and_eq_true, Bool.and_eq_true] at h
    rcases List.mem_cons.1 hz with rfl | hz
    · exact h.1.1
    · exact ih _ _ h.2 z hz
def allW : Nat → List (List UInt8)
  | 0 => [[]]
  | n + 1 => (allW n).flatMap fun c => [c ++ [108], c ++ [114]]
theorem allW_mem : ∀ (n : Nat) (cs : List UInt8), cs.length = n → (∀ c ∈ cs, wdC c = true) → cs ∈ allW n := by
  intro n
  induction n with
  | zero => intro cs h _; rw [List.length_eq_zero_iff.1 h]; simp [allW]
  | succ n ih =>
    intro cs h hw
    have hne : cs ≠ [] := fun e => by rw [e] at h; simp at h
    obtain ⟨ds, c, rfl⟩ : ∃ ds c, cs = ds ++ [c] := ⟨cs.dropLast, cs.getLast hne, (List.dropLast_concat_getLast hne).symm⟩
    have := ih ds (by simpa using h) (fun x hx => hw x (by simp [hx]))
    rw [allW, List.mem_flatMap]
    refine ⟨ds, this, ?_⟩
    rcases wdC_or (hw c (by simp)) with rfl | rfl <;> simp
def okC (cs : List UInt8) : Bool := let Z := crvW (turnsL cs); uq (sums Z) 0 && u2 Z 0 0
theorem all_ok : ∀ n, n < 8 → (allW n).all okC = true := by decide +kernel
theorem ok_of {cs : List UInt8} (h : cs.length ≤ 7) (hw : ∀ c ∈ cs, wdC c = true) : okC cs = true :=
  List.all_eq_true.1 (all_ok cs.length (by omega)) cs (allW_mem _ cs rfl hw)
theorem pathP_crv {l : List UInt8} (h : l.length ≤ 1023) (hp : PathP (crvL l)) (cs : List UInt8) (hl : turnsL cs = l) (h7 : cs.length ≤ 7) (hw : ∀ c ∈ cs, wdC c = true) :
    onceP (crvL l) ∧ visM (crvL l) (crvL l).length ≤ 2 := by
  have hok : (uq (sums (crvW (turnsL cs))) 0 && u2 (crvW (turnsL cs)) 0 0) = true := ok_of h7 hw
  rw [crvW_eq, hl, sums_eq, Bool.and_eq_true] at hok
  obtain ⟨o1, o2⟩ := hok
  refine ⟨?_, ?_⟩
  · have hn := (uq_ok _ _ o1).1
    rw [← once_iff hp, visM_iff _ 1 _ (Nat.le_refl _), numB_one]
    intro i k hk hi e
    rw [zg_get hi, zg_get (by omega)] at e
    exact absurd ((List.getElem_inj hn).1 e) (by omega)
  · rw [visM_iff _ 2 _ (Nat.le_refl _)]
    intro z
    rw [numB_count _ _ _ (Nat.le_refl _), List.take_of_length_le (Nat.le_refl _)]
    by_cases hz : kyOk z = true
    · have := u2_ok _ _ _ o2 z hz
      omega
    · have : (crvL l).countP (fun y => decide (y = z)) = 0 := by
        rw [List.countP_eq_zero]
        intro y hy e
        have e' := of_decide_eq_true e
        subst e'
        exact hz (u2_in _ _ _ o2 y hy)
      omega
end Go.Proofs.YtljmmmkehieboaaDoor

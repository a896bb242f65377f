/- Chapter 4's words: letters, words turned back, words of turns. Plain mathematics; no law is stated here. -/
import Derived.Test.YtmdnfamjdogogaaDoorDMath
namespace Go.Proofs.YtmdnfamjdogogaaDoor
set_option linter.unusedSimpArgs false
set_option linter.unusedVariables false

/-- a byte is a letter of a word -/
def wdC (c : UInt8) : Bool := c == 108 || c == 114
theorem wdC_iff (c : UInt8) : wdC c = true ↔ c.toNat = 108 ∨ c.toNat = 114 := by
  unfold wdC
  rw [Bool.or_eq_true, beq_iff_eq, beq_iff_eq, ← UInt8.toNat_inj, ← UInt8.toNat_inj]
  rfl
theorem wdC_or {c : UInt8} (h : wdC c = true) : c = 108 ∨ c = 114 := by
  unfold wdC at h
  rw [Bool.or_eq_true, beq_iff_eq, beq_iff_eq] at h
  exact h
/-- the other letter -/
def oth (c : UInt8) : UInt8 := if c = 108 then 114 else 108
theorem oth_wd (c : UInt8) : wdC (oth c) = true := by unfold oth; split <;> rfl
theorem oth_oth {c : UInt8} (h : wdC c = true) : oth (oth c) = c := by
  rcases wdC_or h with rfl | rfl <;> rfl
theorem oth_ne {c : UInt8} (h : wdC c = true) : oth c ≠ c := by
  rcases wdC_or h with rfl | rfl <;> decide
def onlyW (s : ByteArray) : Bool := (toL s).all wdC
theorem onlyW_bad {s : ByteArray} (k : Nat) (hk : k < s.size) (h : ¬ (s[k].toNat = 108 ∨ s[k].toNat = 114)) : onlyW s = false := by
  rw [← Bool.not_eq_true]
  intro e
  exact h ((wdC_iff _).1 (List.all_eq_true.1 e _ (List.mem_of_getElem? (toL_get s k hk))))
theorem onlyW_good {s : ByteArray} (h : ∀ c ∈ toL s, wdC c = true) : onlyW s = true := List.all_eq_true.2 h
theorem onlyW_all {s : ByteArray} (h : onlyW s = true) : ∀ c ∈ toL s, wdC c = true := List.all_eq_true.1 h
/-- a word of at most so many letters -/
def wdB (n : Nat) (s : ByteArray) : Bool := decide (s.size ≤ n) && onlyW s
theorem wdB_len {n : Nat} {s : ByteArray} (h : wdB n s = true) : s.size ≤ n := by simp [wdB] at h; exact h.1
theorem wdB_only {n : Nat} {s : ByteArray} (h : wdB n s = true) : onlyW s = true := by simp [wdB] at h; exact h.2
theorem wdB_all {n : Nat} {s : ByteArray} (h : wdB n s = true) : ∀ c ∈ toL s, wdC c = true := onlyW_all (wdB_only h)
theorem wdB_long {n : Nat} {s : ByteArray} (h : n < s.size) : wdB n s = false := by simp [wdB]; omega
theorem wdB_of {n : Nat} {s : ByteArray} (h : s.size ≤ n) : wdB n s = onlyW s := by simp [wdB, h]
theorem wdB_at {n : Nat} {s : ByteArray} (h : wdB n s = true) (k : Nat) (hk : k < s.size) : s[k].toNat = 108 ∨ s[k].toNat = 114 :=
  (wdC_iff _).1 (wdB_all h _ (List.mem_of_getElem? (toL_get s k hk)))

/-! ### turned back -/
def backL (l : List UInt8) : List UInt8 := (l.map oth).reverse
theorem backL_len (l : List UInt8) : (backL l).length = l.length := by simp [backL]
theorem backL_append (a b : List UInt8) : backL (a ++ b) = backL b ++ backL a := by simp [backL]
theorem backL_one (c : UInt8) : backL [c] = [oth c] := rfl
theorem backL_cons (c : UInt8) (l : List UInt8) : backL (c :: l) = backL l ++ [oth c] := by simp [backL]
theorem backL_snoc (c : UInt8) (l : List UInt8) : backL (l ++ [c]) = oth c :: backL l := by simp [backL]
theorem backL_back {l : List UInt8} (h : ∀ c ∈ l, wdC c = true) : backL (backL l) = l := by
  induction l with
  | nil => rfl
  | cons a r ih =>
    rw [backL_cons, backL_append, ih (fun c hc => h c (by simp [hc])), backL_one, oth_oth (h a (by simp))]; rfl
theorem backL_wd (l : List UInt8) : ∀ c ∈ backL l, wdC c = true := by
  intro c hc
  simp [backL] at hc
  obtain ⟨a, _, rfl⟩ := hc
  exact oth_wd a
theorem backL_get (l : List UInt8) (k : Nat) (h : k < l.length) : (backL l)[k]? = (l[l.length - 1 - k]?).map oth := by
  have h1 : k < (l.map oth).length := by simpa using h
  unfold backL
  rw [List.getElem?_reverse h1, List.length_map, List.getElem?_map]

/-! ### words of turns -/
def turnsL (l : List UInt8) : List UInt8 := l.foldl (fun o c => o ++ [c] ++ backL o) []
theorem turnsL_nil : turnsL [] = [] := rfl
theorem turnsL_snoc (l : List UInt8) (c : UInt8) : turnsL (l ++ [c]) = turnsL l ++ [c] ++ backL (turnsL l) := by simp [turnsL]
theorem turnsL_len (l : List UInt8) : (turnsL l).length + 1 = 2 ^ l.length := by
  induction l using rev_ind with
  | h0 => rfl
  | h1 l c ih =>
    rw [turnsL_snoc, List.length_append, List.length_append, backL_len, List.length_append]
    simp only [List.length_singleton, Nat.pow_succ]
    omega
theorem turnsL_wd (l : List UInt8) (h : ∀ c ∈ l, wdC c = true) : ∀ c ∈ turnsL l, wdC c = true := by
  induction l using rev_ind with
  | h0 => intro c hc; simp [turnsL] at hc
  | h1 l c ih =>
    intro d hd
    rw [turnsL_snoc] at hd
    simp only [List.mem_append, List.mem_singleton] at hd
    rcases hd with (hd | hd) | hd
    · exact ih (fun c hc => h c (by simp [hc])) d hd
    · exact h d (by simp [hd])
    · exact backL_wd _ d hd
/-- the letter at 2 to the power of j times the odd number o -/
def turnV (cs : List UInt8) (j o : Nat) : UInt8 := if o % 4 = 1 then cs[j]?.getD 0 else oth (cs[j]?.getD 0)
theorem turnV_ext {cs : List UInt8} {c : UInt8} {j o : Nat} (h : j < cs.length) : turnV (cs ++ [c]) j o = turnV cs j o := by
  unfold turnV; rw [List.getElem?_append_left h]
theorem pow_dvd4 {k : Nat} (h : 2 ≤ k) : ∃ q, 2 ^ k = 4 * q := ⟨2 ^ (k - 2), by
  have : k = 2 + (k - 2) := by omega
  rw [this, Nat.pow_add]; simp⟩
theorem pow_even {k : Nat} (h : 1 ≤ k) : 2 ^ k % 2 = 0 := by
  obtain ⟨m, rfl⟩ : ∃ m, k = m + 1 := ⟨k - 1, by omega⟩
  rw [Nat.pow_succ]; omega
theorem two_pos (k : Nat) : 0 < 2 ^ k := Nat.pow_pos (by omega)
theorem exp_lt {j n o : Nat} (ho : o % 2 = 1) (h : 2 ^ j * o < 2 ^ n) : j < n := by
  have h1 : 2 ^ j ≤ 2 ^ j * o := Nat.le_mul_of_pos_right _ (by omega)
  exact (Nat.pow_lt_pow_iff_right (by omega : 1 < 2)).1 (Nat.lt_of_le_of_lt h1 h)
/-- what is left up to the power n is odd, too, and 3 where the one is 1 -/
theorem exp_left {j n o : Nat} (ho : o % 2 = 1) (hj : j < n) (h : 2 ^ j * o < 2 ^ n) : 2 ^ n - 2 ^ j * o = 2 ^ j * (2 ^ (n - j) - o) ∧ (2 ^ (n - j) - o) % 2 = 1 ∧ o < 2 ^ (n - j) := by
  have e : 2 ^ n = 2 ^ j * 2 ^ (n - j) := by rw [← Nat.pow_add]; congr 1; omega
  have hlt : o < 2 ^ (n - j) := by rw [e] at h; exact Nat.lt_of_mul_lt_mul_left h
  refine ⟨by rw [e, Nat.mul_sub], ?_, hlt⟩
  have := pow_even (show 1 ≤ n - j by omega)
  omega
theorem turn_at (cs : List UInt8) : ∀ j o, o % 2 = 1 → 2 ^ j * o < 2 ^ cs.length → (∀ c ∈ cs, wdC c = true) → (turnsL cs)[2 ^ j * o - 1]? = some (turnV cs j o) := by
  induction cs using rev_ind with
  | h0 =>
    intro j o ho h
    have := Nat.mul_pos (two_pos j) (show 0 < o by omega)
    simp at h; omega
  | h1 l c ih =>
    intro j o ho h hw
    have ih := fun j o ho h => ih j o ho h (fun c hc => hw c (by simp [hc]))
    rw [List.length_append, List.length_singleton] at h
    have hlen := turnsL_len l
    have hpos := Nat.mul_pos (two_pos j) (show 0 < o by omega)
    have hsucc : 2 ^ (l.length + 1) = 2 * 2 ^ l.length := by rw [Nat.pow_succ]; omega
    have hj := exp_lt ho h
    rw [turnsL_snoc]
    rcases Nat.lt_trichotomy (2 ^ j * o) (2 ^ l.length) with hc | hc | hc
    · rw [List.append_assoc, List.getElem?_append_left (by omega), ih j o ho hc, turnV_ext (exp_lt ho hc)]
    · have hjl : j = l.length := by
        rcases Nat.lt_or_ge j l.length with hlt | hge
        · exfalso
          have e : 2 ^ l.length = 2 ^ j * 2 ^ (l.length - j) := by rw [← Nat.pow_add]; congr 1; omega
          rw [e] at hc
          have := Nat.eq_of_mul_eq_mul_left (two_pos j) hc
          have := pow_even (show 1 ≤ l.length - j by omega)
          omega
        · omega
      have ho1 : o = 1 := by
        rw [← hjl] at hc
        exact Nat.eq_of_mul_eq_mul_left (two_pos j) (by omega)
      subst ho1
      rw [List.append_assoc, List.getElem?_append_right (by omega), hc, show 2 ^ l.length - 1 - (turnsL l).length = 0 by omega]
      simp [turnV, hjl]
    · have hjl : j < l.length := by
        rcases Nat.lt_or_ge j l.length with hlt | hge
        · exact hlt
        · exfalso
          obtain rfl : j = l.length := by omega
          have : o < 2 := by
            rw [Nat.pow_succ] at h
            exact Nat.lt_of_mul_lt_mul_left h
          obtain rfl : o = 1 := by omega
          omega
      obtain ⟨e1, e2, e3⟩ := exp_left ho hj h
      have h4 := pow_dvd4 (show 2 ≤ l.length + 1 - j by omega)
      obtain ⟨q, hq⟩ := h4
      have hlo : 2 ^ j * (2 ^ (l.length + 1 - j) - o) < 2 ^ l.length := by rw [← e1]; omega
      have ihx := ih j _ e2 hlo
      rw [← e1] at ihx
      have hk : 2 ^ j * o - 1 - (turnsL l ++ [c]).length < (turnsL l).length := by
        rw [List.length_append, List.length_singleton]; omega
      rw [List.getElem?_append_right (by rw [List.length_append, List.length_singleton]; omega), backL_get _ _ hk]
      rw [List.length_append, List.length_singleton] at hk ⊢
      rw [show (turnsL l).length - 1 - (2 ^ j * o - 1 - ((turnsL l).length + 1)) = 2 ^ (l.length + 1) - 2 ^ j * o - 1 by omega, ihx, turnV_ext hjl]
      have hwj : wdC (l[j]?.getD 0) = true := by
        rw [List.getElem?_eq_getElem hjl]
        exact hw _ (by simp)
      rw [hq]
      rw [hq] at e3
      simp only [Option.map_some, Option.some.injEq, turnV]
      rcases (show o % 4 = 1 ∨ o % 4 = 3 by omega) with h1 | h1
      · have h5 : ¬ (4 * q - o) % 4 = 1 := by omega
        rw [if_pos h1, if_neg h5, oth_oth hwj]
      · have h5 : (4 * q - o) % 4 = 1 := by omega
        have h6 : ¬ o % 4 = 1 := by omega
        rw [if_neg h6, if_pos h5]
/-- the opposite end of a word of turns -/
theorem turn_opp {cs : List UInt8} {j o : Nat} (ho : o % 2 = 1) (h : 2 ^ j * o < 2 ^ cs.length) (hw : ∀ c ∈ cs, wdC c = true) (hm : 2 * (2 ^ j * o) ≠ 2 ^ cs.length) :
    ∃ o', 2 ^ cs.length - 2 ^ j * o = 2 ^ j * o' ∧ o' % 2 = 1 ∧ turnV cs j o' ≠ turnV cs j o := by
  have hj := exp_lt ho h
  obtain ⟨e1, e2, e3⟩ := exp_left ho hj h
  refine ⟨_, e1, e2, ?_⟩
  have h2 : 2 ≤ cs.length - j := by
    rcases Nat.lt_or_ge (cs.length - j) 2 with hlt | hge
    · exfalso
      have e : cs.length - j = 1 := by omega
      rw [e] at e3
      obtain rfl : o = 1 := by omega
      apply hm
      rw [show cs.length = j + 1 by omega, Nat.pow_succ]
      omega
    · exact hge
  obtain ⟨q, hq⟩ := pow_dvd4 h2
  have hwj : wdC (cs[j]?.getD 0) = true := by
    rw [List.getElem?_eq_getElem hj]
    exact hw _ (by simp)
  rw [hq] at e3 ⊢
  unfold turnV
  rcases (show o % 4 = 1 ∨ o % 4 = 3 by omega) with h1 | h1
  · have h5 : ¬ (4 * q - o) % 4 = 1 := by omega
    rw [if_pos h1, if_neg h5]; exact oth_ne hwj
  · have h5 : (4 * q - o) % 4 = 1 := by omega
    have h6 : ¬ o % 4 = 1 := by omega
    rw [if_neg h6, if_pos h5]; exact fun e => oth_ne hwj e.symm

/-! ### folded again -/
/-- the letters at the first powers of 2 -/
def powL (l : List UInt8) (k : Nat) : List UInt8 := (List.range k).map fun j => l[2 ^ j - 1]?.getD 0
theorem powL_succ (l : List UInt8) (k : Nat) : powL l (k + 1) = powL l k ++ [l[2 ^ k - 1]?.getD 0] := by simp [powL, List.range_succ]
theorem powL_len (l : List UInt8) (k : Nat) : (powL l k).length = k := by simp [powL]
theorem powL_turns {cs : List UInt8} (hw : ∀ c ∈ cs, wdC c = true) : powL (turnsL cs) cs.length = cs := by
  apply List.ext_getElem?
  intro j
  by_cases hj : j < cs.length
  · have h := turn_at cs j 1 rfl (by rw [Nat.mul_one]; exact (Nat.pow_lt_pow_iff_right (by omega)).2 hj) hw
    rw [Nat.mul_one] at h
    simp [powL, hj, h, turnV]
  · rw [List.getElem?_eq_none (by rw [powL_len]; omega), List.getElem?_eq_none (by omega)]
/-- the creases of a list, if it is a word of turns -/
def foldO (l : List UInt8) : Option (List UInt8) := if turnsL (powL l (Nat.log2 (l.length + 1))) = l then some (powL l (Nat.log2 (l.length + 1))) else none
theorem foldO_some {cs : List UInt8} (hw : ∀ c ∈ cs, wdC c = true) : foldO (turnsL cs) = some cs := by
  have e : Nat.log2 ((turnsL cs).length + 1) = cs.length := by rw [turnsL_len, Nat.log2_two_pow]
  unfold foldO
  rw [e, powL_turns hw, if_pos rfl]
theorem foldO_turns {l cs : List UInt8} (h : foldO l = some cs) : turnsL cs = l := by
  unfold foldO at h
  split at h
  · next e => rw [← Option.some.inj h]; exact e
  · cases h
theorem foldO_none {l : List UInt8} (hw : ∀ c ∈ l, wdC c = true) (h : ∀ cs : List UInt8, (∀ c ∈ cs, wdC c = true) → turnsL cs ≠ l) : foldO l = none := by
  unfold foldO
  split
  · next e =>
    exfalso
    refine h _ ?_ e
    intro c hc
    simp only [powL, List.mem_map, List.mem_range] at hc
    obtain ⟨j, hj, rfl⟩ := hc
    have hlt : 2 ^ j - 1 < l.length := by
      have h1 : 2 ^ (j + 1) ≤ l.length + 1 := (Nat.le_log2 (by omega)).1 hj
      rw [Nat.pow_succ] at h1
      have := two_pos j
      omega
    rw [List.getElem?_eq_getElem hlt]
    exact hw _ (by simp)
  · rfl
theorem take_snocL {w : List UInt8} {n : Nat} {c : UInt8} (h : w[n]? = some c) : w.take (n + 1) = w.take n ++ [c] := by
  rw [List.take_add_one, h]; rfl
/-- the halving goes on: what is a word of turns is turned back about its middle -/
theorem half_up {w : List UInt8} {n : Nat} {c : UInt8} (h1 : w.length = 2 * n + 1) (hc : w[n]? = some c) (h2 : w.drop (n + 1) = backL (w.take n)) {cs : List UInt8} (h : w.take n = turnsL cs) : w = turnsL (cs ++ [c]) := by
  rw [turnsL_snoc, ← h, ← h2, ← take_snocL hc, List.take_append_drop]
theorem half_down {w : List UInt8} {cs : List UInt8} (h : w = turnsL cs) (h0 : w ≠ []) : ∃ cs' c, cs = cs' ++ [c] ∧ w.length = 2 * (w.length / 2) + 1 ∧ w[w.length / 2]? = some c ∧ w.drop (w.length / 2 + 1) = backL (w.take (w.length / 2)) ∧ w.take (w.length / 2) = turnsL cs' := by
  induction cs using rev_ind with
  | h0 => exact absurd h h0
  | h1 l c _ =>
    refine ⟨l, c, rfl, ?_⟩
    rw [turnsL_snoc] at h
    have hl : w.length = 2 * (turnsL l).length + 1 := by rw [h]; simp [backL_len]; omega
    have hh : w.length / 2 = (turnsL l).length := by omega
    rw [hh]
    refine ⟨by omega, ?_, ?_, ?_⟩
    · rw [h]; simp
    · rw [h, List.append_assoc, List.take_left]
      rw [← List.append_assoc]
      exact List.drop_left' (by simp)
    · rw [h, List.append_assoc, List.take_left]

theorem turnsL_wd_of (o : List UInt8) : (∀ c ∈ turnsL o, wdC c = true) → ∀ c ∈ o, wdC c = true := by
  induction o using rev_ind with
  | h0 => intro _ c hc; simp at hc
  | h1 l a ih =>
    intro h c hc
    rw [turnsL_snoc] at h
    simp only [List.mem_append, List.mem_singleton] at hc
    rcases hc with hc | rfl
    · exact ih (fun d hd => h d (by simp [hd])) c hc
    · exact h c (by simp)
/-- what the halving keeps: the list is the word of turns of what is left and what has come -/
def Half (l t o : List UInt8) : Prop := (∀ cs, t = turnsL cs → l = turnsL (cs ++ o)) ∧ ∀ ds, l = turnsL ds → ∃ cs, ds = cs ++ o ∧ t = turnsL cs
theorem Half.start (l : List UInt8) : Half l l [] := ⟨fun cs h => by rw [List.append_nil]; exact h, fun ds h => ⟨ds, by simp, h⟩⟩
theorem Half.step {l t o : List UInt8} {n : Nat} {c : UInt8} (h : Half l t o) (h1 : t.length = 2 * n + 1) (hc : t[n]? = some c) (h2 : t.drop (n + 1) = backL (t.take n)) : Half l (t.take n) (c :: o) := by
  refine ⟨fun cs hcs => ?_, fun ds hds => ?_⟩
  · have := h.1 _ (half_up h1 hc h2 hcs)
    rw [this]; simp
  · obtain ⟨cs, e, ht⟩ := h.2 ds hds
    obtain ⟨cs', c', e1, e2, e3, e4, e5⟩ := half_down ht (by intro e; rw [e] at h1; simp at h1)
    have hn : t.length / 2 = n := by omega
    rw [hn] at e3 e5
    obtain rfl : c' = c := Option.some.inj (e3.symm.trans hc)
    exact ⟨cs', by rw [e, e1]; simp, e5⟩
theorem Half.bad {l t o : List UInt8} (h : Half l t o) (h0 : t ≠ []) (hb : t.length % 2 = 0 ∨ t.drop (t.length / 2 + 1) ≠ backL (t.take (t.length / 2))) (cs : List UInt8) : turnsL cs ≠ l := by
  intro e
  obtain ⟨cs', e1, ht⟩ := h.2 cs e.symm
  obtain ⟨_, _, _, e2, _, e4, _⟩ := half_down ht h0
  rcases hb with hb | hb
  · omega
  · exact hb e4
theorem Half.done {l o : List UInt8} (h : Half l [] o) : turnsL o = l := by
  have := h.1 [] rfl
  rw [this]; simp

/-! ### sums -/
def sgn (c : UInt8) : Int := if c = 108 then 1 else -1
def sumL (l : List UInt8) : Int := l.foldl (fun n c => n + sgn c) 0
theorem sumL_snoc (l : List UInt8) (c : UInt8) : sumL (l ++ [c]) = sumL l + sgn c := by simp [sumL]
theorem sumL_append (a b : List UInt8) : sumL (a ++ b) = sumL a + sumL b := by
  induction b using rev_ind with
  | h0 => simp [sumL]
  | h1 l c ih => rw [← List.append_assoc, sumL_snoc, sumL_snoc, ih]; omega
theorem sgn_oth {c : UInt8} (h : wdC c = true) : sgn (oth c) = - sgn c := by
  rcases wdC_or h with rfl | rfl <;> rfl
theorem sumL_back {l : List UInt8} (h : ∀ c ∈ l, wdC c = true) : sumL (backL l) = - sumL l := by
  induction l using rev_ind with
  | h0 => rfl
  | h1 l c ih =>
    rw [backL_snoc, show oth c :: backL l = [oth c] ++ backL l from rfl, sumL_append, sumL_snoc, ih (fun c hc => h c (by simp [hc])), show sumL [oth c] = sgn (oth c) by simp [sumL], sgn_oth (h c (by simp))]
    omega
theorem sgn_one (c : UInt8) : sgn c = 1 ∨ sgn c = -1 := by unfold sgn; split; exact Or.inl rfl; exact Or.inr rfl
theorem sumL_in (l : List UInt8) : -(l.length : Int) ≤ sumL l ∧ sumL l ≤ l.length ∧ (sumL l - l.length) % 2 = 0 := by
  induction l using rev_ind with
  | h0 => simp [sumL]
  | h1 l c ih =>
    rw [sumL_snoc, List.length_append, List.length_singleton]
    rcases sgn_one c with h | h <;> rw [h] <;> omega
theorem sumL_unfold {l : List UInt8} (h : ∀ c ∈ l, wdC c = true) (c : UInt8) : sumL (l ++ [c] ++ backL l) = sgn c := by
  rw [sumL_append, sumL_snoc, sumL_back h]; omega
theorem sumL_turns {l : List UInt8} (h : ∀ c ∈ l, wdC c = true) (c : UInt8) : sumL (turnsL (l ++ [c])) = sgn c := by
  rw [turnsL_snoc, sumL_unfold (turnsL_wd l h)]
end Go.Proofs.YtmdnfamjdogogaaDoor

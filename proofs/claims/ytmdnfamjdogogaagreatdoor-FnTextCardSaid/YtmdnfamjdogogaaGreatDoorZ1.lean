/- Merged texts: DMath Zh Zm Reg Ga Oo Zo Rd Wm Da Dit By Wa Tz Fl Fm Pv Vl. No law is stated here. -/
import Derived.Test.YtmdnfamjdogogaaGreatDoorRows
import Derived.Lib.Split
import Derived.Tactics2
import Derived.Orders
import Derived.OrdersHeld
import Derived.Below
import Derived.WalkKit
import Derived.Deep.Quiet
import Derived.ProofKit
import Derived.WalkSpells
import Derived.WalkLawsBesides
import Derived.Lib.Hide
import Derived.Laws.ResultCell
import Derived.Laws.RangeString
import Derived.Laws.RangeAny
import Derived.Deep.LoopGhost
import Derived.Lib.OthersKept
import Derived.Outline
import Derived.Test.YtmdnfamjdogogaaGreatDoorShelf
import Derived.Lib.ConvBytes
import Derived.Lib.AtoiErrMem
import Derived.Laws.BitsAllLaws
import Derived.BigCall
import Derived.BigGuard
import Derived.Laws.Externs
import Derived.Shelf.Pu.ToErrorRange
import Derived.OpenShut
import Derived.ChangeSame
import Derived.JoinedOf
import Derived.JoinedAt
import Derived.RowKit3
import Derived.Lib.SmallJoins
import Derived.LaidMore
import Derived.Stop.LaidErr
import Derived.ChangeVars
import Derived.ChangeStays
import Derived.WideKeyArgs
import Derived.WalkSmall
import Derived.Carry
import Derived.OwnWalk
import Derived.Laws.IdiomStrings
import Derived.Deep.DeepCutAuto
import Derived.Laws.ComplexArith
import GoSem.Op.Unary
namespace Go.Proofs.YtmdnfamjdogogaaGreatDoor
set_option linter.unusedSimpArgs false
set_option linter.unusedVariables false

/-- a byte list is an expansion -/
def vldL (l : List UInt8) : Bool := decide (1 ≤ l.length) && decide (l.length ≤ 50) && (l == [48] || !(l.head? == some 48)) && l.all fun c => c == 48 || c == 49
/-- the digit that a byte is -/
def dg (c : UInt8) : Int := (c.toNat : Int) - 48
def bitC (c : UInt8) : Bool := c == 48 || c == 49
theorem bitC_iff (c : UInt8) : bitC c = true ↔ c.toNat = 48 ∨ c.toNat = 49 := by
  unfold bitC
  rw [Bool.or_eq_true, beq_iff_eq, beq_iff_eq, ← UInt8.toNat_inj, ← UInt8.toNat_inj]
  rfl
theorem bitC_not {c : UInt8} (h : ¬ (c.toNat = 48 ∨ c.toNat = 49)) : bitC c = false := by
  rw [← Bool.not_eq_true, bitC_iff]; exact h
theorem dg_bit {c : UInt8} (h : bitC c = true) : 0 ≤ dg c ∧ dg c ≤ 1 := by
  rw [bitC_iff] at h; unfold dg; omega
theorem vldL_iff (l : List UInt8) : vldL l = true ↔ 1 ≤ l.length ∧ l.length ≤ 50 ∧ (l = [48] ∨ l.head? ≠ some 48) ∧ ∀ c ∈ l, bitC c = true := by
  simp only [vldL, bitC, Bool.and_eq_true, decide_eq_true_eq, Bool.or_eq_true, beq_iff_eq, List.all_eq_true, Bool.not_eq_true', beq_eq_false_iff_ne, ne_eq]
  grind

/-! ### values -/
def valF (l : List UInt8) : Int × Int := l.foldl (fun z c => (-z.1 - z.2 + dg c, z.1 - z.2)) (0, 0)
def valX (l : List UInt8) : Int := (valF l).1
def valY (l : List UInt8) : Int := (valF l).2
theorem valX_nil : valX [] = 0 := rfl
theorem valY_nil : valY [] = 0 := rfl
theorem valX_snoc (l : List UInt8) (c : UInt8) : valX (l ++ [c]) = -valX l - valY l + dg c := by simp [valX, valY, valF]
theorem valY_snoc (l : List UInt8) (c : UInt8) : valY (l ++ [c]) = valX l - valY l := by simp [valX, valY, valF]
theorem rev_ind {α : Type} {P : List α → Prop} (h0 : P []) (h1 : ∀ l a, P l → P (l ++ [a])) (l : List α) : P l := by
  rw [← List.reverse_reverse l]
  induction l.reverse with
  | nil => exact h0
  | cons a r ih => rw [List.reverse_cons]; exact h1 _ _ ih
theorem val_le (l : List UInt8) (h : ∀ c ∈ l, bitC c = true) : (-(2 ^ l.length : Nat) + 1 ≤ valX l ∧ valX l ≤ (2 ^ l.length : Nat) - 1) ∧ (-(2 ^ l.length : Nat) + 1 ≤ valY l ∧ valY l ≤ (2 ^ l.length : Nat) - 1) := by
  induction l using rev_ind with
  | h0 => simp [valX, valY, valF]
  | h1 l c ih =>
    have hc := dg_bit (h c (by simp))
    have := ih fun c hc => h c (by simp [hc])
    rw [valX_snoc, valY_snoc, List.length_append, List.length_singleton, Nat.pow_succ]
    generalize 2 ^ l.length = n at *
    omega
theorem pow_le50 {k n : Nat} (h : k ≤ n) : 2 ^ k ≤ 2 ^ n := Nat.pow_le_pow_right (by omega) h
theorem val_in {l : List UInt8} (h : ∀ c ∈ l, bitC c = true) (hl : l.length ≤ 50) : (-1125899906842624 ≤ valX l ∧ valX l ≤ 1125899906842624) ∧ (-1125899906842624 ≤ valY l ∧ valY l ≤ 1125899906842624) := by
  have a := val_le l h
  have b := pow_le50 hl
  have e : (2 : Nat) ^ 50 = 1125899906842624 := by decide
  rw [e] at b
  omega

/-! ### binary numbers -/
def idxF (l : List UInt8) : Int := l.foldl (fun n c => 2 * n + dg c) 0
theorem idxF_snoc (l : List UInt8) (c : UInt8) : idxF (l ++ [c]) = 2 * idxF l + dg c := by simp [idxF]
theorem idx_le (l : List UInt8) (h : ∀ c ∈ l, bitC c = true) : 0 ≤ idxF l ∧ idxF l ≤ (2 ^ l.length : Nat) - 1 := by
  induction l using rev_ind with
  | h0 => simp [idxF]
  | h1 l c ih =>
    have hc := dg_bit (h c (by simp))
    have := ih fun c hc => h c (by simp [hc])
    rw [idxF_snoc, List.length_append, List.length_singleton, Nat.pow_succ]
    generalize 2 ^ l.length = n at *
    omega
theorem idx_in {l : List UInt8} (h : ∀ c ∈ l, bitC c = true) (hl : l.length ≤ 50) : 0 ≤ idxF l ∧ idxF l ≤ 1125899906842623 := by
  have a := idx_le l h
  have b := pow_le50 hl
  have e : (2 : Nat) ^ 50 = 1125899906842624 := by decide
  rw [e] at b
  omega

/-! ### the bytes of a string -/
abbrev toL (s : ByteArray) : List UInt8 := s.data.toList
def bs (l : List UInt8) : ByteArray := ⟨l.toArray⟩
theorem bs_toL (s : ByteArray) : bs (toL s) = s := by simp [bs, toL]
theorem toL_bs (l : List UInt8) : toL (bs l) = l := by simp [bs, toL]
theorem toL_len (s : ByteArray) : (toL s).length = s.size := Array.length_toList
theorem toL_get (s : ByteArray) (k : Nat) (h : k < s.size) : (toL s)[k]? = some s[k] := by
  have : k < s.data.size := h
  show s.data.toList[k]? = _
  rw [Array.getElem?_toList, Array.getElem?_eq_getElem this]; rfl
theorem take_snocB (s : ByteArray) (k : Nat) (h : k < s.size) : (toL s).take (k + 1) = (toL s).take k ++ [s[k]] := by
  rw [List.take_add_one, toL_get s k h]; rfl
theorem take_allB (s : ByteArray) (k : Nat) (h : s.size ≤ k) : (toL s).take k = toL s := List.take_of_length_le (by rw [toL_len]; exact h)
/-- a string is an expansion -/
def vldB (s : ByteArray) : Bool := vldL (toL s)
theorem vldB_len {s : ByteArray} (h : vldB s = true) : 1 ≤ s.size ∧ s.size ≤ 50 := by
  have := (vldL_iff _).1 h; rw [toL_len] at this; exact ⟨this.1, this.2.1⟩
theorem vldB_bits {s : ByteArray} (h : vldB s = true) : ∀ c ∈ toL s, bitC c = true := ((vldL_iff _).1 h).2.2.2
theorem vldB_at {s : ByteArray} (h : vldB s = true) (k : Nat) (hk : k < s.size) : s[k].toNat = 48 ∨ s[k].toNat = 49 :=
  (bitC_iff _).1 (vldB_bits h _ (List.mem_of_getElem? (toL_get s k hk)))
theorem take_bits {s : ByteArray} (h : vldB s = true) (k : Nat) : ∀ c ∈ (toL s).take k, bitC c = true := fun c hc => vldB_bits h c (List.mem_of_mem_take hc)
theorem toL_ext {s t : ByteArray} (h : toL s = toL t) : s = t := by rw [← bs_toL s, ← bs_toL t, h]
/-- ways out of an expansion -/
theorem vldB_empty {s : ByteArray} (h : s.size < 1) : vldB s = false := by
  rw [← Bool.not_eq_true]; intro e; have := vldB_len e; omega
theorem vldB_long {s : ByteArray} (h : 50 < s.size) : vldB s = false := by
  rw [← Bool.not_eq_true]; intro e; have := vldB_len e; omega
theorem vldB_lead {s : ByteArray} (h0 : 0 < s.size) (h : s[0].toNat = 48) (h1 : (toL s == [48]) = false) : vldB s = false := by
  rw [← Bool.not_eq_true]
  intro e
  have := ((vldL_iff _).1 e).2.2.1
  have g := toL_get s 0 h0
  rw [← List.head?_eq_getElem?] at g
  rcases this with h2 | h2
  · rw [h2] at h1; simp at h1
  · rw [g] at h2; apply h2; rw [Option.some.injEq, ← UInt8.toNat_inj, h]; rfl
theorem vldB_bad {s : ByteArray} (k : Nat) (hk : k < s.size) (h : ¬ (s[k].toNat = 48 ∨ s[k].toNat = 49)) : vldB s = false := by
  rw [← Bool.not_eq_true]; intro e; exact h (vldB_at e k hk)
theorem vldB_good {s : ByteArray} (h0 : 1 ≤ s.size) (h1 : s.size ≤ 50) (h2 : (toL s == [48]) = true ∨ s[0].toNat ≠ 48) (h3 : ∀ c ∈ toL s, bitC c = true) : vldB s = true := by
  refine (vldL_iff _).2 ⟨by rw [toL_len]; exact h0, by rw [toL_len]; exact h1, ?_, h3⟩
  rcases h2 with h2 | h2
  · exact Or.inl (by simpa using h2)
  · right
    have g := toL_get s 0 (by omega)
    rw [← List.head?_eq_getElem?] at g
    rw [g]
    intro e
    apply h2
    rw [Option.some.injEq] at e
    rw [e]; rfl
end Go.Proofs.YtmdnfamjdogogaaGreatDoor

namespace Go.Proofs.YtmdnfamjdogogaaGreatDoor
set_option linter.unusedSimpArgs false
set_option linter.unusedVariables false

def hexc (d : Nat) : UInt8 := if d < 10 then UInt8.ofNat (48 + d) else UInt8.ofNat (87 + d)
theorem lt16 {d : Nat} (h : d < 16) : d = 0 ∨ d = 1 ∨ d = 2 ∨ d = 3 ∨ d = 4 ∨ d = 5 ∨ d = 6 ∨ d = 7 ∨ d = 8 ∨ d = 9 ∨ d = 10 ∨ d = 11 ∨ d = 12 ∨ d = 13 ∨ d = 14 ∨ d = 15 := by omega
theorem hexc_inj {a b : Nat} (ha : a < 16) (hb : b < 16) (h : hexc a = hexc b) : a = b := by
  have key : ∀ i : Fin 16, ∀ j : Fin 16, hexc i.1 = hexc j.1 → i.1 = j.1 := by decide
  exact key ⟨a, ha⟩ ⟨b, hb⟩ h
def hl (K n : Nat) : List UInt8 := (List.range (K + 1)).map fun j => hexc (n / 16 ^ (K - j) % 16)
theorem hl_len (K n : Nat) : (hl K n).length = K + 1 := by simp [hl]
theorem hl_at {K n t : Nat} (h : t ≤ K) : (hl K n)[t]? = some (hexc (n / 16 ^ (K - t) % 16)) := by
  unfold hl
  rw [List.getElem?_map, List.getElem?_range (by omega)]; rfl
theorem hl_take {K n t : Nat} (h : t ≤ K) : (hl K n).take (t + 1) = (hl K n).take t ++ [hexc (n / 16 ^ (K - t) % 16)] := by
  rw [List.take_add_one, hl_at h]; rfl
theorem hl_pad {k n : Nat} (hk : k ≤ 7) (h : n / 16 ^ k < 16) : List.replicate (7 - k) 48 ++ hl k n = hl 7 n := by
  apply List.ext_getElem?
  intro j
  by_cases hj : j < 7 - k
  · rw [List.getElem?_append_left (by rw [List.length_replicate]; exact hj), List.getElem?_replicate, if_pos hj, hl_at (by omega)]
    have e : n / 16 ^ (7 - j) = 0 := by
      have e1 : 7 - j = k + (7 - j - k) := by omega
      rw [e1, Nat.pow_add, ← Nat.div_div_eq_div_mul]
      apply Nat.div_eq_of_lt
      refine Nat.lt_of_lt_of_le h ?_
      calc 16 = 16 ^ 1 := rfl
        _ ≤ 16 ^ (7 - j - k) := Nat.pow_le_pow_right (by omega) (by omega)
    rw [e]; rfl
  · rw [List.getElem?_append_right (by rw [List.length_replicate]; omega), List.length_replicate]
    by_cases h7 : j ≤ 7
    · rw [hl_at (by omega), hl_at h7, show k - (j - (7 - k)) = 7 - j by omega]
    · rw [List.getElem?_eq_none (by rw [hl_len]; omega), List.getElem?_eq_none (by rw [hl_len]; omega)]
theorem hl_eight (f : Nat → UInt8) : (List.range 8).map f = [f 0, f 1, f 2, f 3, f 4, f 5, f 6, f 7] := rfl
theorem hl7 (n : Nat) : hl 7 n = [hexc (n / 268435456 % 16), hexc (n / 16777216 % 16), hexc (n / 1048576 % 16), hexc (n / 65536 % 16), hexc (n / 4096 % 16), hexc (n / 256 % 16), hexc (n / 16 % 16), hexc (n % 16)] := by
  have h : hl 7 n = (List.range 8).map fun j => hexc (n / 16 ^ (7 - j) % 16) := by unfold hl; with_reducible rfl
  rw [h, hl_eight]
  simp only [Nat.reduceSub, Nat.reducePow, Nat.sub_self, Nat.sub_zero, Nat.pow_zero, Nat.div_one]
/-- the sign turned: the first digit alone is another -/
def flip (x : Nat) : Nat := if x < 2147483648 then x + 2147483648 else x - 2147483648
theorem flip_hex {x : Nat} (h : x < 4294967296) : (hl 7 (flip x)).drop 1 = (hl 7 x).drop 1 ∧ (hl 7 (flip x)).head? ≠ (hl 7 x).head? := by
  have e : ∃ y, y < 2147483648 ∧ ((x = y ∧ flip x = y + 2147483648) ∨ (x = y + 2147483648 ∧ flip x = y)) := by
    unfold flip
    by_cases hx : x < 2147483648
    · exact ⟨x, hx, Or.inl ⟨rfl, by rw [if_pos hx]⟩⟩
    · exact ⟨x - 2147483648, by omega, Or.inr ⟨by omega, by rw [if_neg hx]⟩⟩
  obtain ⟨y, hy, h1⟩ := e
  have e1 : (y + 2147483648) / 16777216 % 16 = y / 16777216 % 16 := by omega
  have e2 : (y + 2147483648) / 1048576 % 16 = y / 1048576 % 16 := by omega
  have e3 : (y + 2147483648) / 65536 % 16 = y / 65536 % 16 := by omega
  have e4 : (y + 2147483648) / 4096 % 16 = y / 4096 % 16 := by omega
  have e5 : (y + 2147483648) / 256 % 16 = y / 256 % 16 := by omega
  have e6 : (y + 2147483648) / 16 % 16 = y / 16 % 16 := by omega
  have e7 : (y + 2147483648) % 16 = y % 16 := by omega
  have e0 : (y + 2147483648) / 268435456 % 16 ≠ y / 268435456 % 16 := by omega
  have d1 : (hl 7 (y + 2147483648)).drop 1 = (hl 7 y).drop 1 := by
    rw [hl7, hl7, e1, e2, e3, e4, e5, e6, e7]
    simp only [List.drop_succ_cons, List.drop_zero]
  have d2 : (hl 7 (y + 2147483648)).head? ≠ (hl 7 y).head? := by
    rw [hl7, hl7]
    intro hh
    simp only [List.head?_cons, Option.some.injEq] at hh
    exact e0 (hexc_inj (Nat.mod_lt _ (by omega)) (Nat.mod_lt _ (by omega)) hh)
  rcases h1 with ⟨rfl, hf⟩ | ⟨rfl, hf⟩
  · rw [hf]; exact ⟨d1, d2⟩
  · rw [hf]; exact ⟨d1.symm, d2.symm⟩
/-- the letter out of the table of digits -/
theorem hex_pick {d : Nat} (h : d < 16) : (⟨#[48, 49, 50, 51, 52, 53, 54, 55, 56, 57, 97, 98, 99, 100, 101, 102]⟩ : ByteArray).extract d (d + 1) = bs [hexc d] := by
  have key : ∀ i : Fin 16, (⟨#[48, 49, 50, 51, 52, 53, 54, 55, 56, 57, 97, 98, 99, 100, 101, 102]⟩ : ByteArray).extract i.1 (i.1 + 1) = bs [hexc i.1] := by decide +kernel
  exact key ⟨d, h⟩
end Go.Proofs.YtmdnfamjdogogaaGreatDoor

namespace Go.Proofs.YtmdnfamjdogogaaGreatDoor
set_option linter.unusedSimpArgs false
set_option linter.unusedVariables false

def NoSp (l : List UInt8) : Prop := ∀ c ∈ l, c ≠ 32
theorem NoSp.cons {c : UInt8} {l : List UInt8} (h : NoSp (c :: l)) : c ≠ 32 ∧ NoSp l := ⟨h c (by simp), fun d hd => h d (by simp [hd])⟩
theorem noSp_nil : NoSp [] := fun _ h => by cases h
/-- cut at all spaces -/
def cuts : List UInt8 → List (List UInt8)
  | [] => [[]]
  | c :: r => if c = 32 then [] :: cuts r else match cuts r with
    | [] => [[c]]
    | p :: ps => (c :: p) :: ps
theorem cuts_no : ∀ {l : List UInt8}, NoSp l → cuts l = [l]
  | [], _ => rfl
  | c :: r, h => by
    obtain ⟨h1, h2⟩ := h.cons
    unfold cuts
    rw [if_neg h1, cuts_no h2]
theorem cuts_hit : ∀ {a r : List UInt8}, NoSp a → cuts (a ++ 32 :: r) = a :: cuts r
  | [], r, _ => by
    show cuts (32 :: r) = _
    rw [cuts, if_pos rfl]
  | c :: a, r, h => by
    obtain ⟨h1, h2⟩ := h.cons
    show cuts (c :: (a ++ 32 :: r)) = _
    rw [cuts, if_neg h1, cuts_hit h2]
theorem sp_cases : ∀ l : List UInt8, NoSp l ∨ ∃ a r, l = a ++ 32 :: r ∧ NoSp a
  | [] => Or.inl noSp_nil
  | c :: l => by
    by_cases hc : c = 32
    · exact Or.inr ⟨[], l, by rw [hc]; rfl, noSp_nil⟩
    · rcases sp_cases l with h | ⟨a, r, rfl, h⟩
      · left
        intro d hd
        rcases List.mem_cons.1 hd with rfl | hd
        · exact hc
        · exact h d hd
      · refine Or.inr ⟨c :: a, r, rfl, fun d hd => ?_⟩
        rcases List.mem_cons.1 hd with rfl | hd
        · exact hc
        · exact h d hd
theorem sp_cancel : ∀ {a b r t : List UInt8}, NoSp a → NoSp b → a ++ 32 :: r = b ++ 32 :: t → a = b ∧ r = t
  | [], [], r, t, _, _, h => ⟨rfl, by simpa using h⟩
  | [], d :: b, r, t, _, hb, h => by
    have : 32 = d := by simpa using (List.cons.inj h).1
    exact absurd this.symm hb.cons.1
  | c :: a, [], r, t, ha, _, h => by
    have : c = 32 := by simpa using (List.cons.inj h).1
    exact absurd this ha.cons.1
  | c :: a, d :: b, r, t, ha, hb, h => by
    obtain ⟨h1, h2⟩ := List.cons.inj h
    obtain ⟨e1, e2⟩ := sp_cancel ha.cons.2 hb.cons.2 h2
    exact ⟨by rw [h1, e1], e2⟩
theorem index_sp : ∀ {a r : List UInt8}, NoSp a → Lib.index (a ++ 32 :: r) [32] = (a.length : Int)
  | [], r, _ => by
    show Lib.index (32 :: r) [32] = _
    have h0 : ([32] : List UInt8).isPrefixOf (32 :: r) = true := by simp [List.isPrefixOf]
    have e : Lib.index (32 :: r) [32] = if ([32] : List UInt8).isPrefixOf (32 :: r) then 0 else if Lib.index r [32] == -1 then -1 else Lib.index r [32] + 1 := rfl
    rw [e, h0]; rfl
  | c :: a, r, h => by
    obtain ⟨h1, h2⟩ := h.cons
    show Lib.index (c :: (a ++ 32 :: r)) [32] = _
    have h3 : ([32] : List UInt8).isPrefixOf (c :: (a ++ 32 :: r)) = false := by
      show ((32 == c) && _) = false
      rw [beq_eq_false_iff_ne.2 (Ne.symm h1)]; rfl
    have e : Lib.index (c :: (a ++ 32 :: r)) [32] = if ([32] : List UInt8).isPrefixOf (c :: (a ++ 32 :: r)) then 0 else if Lib.index (a ++ 32 :: r) [32] == -1 then -1 else Lib.index (a ++ 32 :: r) [32] + 1 := rfl
    rw [e, h3, index_sp h2, if_neg (by decide)]
    have h4 : ((a.length : Int) == -1) = false := beq_eq_false_iff_ne.2 (by omega)
    rw [h4, if_neg (by decide), List.length_cons]; omega
theorem index_no : ∀ {l : List UInt8}, NoSp l → Lib.index l [32] = -1
  | [], _ => rfl
  | c :: l, h => by
    obtain ⟨h1, h2⟩ := h.cons
    have h3 : ([32] : List UInt8).isPrefixOf (c :: l) = false := by
      show ((32 == c) && _) = false
      rw [beq_eq_false_iff_ne.2 (Ne.symm h1)]; rfl
    have e : Lib.index (c :: l) [32] = if ([32] : List UInt8).isPrefixOf (c :: l) then 0 else if Lib.index l [32] == -1 then -1 else Lib.index l [32] + 1 := rfl
    rw [e, h3, index_no h2]; rfl
theorem splitK_no {k : Nat} {l : List UInt8} (h : NoSp l) : Lib.splitK [32] 0 k l = [l] := by
  cases k with
  | zero => rfl
  | succ k =>
    have e : Lib.splitK [32] 0 (k + 1) l = if Lib.index l [32] == -1 then [l] else l.take ((Lib.index l [32]).toNat + 0) :: Lib.splitK [32] 0 k (l.drop ((Lib.index l [32]).toNat + 1)) := rfl
    rw [e, index_no h]; rfl
theorem splitK_hit {k : Nat} {a r : List UInt8} (h : NoSp a) : Lib.splitK [32] 0 (k + 1) (a ++ 32 :: r) = a :: Lib.splitK [32] 0 k r := by
  have e : ∀ s, Lib.splitK [32] 0 (k + 1) s = if Lib.index s [32] == -1 then [s] else s.take ((Lib.index s [32]).toNat + 0) :: Lib.splitK [32] 0 k (s.drop ((Lib.index s [32]).toNat + 1)) := fun _ => rfl
  have h4 : ((a.length : Int) == -1) = false := beq_eq_false_iff_ne.2 (by omega)
  rw [e, index_sp h, h4, if_neg (by decide), Int.toNat_natCast, Nat.add_zero, List.take_left]
  congr 1
  rw [← List.drop_drop, List.drop_left]; rfl
theorem splitK_len : ∀ (k : Nat) (l : List UInt8), (Lib.splitK [32] 0 k l).length ≤ k + 1
  | 0, _ => Nat.le_refl _
  | k + 1, l => by
    rcases sp_cases l with h | ⟨a, r, rfl, h⟩
    · rw [splitK_no h]; simp
    · rw [splitK_hit h, List.length_cons]; have := splitK_len k r; omega
/-- four pieces -/
theorem four_cases (l : List UInt8) : (Lib.splitK [32] 0 3 l).length < 4 ∧ (cuts l).length < 4 ∨
    ∃ a b c d, Lib.splitK [32] 0 3 l = [a, b, c, d] ∧ l = a ++ 32 :: (b ++ 32 :: (c ++ 32 :: d)) ∧ NoSp a ∧ NoSp b ∧ NoSp c ∧ cuts l = a :: b :: c :: cuts d := by
  rcases sp_cases l with h | ⟨a, r, rfl, h⟩
  · left; rw [splitK_no h, cuts_no h]; exact ⟨by simp, by simp⟩
  rw [splitK_hit h, cuts_hit h]
  rcases sp_cases r with h1 | ⟨b, r, rfl, h1⟩
  · left; rw [splitK_no h1, cuts_no h1]; exact ⟨by simp, by simp⟩
  rw [splitK_hit h1, cuts_hit h1]
  rcases sp_cases r with h2 | ⟨c, d, rfl, h2⟩
  · left; rw [splitK_no h2, cuts_no h2]; exact ⟨by simp, by simp⟩
  right
  rw [splitK_hit h2, cuts_hit h2]
  exact ⟨a, b, c, d, rfl, rfl, h, h1, h2, rfl⟩
theorem cuts_pos (l : List UInt8) : 0 < (cuts l).length := by
  rcases sp_cases l with h | ⟨a, r, rfl, h⟩
  · rw [cuts_no h]; simp
  · rw [cuts_hit h]; simp
theorem cuts_one {l x : List UInt8} (h : cuts l = [x]) : x = l ∧ NoSp l := by
  rcases sp_cases l with h1 | ⟨a, r, rfl, h1⟩
  · rw [cuts_no h1] at h; exact ⟨(List.cons.inj h).1.symm, h1⟩
  · rw [cuts_hit h1] at h
    have := cuts_pos r
    rw [(List.cons.inj h).2] at this; simp at this

/-! ### digits -/
def hexd (c : UInt8) : Nat := if 48 ≤ c.toNat ∧ c.toNat ≤ 57 then c.toNat - 48 else if 97 ≤ c.toNat ∧ c.toNat ≤ 102 then c.toNat - 87 else 16
theorem hexd_hexc {d : Nat} (h : d < 16) : hexd (hexc d) = d := by
  have key : ∀ i : Fin 16, hexd (hexc i.1) = i.1 := by decide
  exact key ⟨d, h⟩
theorem hexc_hexd {c : UInt8} (h : hexd c < 16) : hexc (hexd c) = c := by
  have key : ∀ i : Fin 256, hexd (UInt8.ofNat i.1) < 16 → hexc (hexd (UInt8.ofNat i.1)) = UInt8.ofNat i.1 := by decide +kernel
  have e : UInt8.ofNat c.toNat = c := by simp
  have := key ⟨c.toNat, c.toNat_lt⟩
  rw [e] at this
  exact this h
def okX (l : List UInt8) : Bool := decide (l.length = 8) && l.all fun c => decide (hexd c < 16)
def vX (l : List UInt8) : Nat := l.foldl (fun n c => n * 16 + hexd c) 0
theorem okX_iff {l : List UInt8} : okX l = true ↔ l.length = 8 ∧ ∀ c ∈ l, hexd c < 16 := by
  unfold okX
  simp [List.all_eq_true]
theorem eight_of {l : List UInt8} (h : l.length = 8) : ∃ a b c d e f g i, l = [a, b, c, d, e, f, g, i] := by
  match l, h with
  | [a, b, c, d, e, f, g, i], _ => exact ⟨a, b, c, d, e, f, g, i, rfl⟩
theorem vX_eight (a b c d e f g i : UInt8) : vX [a, b, c, d, e, f, g, i] = ((((((hexd a * 16 + hexd b) * 16 + hexd c) * 16 + hexd d) * 16 + hexd e) * 16 + hexd f) * 16 + hexd g) * 16 + hexd i := by
  simp [vX]
theorem vX_take {l : List UInt8} {k : Nat} (h : k < l.length) : vX (l.take (k + 1)) = vX (l.take k) * 16 + hexd l[k] := by
  unfold vX
  rw [List.take_add_one, List.getElem?_eq_getElem h, List.foldl_append]; rfl
theorem hl_ok (n : Nat) : okX (hl 7 n) = true := by
  rw [okX_iff, hl_len]
  refine ⟨rfl, fun c hc => ?_⟩
  unfold hl at hc
  obtain ⟨j, -, rfl⟩ := List.mem_map.1 hc
  rw [hexd_hexc (Nat.mod_lt _ (by omega))]
  exact Nat.mod_lt _ (by omega)
theorem vX_hl {n : Nat} (h : n < 4294967296) : vX (hl 7 n) = n := by
  rw [hl7, vX_eight]
  simp only [hexd_hexc (Nat.mod_lt _ (show 0 < 16 by omega))]
  omega
theorem vX_lt {l : List UInt8} (h : okX l = true) : vX l < 4294967296 := by
  obtain ⟨h8, hd⟩ := okX_iff.1 h
  obtain ⟨a, b, c, d, e, f, g, i, rfl⟩ := eight_of h8
  rw [vX_eight]
  have h1 := hd a (by simp); have h2 := hd b (by simp); have h3 := hd c (by simp); have h4 := hd d (by simp)
  have h5 := hd e (by simp); have h6 := hd f (by simp); have h7 := hd g (by simp); have h9 := hd i (by simp)
  omega
theorem hl_vX {l : List UInt8} (h : okX l = true) : hl 7 (vX l) = l := by
  obtain ⟨h8, hd⟩ := okX_iff.1 h
  obtain ⟨a, b, c, d, e, f, g, i, rfl⟩ := eight_of h8
  have h1 := hd a (by simp); have h2 := hd b (by simp); have h3 := hd c (by simp); have h4 := hd d (by simp)
  have h5 := hd e (by simp); have h6 := hd f (by simp); have h7 := hd g (by simp); have h9 := hd i (by simp)
  have k1 := hexc_hexd h1; have k2 := hexc_hexd h2; have k3 := hexc_hexd h3; have k4 := hexc_hexd h4
  have k5 := hexc_hexd h5; have k6 := hexc_hexd h6; have k7 := hexc_hexd h7; have k9 := hexc_hexd h9
  rw [vX_eight, hl7]
  clear h hd h8
  generalize hexd a = A at *
  generalize hexd b = B at *
  generalize hexd c = C at *
  generalize hexd d = D at *
  generalize hexd e = E at *
  generalize hexd f = F at *
  generalize hexd g = G at *
  generalize hexd i = I at *
  rw [← k1, ← k2, ← k3, ← k4, ← k5, ← k6, ← k7, ← k9]
  have e1 : (((((((A * 16 + B) * 16 + C) * 16 + D) * 16 + E) * 16 + F) * 16 + G) * 16 + I) / 268435456 % 16 = A := by omega
  have e2 : (((((((A * 16 + B) * 16 + C) * 16 + D) * 16 + E) * 16 + F) * 16 + G) * 16 + I) / 16777216 % 16 = B := by omega
  have e3 : (((((((A * 16 + B) * 16 + C) * 16 + D) * 16 + E) * 16 + F) * 16 + G) * 16 + I) / 1048576 % 16 = C := by omega
  have e4 : (((((((A * 16 + B) * 16 + C) * 16 + D) * 16 + E) * 16 + F) * 16 + G) * 16 + I) / 65536 % 16 = D := by omega
  have e5 : (((((((A * 16 + B) * 16 + C) * 16 + D) * 16 + E) * 16 + F) * 16 + G) * 16 + I) / 4096 % 16 = E := by omega
  have e6 : (((((((A * 16 + B) * 16 + C) * 16 + D) * 16 + E) * 16 + F) * 16 + G) * 16 + I) / 256 % 16 = F := by omega
  have e7 : (((((((A * 16 + B) * 16 + C) * 16 + D) * 16 + E) * 16 + F) * 16 + G) * 16 + I) / 16 % 16 = G := by omega
  have e8 : (((((((A * 16 + B) * 16 + C) * 16 + D) * 16 + E) * 16 + F) * 16 + G) * 16 + I) % 16 = I := by omega
  rw [e1, e2, e3, e4, e5, e6, e7, e8]
theorem hl_noSp (n : Nat) : NoSp (hl 7 n) := by
  intro c hc e
  have := (okX_iff.1 (hl_ok n)).2 c hc
  rw [e] at this
  exact absurd this (by decide)
/-- the text of four parts -/
def txt (a : List UInt8) (x y n : Nat) : List UInt8 := a ++ 32 :: (hl 7 x ++ 32 :: (hl 7 y ++ 32 :: hl 7 n))
theorem cuts_txt {a : List UInt8} (h : NoSp a) (x y n : Nat) : cuts (txt a x y n) = [a, hl 7 x, hl 7 y, hl 7 n] := by
  unfold txt
  rw [cuts_hit h, cuts_hit (hl_noSp x), cuts_hit (hl_noSp y), cuts_no (hl_noSp n)]
end Go.Proofs.YtmdnfamjdogogaaGreatDoor

namespace Go.Proofs.YtmdnfamjdogogaaGreatDoor
set_option linter.unusedSimpArgs false
set_option linter.unusedVariables false
open Go.RowKit

section
variable {P : Program} {ops : Array Oper} {Q : Exit → Act → World → Prop} {S : World → Prop}

theorem Oper.wp_then {o : Oper} {a : Act} {w : World} {K : Act → World → Prop} (h : o.wp P a w K (Exit.then K Q)) : o.wp P a w K Q := by
  unfold Oper.wp at *
  generalize (execOp a.eval o).run P w = r at *
  cases r with
  | ok n w' =>
    cases n <;> simp only [Oper.upon] at h ⊢ <;>
      first
        | exact h
        | exact Calls.mono h (fun e w'' he => by cases e <;> exact he)
  | halt x w' => cases x <;> simp only [Oper.upon] at h ⊢ <;> exact h

theorem wpOp_of_list {i : Nat} {o : Oper} {K : Act → World → Prop} {a : Act} {w : World} (ho : ops[i]? = some o)
    (h : wpList P ops (Exit.then K Q) [o] a w) : wpOp P ops Q i K a w := by
  unfold wpOp
  rw [ho]
  simp only [wpList] at h
  simp only []
  split
  · rename_i hw
    rw [if_pos hw] at h
    rcases h with h | ⟨h1, h2⟩
    · exact Or.inl (Oper.wp_then h)
    · exact Or.inr ⟨h1, h2⟩
  · rename_i hw
    rw [if_neg hw] at h
    exact h

/-- the operations in their order; behind each S holds -/
def wpListS (P : Program) (ops : Array Oper) (Q : Exit → Act → World → Prop) (S : World → Prop) : List Oper → Act → World → Prop
  | [], a, w => Q .normal a w
  | o :: rest, a, w =>
    if Region.wanted o (yielded ops a.tmps) then o.wp P a w (fun a' w' => S w' ∧ wpListS P ops Q S rest a' w') Q ∨ (o.asks P a w ∧ LetsOut Q) else S w ∧ wpListS P ops Q S rest (a.put o.dst undef) w

theorem wpListS_step {o : Oper} {rest : List Oper} {a : Act} {w : World}
    (h : ∀ K : Act → World → Prop, (∀ a' w', S w' → wpListS P ops Q S rest a' w' → K a' w') → wpList P ops (Exit.then K Q) [o] a w) : wpListS P ops Q S (o :: rest) a w := by
  have h := h _ (fun a' w' h1 h2 => And.intro h1 h2)
  simp only [wpList] at h
  simp only [wpListS]
  split
  · rename_i hw
    rw [if_pos hw] at h
    rcases h with h | ⟨h1, h2⟩
    · exact Or.inl (Oper.wp_then h)
    · exact Or.inr ⟨h1, h2⟩
  · rename_i hw
    rw [if_neg hw] at h
    exact h

theorem wpListS_nil {a : Act} {w : World} (h : wpList P ops Q [] a w) : wpListS P ops Q S [] a w := h
theorem wpListS_true {l : List Oper} {a : Act} {w : World} (h : wpList P ops Q l a w) : wpListS P ops Q (fun _ => True) l a w := by
  induction l generalizing a w with
  | nil => exact h
  | cons o rest ih =>
    simp only [wpList] at h
    simp only [wpListS]
    split
    · rename_i hw
      rw [if_pos hw] at h
      exact h.imp (Oper.wp_mono fun a w h => ⟨trivial, ih h⟩) id
    · rename_i hw
      rw [if_neg hw] at h
      exact ⟨trivial, ih h⟩

/-- the frame l with u's values in the slots of D -/
def setU (D : List Nat) (u : Nat → Value) : Nat → List Value → List Value
  | _, [] => []
  | k, v :: r => (if D.contains k then u k else v) :: setU D u (k + 1) r
def upd (u : Nat → Value) (j : Nat) (v : Value) : Nat → Value := fun k => if k = j then v else u k

theorem setU_get (D : List Nat) (u : Nat → Value) (l : List Value) : ∀ (k i : Nat), (setU D u k l)[i]? = (l[i]?).map fun v => if D.contains (k + i) then u (k + i) else v := by
  induction l with
  | nil => intro k i; simp [setU]
  | cons v r ih =>
    intro k i
    cases i with
    | zero => simp [setU]
    | succ i => simp only [setU, List.getElem?_cons_succ]; rw [ih]; simp only [show k + 1 + i = k + (i + 1) from by omega]

theorem setU_put (D : List Nat) (u : Nat → Value) (l : List Value) (j : Nat) (v : Value) (hj : D.contains j = true) :
    (setU D u 0 l).set j v = setU D (upd u j v) 0 l := by
  apply List.ext_getElem?
  intro i
  rw [List.getElem?_set, setU_get, setU_get]
  have hlen : (setU D u 0 l).length = l.length := by
    have : ∀ (l : List Value) k, (setU D u k l).length = l.length := by
      intro l; induction l with
      | nil => intro k; rfl
      | cons a r ih => intro k; simp [setU, ih]
    exact this l 0
  by_cases h : j = i
  · subst h
    by_cases hl : j < l.length
    · simp only [List.contains_eq_mem, decide_eq_true_eq] at hj
      simp [hlen, hl, upd, hj]
    · simp [hlen, hl]
  · have h' : ¬ (0 + i = j) := by omega
    rw [if_neg h]
    cases l[i]? with
    | none => rfl
    | some x => simp only [Option.map_some, upd, if_neg h']

def dstAt (ops : Array Oper) (i : Nat) : Option Nat := (ops[i]?).bind (·.dst)
def edgesAt (ops : Array Oper) (i : Nat) : List Nat := ((ops[i]?).map fun o => (o.after.toList.filter (Region.binds .any)).map (·.on)).getD []
def depsAt (ops : Array Oper) (i : Nat) : List Nat := (edgesAt ops i).filterMap (dstAt ops)
/-- the number of the block that a pointer leads to -/
def blk : Value → Nat | .pointer (some a) => a.block | _ => 0

def nodupB : List Nat → Bool
  | [] => true
  | x :: r => !r.contains x && nodupB r
theorem nodupB_inj {l : List Nat} (h : nodupB l = true) : ∀ (i k x : Nat), l[i]? = some x → l[k]? = some x → i = k := by
  induction l with
  | nil => intro i k x hi; simp at hi
  | cons y r ih =>
    simp only [nodupB, Bool.and_eq_true, Bool.not_eq_true', List.contains_eq_mem, decide_eq_false_iff_not] at h
    intro i k x hi hk
    cases i with
    | zero =>
      cases k with
      | zero => rfl
      | succ k =>
        simp at hi hk
        exact absurd (List.mem_of_getElem? hk) (hi ▸ h.1)
    | succ i =>
      cases k with
      | zero =>
        simp at hi hk
        exact absurd (List.mem_of_getElem? hi) (hk ▸ h.1)
      | succ k => simp at hi hk; rw [ih h.2 i k x hi hk]

/-- j must have come up ahead of i, through at most so many edges -/
def reachB (ops : Array Oper) : Nat → Nat → Nat → Bool
  | 0, _, _ => false
  | f + 1, i, j => (edgesAt ops i).contains j || (edgesAt ops i).any fun k => reachB ops f k j

theorem reach_listed {L : Array Bool} (hcl : ∀ i, L.getD i false = true → ∀ j ∈ edgesAt ops i, L.getD j false = true) : ∀ (f i j : Nat), (∀ k ∈ edgesAt ops i, L.getD k false = true) → reachB ops f i j = true → L.getD j false = true := by
  intro f
  induction f with
  | zero => intro i j _ h; cases h
  | succ f ih =>
    intro i j he h
    simp only [reachB, Bool.or_eq_true, List.contains_eq_mem, decide_eq_true_eq, List.any_eq_true] at h
    rcases h with h | ⟨k, hk, h⟩
    · exact he j h
    · exact ih k j (hcl k (he k hk)) h

/-- the operations ahead of number m each yield into a slot of D of their own; whatever is waited for stands ahead; each from m on waits for all that stand ahead of it, but for those of T, whose own waits it has waited for; those of T touch no slot of others -/
def regionOk (ops : Array Oper) (m : Nat) (D T : List Nat) : Bool :=
  ((List.range m).map (dstAt ops) == D.map some) && nodupB D &&
  (List.range ops.size).all (fun i => (edgesAt ops i).all (fun j => decide (j < i)) && (decide (i < m) || (List.range i).all fun j => reachB ops ops.size i j || (decide (j < m) && T.contains j && (edgesAt ops j).all fun d => reachB ops ops.size i d || T.contains d))) && decide (m ≤ ops.size) &&
  T.all (fun i => decide (i < m) && (List.range ops.size).all fun j => decide (j = i) || reachB ops ops.size i j || (edgesAt ops j).contains i || ((ops[i]?).bind fun oi => (ops[j]?).map fun oj => oi.apart ops oj).getD false) && (T.isEmpty || Region.noSelect ops)

structure RegionOk (ops : Array Oper) (m : Nat) (D T : List Nat) : Prop where
  dst : ∀ i, i < m → ∃ j, D[i]? = some j ∧ dstAt ops i = some j
  len : D.length = m
  inj : ∀ i k x : Nat, D[i]? = some x → D[k]? = some x → i = k
  low : ∀ i, i < ops.size → ∀ j ∈ edgesAt ops i, j < i
  tail : ∀ i, i < ops.size → m ≤ i → ∀ j, j < i → reachB ops ops.size i j = true ∨ (j < m ∧ j ∈ T ∧ ∀ d ∈ edgesAt ops j, reachB ops ops.size i d = true ∨ d ∈ T)
  fit : m ≤ ops.size
  take : ∀ i ∈ T, i < m ∧ ∀ j, j < ops.size → j ≠ i → reachB ops ops.size i j = true ∨ i ∈ edgesAt ops j ∨ ∀ oi oj, ops[i]? = some oi → ops[j]? = some oj → oi.apart ops oj = true
  nosel : T ≠ [] → Region.noSelect ops = true

theorem RegionOk.of {m : Nat} {D T : List Nat} (h : regionOk ops m D T = true) : RegionOk ops m D T := by
  simp only [regionOk, Bool.and_eq_true, beq_iff_eq, decide_eq_true_eq, List.all_eq_true, List.mem_range, Bool.or_eq_true, List.contains_eq_mem] at h
  obtain ⟨⟨⟨⟨⟨h1, h2⟩, h3⟩, h4⟩, h5⟩, h6⟩ := h
  have hl : D.length = m := by have := congrArg List.length h1; simpa using this.symm
  refine ⟨fun i hi => ?_, hl, nodupB_inj h2, fun i hi j hj => (h3 i hi).1 j hj, fun i hi hm j hj => ?_, h4, fun i hi => ⟨(h5 i hi).1, fun j hj hne => ?_⟩, fun hT => ?_⟩
  · have e := congrArg (fun l : List (Option Nat) => l[i]?) h1
    have hi' : i < D.length := by omega
    simp [hi, hi'] at e
    exact ⟨D[i], by simp [hi'], e⟩
  · rcases (h3 i hi).2 with h | h
    · omega
    · rcases h j hj with h | ⟨⟨h7, h8⟩, h9⟩
      · exact Or.inl h
      · exact Or.inr ⟨h7, h8, h9⟩
  · rcases (h5 i hi).2 j hj with ((h | h) | h) | h
    · exact absurd h hne
    · exact Or.inl h
    · exact Or.inr (Or.inl h)
    · refine Or.inr (Or.inr fun oi oj ho ho' => ?_)
      simpa [ho, ho'] using h
  · rcases h6 with h | h
    · simp at h; exact absurd h hT
    · exact h

theorem ready_iff {L : Array Bool} {i : Nat} : i ∈ Region.ready .any ops L ↔ i < ops.size ∧ L.getD i true = false ∧ ∀ j ∈ edgesAt ops i, L.getD j false = true := by
  simp only [Region.ready, List.mem_filter, List.mem_range, Bool.and_eq_true, Bool.not_eq_true', edgesAt]
  refine and_congr_right fun hi => and_congr_right fun _ => ?_
  obtain ⟨o, ho⟩ : ∃ o, ops[i]? = some o := ⟨ops[i], by simp [hi]⟩
  simp only [ho, Option.map_some, Option.getD_some, Array.all_eq_true, Bool.or_eq_true, Bool.not_eq_true', List.mem_map, List.mem_filter, Array.mem_toList_iff]
  constructor
  · rintro h j ⟨e, ⟨he, hb⟩, rfl⟩
    obtain ⟨k, hk, rfl⟩ := Array.mem_iff_getElem.1 he
    rcases h k hk with h | h
    · rw [h] at hb; cases hb
    · exact h
  · intro h k hk
    cases hb : Region.binds .any o.after[k] with
    | false => exact Or.inl rfl
    | true => exact Or.inr (h _ ⟨_, ⟨Array.getElem_mem hk, hb⟩, rfl⟩)

theorem count_set {n i : Nat} {L : Array Bool} (hn : L.size = n) (hi : i < n) (hf : L.getD i true = false) :
    (List.range n).countP (fun j => !(L.setIfInBounds i true).getD j true) + 1 = (List.range n).countP (fun j => !L.getD j true) := by
  have g : ∀ j, (L.setIfInBounds i true).getD j true = if j = i then true else L.getD j true := by
    intro j
    simp only [Array.getD_eq_getD_getElem?, Array.getElem?_setIfInBounds]
    by_cases h : i = j
    · subst h; simp [hn, hi]
    · rw [if_neg h, if_neg (fun e => h e.symm)]
  have key : ∀ k, (List.range k).countP (fun j => !(if j = i then true else L.getD j true)) + (if i < k then 1 else 0) = (List.range k).countP (fun j => !L.getD j true) := by
    intro k
    induction k with
    | zero => simp
    | succ k ih =>
      rw [List.range_succ, List.countP_append, List.countP_append, ← ih]
      by_cases hk : k = i
      · subst hk
        simp only [Nat.lt_irrefl, if_false, Nat.add_zero, Nat.lt_succ_self, if_true, List.countP_cons, List.countP_nil, hf] at ih ⊢
        simp
      · have e1 : (i < k + 1) = (i < k) := by apply propext; omega
        simp only [e1, List.countP_cons, List.countP_nil, if_neg hk]
        omega
  have := key n
  rw [if_pos hi] at this
  simp only [g]
  exact this

theorem getD_set {L : Array Bool} {i j : Nat} (d : Bool) (hi : i < L.size) : (L.setIfInBounds i true).getD j d = if j = i then true else L.getD j d := by
  simp only [Array.getD_eq_getD_getElem?, Array.getElem?_setIfInBounds]
  by_cases h : i = j
  · subst h; simp [hi]
  · rw [if_neg h, if_neg (fun e => h e.symm)]

theorem getD_any {L : Array Bool} {j : Nat} (hj : j < L.size) (d d' : Bool) : L.getD j d = L.getD j d' := by
  simp [Array.getD_eq_getD_getElem?, hj]

theorem tail_any {m : Nat} {D T : List Nat} (ok : RegionOk ops m D T) : ∀ (fuel k : Nat) (L : Array Bool) (a : Act) (w : World), L.size = ops.size →
    (∀ j, j < ops.size → L.getD j true = decide (j < k)) → k ≤ ops.size → m ≤ k → ops.size - k ≤ fuel → wpListS P ops Q S (ops.toList.drop k) a w → wpAnyH P .any ops Q S fuel L a w := by
  intro fuel
  induction fuel with
  | zero =>
    intro k L a w hL hk hkn hm hf h
    have hk' : k = ops.size := by omega
    subst hk'
    refine ⟨?_, by rw [List.drop_of_length_le (by simp)] at h; exact h⟩
    apply List.eq_nil_iff_forall_not_mem.2
    intro i hi
    obtain ⟨h1, h2, _⟩ := ready_iff.1 hi
    rw [hk i h1] at h2
    simp [h1] at h2
  | succ fuel ih =>
    intro k L a w hL hk hkn hm hf h
    by_cases hlt : k < ops.size
    · have hr : k ∈ Region.ready .any ops L := by
        refine ready_iff.2 ⟨hlt, by rw [hk k hlt]; simp, fun j hj => ?_⟩
        have hjk := ok.low k hlt j hj
        rw [getD_any (by omega) false true, hk j (by omega)]
        simpa using hjk
      refine ⟨fun e => absurd (e ▸ hr) (by simp), fun i hi => ?_⟩
      obtain ⟨h1, h2, h3⟩ := ready_iff.1 hi
      rw [hk i h1] at h2
      have hik : k ≤ i := by simpa using h2
      have hik' : i = k := by
        rcases Nat.lt_or_ge k i with hl | hl
        · have hcl : ∀ x, L.getD x false = true → ∀ j ∈ edgesAt ops x, L.getD j false = true := by
            intro x hx j hj
            have hxn : x < ops.size := by
              rcases Nat.lt_or_ge x ops.size with h | h
              · exact h
              · rw [Array.getD_eq_getD_getElem?, Array.getElem?_eq_none (by omega)] at hx; cases hx
            have hjx := ok.low x hxn j hj
            rw [getD_any (by omega) false true, hk x hxn] at hx
            rw [getD_any (by omega) false true, hk j (by omega)]
            simp at hx ⊢
            omega
          have := reach_listed hcl _ i k h3 ((ok.tail i h1 (by omega) k hl).resolve_right fun h => absurd h.1 (by omega))
          rw [getD_any (by omega) false true, hk k hlt] at this
          simp at this
        · omega
      subst hik'
      have hd : ops.toList.drop i = ops[i] :: ops.toList.drop (i + 1) := by
        rw [List.drop_eq_getElem_cons (by simpa using hlt)]
        simp
      rw [hd] at h
      have next : ∀ a w, wpListS P ops Q S (ops.toList.drop (i + 1)) a w → wpAnyH P .any ops Q S fuel (L.setIfInBounds i true) a w := fun a w hh =>
        ih (i + 1) _ a w (by simpa using hL) (fun j hj => by
          rw [getD_set true (by omega)]
          by_cases e : j = i
          · subst e; simp
          · rw [if_neg e, hk j hj]
            have : (j < i) ↔ (j < i + 1) := by omega
            simp [this]) (by omega) (by omega) (by omega) hh
      simp only [wpOp, show ops[i]? = some ops[i] from by simp [hlt]]
      simp only [wpListS] at h
      split
      · rename_i hw
        rw [if_pos hw] at h
        exact h.imp (Oper.wp_mono fun a w h => ⟨h.1, next a w h.2⟩) id
      · rename_i hw
        rw [if_neg hw] at h
        exact ⟨h.1, next _ _ h.2⟩
    · have hk' : k = ops.size := by omega
      subst hk'
      have hr : Region.ready .any ops L = [] := by
        apply List.eq_nil_iff_forall_not_mem.2
        intro i hi
        obtain ⟨h1, h2, _⟩ := ready_iff.1 hi
        rw [hk i h1] at h2
        simp [h1] at h2
      refine ⟨fun _ => by rw [List.drop_of_length_le (by simp)] at h; exact h, fun i hi => ?_⟩
      rw [hr] at hi
      cases hi

/-- what is to be shown of operation number i, ahead of the tail -/
def StepOk (P : Program) (ops : Array Oper) (Q : Exit → Act → World → Prop) (D PS : List Nat) (B : World → Prop) (F : Nat → Value → World → Prop) (l : List Value) (df : List Deferred) (i : Nat) (o : Oper) (j : Nat) : Prop :=
  ∀ (u : Nat → Value) (w : World), B w → (∀ k, (depsAt ops i).contains k = true → F k (u k) w) →
    ∀ K : Act → World → Prop, (∀ v w', B w' → Below w.heap.size w w' → F j v w' → (PS.contains j = true → w.heap.size ≤ blk v) → K ⟨(setU D (upd u j v) 0 l).toArray, df⟩ w') →
      wpList P ops (Exit.then K Q) [o] ⟨(setU D u 0 l).toArray, df⟩ w

/-- what is to be shown of an operation of T -/
def StepYOk (P : Program) (ops : Array Oper) (S : World → Prop) (D : List Nat) (B : World → Prop) (F : Nat → Value → World → Prop) (l : List Value) (df : List Deferred) (i : Nat) (o : Oper) (j : Nat) : Prop :=
  ∀ (u : Nat → Value) (w : World), B w → (∀ k, (depsAt ops i).contains k = true → F k (u k) w) →
    ∃ v, YieldsIf P ops S o v ⟨(setU D u 0 l).toArray, df⟩ ∧ F j v w

theorem region_any {m : Nat} {D T PS : List Nat} {B : World → Prop} {F : Nat → Value → World → Prop} {l : List Value} {df : List Deferred}
    (ok : RegionOk ops m D T) (hBS : ∀ w, B w → S w) (hQ : T ≠ [] → ∀ c (a : Act) (d : Nat) v w, Q (.panic c) (a.put (some d) v) w → Q (.panic c) a w)
    (mono : ∀ j v w w', B w → B w' → Below w.heap.size w w' → F j v w → F j v w')
    (ps : ∀ j, PS.contains j = true → ∀ v w, F j v w → blk v < w.heap.size)
    (tps : ∀ i ∈ T, ∀ j, dstAt ops i = some j → PS.contains j = false)
    (step : ∀ i o j, i < m → i ∉ T → ops[i]? = some o → o.dst = some j → StepOk P ops Q D PS B F l df i o j)
    (stepY : ∀ i o j, i ∈ T → ops[i]? = some o → o.dst = some j → StepYOk P ops S D B F l df i o j)
    (fin : ∀ u w', B w' → (∀ j, D.contains j = true → F j (u j) w') → (∀ j j', D.contains j = true → D.contains j' = true → PS.contains j = true → PS.contains j' = true → j ≠ j' → blk (u j) ≠ blk (u j')) →
      wpListS P ops Q S (ops.toList.drop m) ⟨(setU D u 0 l).toArray, df⟩ w') :
    ∀ (fuel : Nat) (L : Array Bool) (u : Nat → Value) (w : World), L.size = ops.size → (List.range ops.size).countP (fun j => !L.getD j true) ≤ fuel →
      (∀ i, m ≤ i → i < ops.size → L.getD i true = false) → (∀ i, L.getD i false = true → ∀ j ∈ edgesAt ops i, L.getD j false = true) → B w →
      (∀ i j, i < m → L.getD i false = true → dstAt ops i = some j → F j (u j) w) →
      (∀ i i' j j', i < m → i' < m → L.getD i false = true → L.getD i' false = true → dstAt ops i = some j → dstAt ops i' = some j' → PS.contains j = true → PS.contains j' = true → j ≠ j' → blk (u j) ≠ blk (u j')) →
      wpAnyH P .any ops Q S fuel L ⟨(setU D u 0 l).toArray, df⟩ w := by
  intro fuel
  -- all ahead of the tail have come up
  have toTail : ∀ (fuel : Nat) (L : Array Bool) (u : Nat → Value) (w : World), L.size = ops.size → (List.range ops.size).countP (fun j => !L.getD j true) ≤ fuel →
      (∀ i, m ≤ i → i < ops.size → L.getD i true = false) → B w → (∀ i, i < m → L.getD i true = true) →
      (∀ i j, i < m → L.getD i false = true → dstAt ops i = some j → F j (u j) w) →
      (∀ i i' j j', i < m → i' < m → L.getD i false = true → L.getD i' false = true → dstAt ops i = some j → dstAt ops i' = some j' → PS.contains j = true → PS.contains j' = true → j ≠ j' → blk (u j) ≠ blk (u j')) →
      wpAnyH P .any ops Q S fuel L ⟨(setU D u 0 l).toArray, df⟩ w := by
    intro fuel L u w hL hc ht hB hall hF hP
    have hall' : ∀ i, i < m → L.getD i false = true := fun i hi => by rw [getD_any (by have := ok.fit; omega) false true]; exact hall i hi
    have inD : ∀ j, D.contains j = true → ∃ i, i < m ∧ dstAt ops i = some j := by
      intro j hj
      simp only [List.contains_eq_mem, decide_eq_true_eq] at hj
      obtain ⟨i, hi⟩ := List.mem_iff_getElem?.1 hj
      have hi' : i < m := by
        have := (List.getElem?_eq_some_iff.1 hi).1
        rw [ok.len] at this; exact this
      obtain ⟨j', h1, h2⟩ := ok.dst i hi'
      rw [hi] at h1
      cases h1
      exact ⟨i, hi', h2⟩
    refine tail_any ok fuel m L _ w hL (fun j hj => ?_) ok.fit (Nat.le_refl _) ?_ (fin u w hB ?_ ?_)
    · by_cases h : j < m
      · rw [hall j h]; simp [h]
      · rw [ht j (by omega) hj]; simp [h]
    · have e : (List.range ops.size).countP (fun j => !L.getD j true) = (List.range ops.size).countP (fun j => decide (m ≤ j)) := by
        apply List.countP_congr
        intro j hj
        have hj' : j < ops.size := by simpa using hj
        by_cases h : j < m
        · rw [hall j h]; simp; omega
        · rw [ht j (by omega) hj']; simp; omega
      have key : ∀ k, (List.range k).countP (fun j => decide (m ≤ j)) = k - m := by
        intro k
        induction k with
        | zero => simp
        | succ k ih =>
          rw [List.range_succ, List.countP_append, ih]
          by_cases h : m ≤ k
          · simp [h]; omega
          · simp [h]; omega
      rw [e, key] at hc
      exact hc
    · intro j hj
      obtain ⟨i, hi, hd⟩ := inD j hj
      exact hF i j hi (hall' i hi) hd
    · intro j j' hj hj' hp hp' hne
      obtain ⟨i, hi, hd⟩ := inD j hj
      obtain ⟨i', hi', hd'⟩ := inD j' hj'
      exact hP i i' j j' hi hi' (hall' i hi) (hall' i' hi') hd hd' hp hp' hne
  induction fuel with
  | zero =>
    intro L u w hL hc ht hcl hB hF hP
    refine toTail 0 L u w hL hc ht hB (fun i hi => ?_) hF hP
    have h0 : (List.range ops.size).countP (fun j => !L.getD j true) = 0 := by omega
    rw [List.countP_eq_zero] at h0
    have := h0 i (by have := ok.fit; simp; omega)
    simpa using this
  | succ fuel ih =>
    intro L u w hL hc ht hcl hB hF hP
    by_cases hall : ∀ i, i < m → L.getD i true = true
    · exact toTail (fuel + 1) L u w hL hc ht hB hall hF hP
    · -- the least that has not come up may come up
      have hex : ∃ i, i < m ∧ L.getD i true = false := by
        refine Classical.byContradiction fun h => hall fun i hi => ?_
        cases e : L.getD i true with
        | true => rfl
        | false => exact absurd ⟨i, hi, e⟩ h
      have hne : Region.ready .any ops L ≠ [] := by
        obtain ⟨i0, h01, h02⟩ := hex
        have : ∀ n i, i ≤ n → i < m → L.getD i true = false → ∃ k, k ∈ Region.ready .any ops L := by
          intro n
          induction n with
          | zero =>
            intro i hi hm hf
            have : i = 0 := by omega
            subst this
            exact ⟨0, ready_iff.2 ⟨by have := ok.fit; omega, hf, fun j hj => absurd (ok.low 0 (by have := ok.fit; omega) j hj) (by omega)⟩⟩
          | succ n ihn =>
            intro i hi hm hf
            by_cases hd : ∀ j ∈ edgesAt ops i, L.getD j false = true
            · exact ⟨i, ready_iff.2 ⟨by have := ok.fit; omega, hf, hd⟩⟩
            · simp only [Classical.not_forall] at hd
              obtain ⟨j, hj, hjf⟩ := hd
              have hji := ok.low i (by have := ok.fit; omega) j hj
              refine ihn j (by omega) (by omega) ?_
              rw [getD_any (by have := ok.fit; omega) true false]
              simpa using hjf
        obtain ⟨k, hk⟩ := this i0 i0 (Nat.le_refl _) h01 h02
        intro e
        rw [e] at hk
        cases hk
      -- one more has come up
      have next : ∀ i, i < m → i ∈ Region.ready .any ops L → ∀ j, dstAt ops i = some j → ∀ v w', B w' → Below w.heap.size w w' → F j v w' → (PS.contains j = true → w.heap.size ≤ blk v) →
          wpAnyH P .any ops Q S fuel (L.setIfInBounds i true) ⟨(setU D (upd u j v) 0 l).toArray, df⟩ w' := by
        intro i him hi j hdj v w' hB' hbel hFv hpv
        obtain ⟨h1, h2, h3⟩ := ready_iff.1 hi
        obtain ⟨jx, hDj, hdj'⟩ := ok.dst i him
        rw [hdj] at hdj'
        cases hdj'
        have other : ∀ i' j', i' < m → i' ≠ i → dstAt ops i' = some j' → j' ≠ j := by
          intro i' j' hi' hne' hd' e
          subst e
          obtain ⟨x, hx1, hx2⟩ := ok.dst i' hi'
          rw [hd'] at hx2
          cases hx2
          exact hne' (ok.inj i' i j' hx1 hDj)
        have gL : ∀ i' d, (L.setIfInBounds i true).getD i' d = if i' = i then true else L.getD i' d := fun i' d => getD_set d (by omega)
        refine ih _ (upd u j v) w' (by simpa using hL) ?_ ?_ ?_ hB' ?_ ?_
        · have := count_set hL h1 h2
          omega
        · intro i' hi' hn'
          rw [gL, if_neg (by omega)]
          exact ht i' hi' hn'
        · intro x hx j' hj'
          rw [gL]
          split
          · rfl
          · rw [gL] at hx
            split at hx
            · rename_i e; subst e; exact h3 j' hj'
            · exact hcl x hx j' hj'
        · intro i' j' hi' hl' hd'
          rw [gL] at hl'
          by_cases e : i' = i
          · subst e
            rw [hdj] at hd'
            cases hd'
            simp only [upd, if_true]
            exact hFv
          · rw [if_neg e] at hl'
            simp only [upd, if_neg (other i' j' hi' e hd')]
            exact mono _ _ _ _ hB hB' hbel (hF i' j' hi' hl' hd')
        · intro i1 i2 j1 j2 hi1 hi2 hl1 hl2 hd1 hd2 hp1 hp2 hne12
          rw [gL] at hl1 hl2
          by_cases e1 : i1 = i
          · by_cases e2 : i2 = i
            · subst e1; rw [e2, hd1] at hd2; cases hd2; exact absurd rfl hne12
            · subst e1
              rw [hdj] at hd1
              cases hd1
              rw [if_neg e2] at hl2
              simp only [upd, if_true, if_neg (other i2 j2 hi2 e2 hd2)]
              have a1 := hpv hp1
              have a2 := ps j2 hp2 _ _ (hF i2 j2 hi2 hl2 hd2)
              omega
          · rw [if_neg e1] at hl1
            by_cases e2 : i2 = i
            · subst e2
              rw [hdj] at hd2
              cases hd2
              simp only [upd, if_true, if_neg (other i1 j1 hi1 e1 hd1)]
              have a1 := hpv hp2
              have a2 := ps j1 hp1 _ _ (hF i1 j1 hi1 hl1 hd1)
              omega
            · rw [if_neg e2] at hl2
              simp only [upd, if_neg (other i1 j1 hi1 e1 hd1), if_neg (other i2 j2 hi2 e2 hd2)]
              exact hP i1 i2 j1 j2 hi1 hi2 hl1 hl2 hd1 hd2 hp1 hp2 hne12
      have depsHold : ∀ i, i < m → i ∈ Region.ready .any ops L → ∀ k, (depsAt ops i).contains k = true → F k (u k) w := by
        intro i him hi k hk
        obtain ⟨h1, h2, h3⟩ := ready_iff.1 hi
        simp only [List.contains_eq_mem, decide_eq_true_eq, depsAt, List.mem_filterMap] at hk
        obtain ⟨e, he, hek⟩ := hk
        have hei := ok.low i h1 e he
        exact hF e k (by omega) (h3 e he) hek
      have put_eq : ∀ j v, D.contains j = true → (⟨(setU D u 0 l).toArray, df⟩ : Act).put (some j) v = ⟨(setU D (upd u j v) 0 l).toArray, df⟩ := by
        intro j v hj
        simp only [Act.put, List.setIfInBounds_toArray, setU_put D u l j v hj]
      by_cases hT : ∃ i ∈ T, i ∈ Region.ready .any ops L
      · obtain ⟨i, hiT, hi⟩ := hT
        obtain ⟨h1, h2, h3⟩ := ready_iff.1 hi
        have him := (ok.take i hiT).1
        obtain ⟨j, hDj, hdj⟩ := ok.dst i him
        have ho : ops[i]? = some ops[i] := by simp [h1]
        have hdo : ops[i].dst = some j := by simpa [dstAt, ho] using hdj
        have hDc : D.contains j = true := by simp only [List.contains_eq_mem, decide_eq_true_eq]; exact List.mem_of_getElem? hDj
        obtain ⟨v, hy, hv⟩ := stepY i _ j hiT ho hdo u w hB (depsHold i him hi)
        have hTne : T ≠ [] := fun e => by rw [e] at hiT; cases hiT
        refine wpAnyH_first ho (Region.noSelect_spec (ok.nosel hTne)) (fun c a w => by rw [hdo]; exact hQ hTne c a j v w) fuel L _ w (fun jj oj hoj hne' hun hno => ?_) hi hy (hBS w hB) ?_
        · have hjj : jj < ops.size := (Array.getElem?_eq_some_iff.1 hoj).1
          rcases (ok.take i hiT).2 jj hjj hne' with h | h | h
          · have := reach_listed hcl _ i jj h3 h
            rw [getD_any (by omega) false true, hun] at this
            cases this
          · simp only [edgesAt, hoj, Option.map_some, Option.getD_some, List.mem_map, List.mem_filter, Array.mem_toList_iff] at h
            obtain ⟨e, ⟨he, hb⟩, hon⟩ := h
            exact absurd hon (hno e he hb)
          · exact h _ oj ho hoj
        · rw [hdo, put_eq j v hDc]
          exact next i him hi j hdj v w hB (Below.refl _ _) hv fun hp => by rw [tps i hiT j hdj] at hp; cases hp
      · refine ⟨fun e => absurd e hne, fun i hi => ?_⟩
        obtain ⟨h1, h2, h3⟩ := ready_iff.1 hi
        have him : i < m := by
          rcases Nat.lt_or_ge i m with h | h
          · exact h
          · obtain ⟨k, hk1, hk2⟩ := hex
            have all : ∀ n k, k ≤ n → k < i → L.getD k false = true := by
              intro n
              induction n with
              | zero =>
                intro k hkn hki
                rcases ok.tail i h1 h k hki with hr | ⟨hkm, hkT, hr⟩
                · exact reach_listed hcl _ i k h3 hr
                · cases hl : L.getD k true with
                  | true => rw [getD_any (by have := ok.fit; omega) false true, hl]
                  | false =>
                    exact absurd ⟨k, hkT, ready_iff.2 ⟨by have := ok.fit; omega, hl, fun d hd => absurd (ok.low k (by have := ok.fit; omega) d hd) (by omega)⟩⟩ hT
              | succ n ihn =>
                intro k hkn hki
                rcases ok.tail i h1 h k hki with hr | ⟨hkm, hkT, hr⟩
                · exact reach_listed hcl _ i k h3 hr
                · cases hl : L.getD k true with
                  | true => rw [getD_any (by have := ok.fit; omega) false true, hl]
                  | false =>
                    exact absurd ⟨k, hkT, ready_iff.2 ⟨by have := ok.fit; omega, hl, fun d hd => by
                      have hdk := ok.low k (by have := ok.fit; omega) d hd
                      exact ihn d (by omega) (by omega)⟩⟩ hT
            have := all k k (Nat.le_refl _) (by omega)
            rw [getD_any (by have := ok.fit; omega) false true, hk2] at this
            cases this
        have hiT : i ∉ T := fun h => hT ⟨i, h, hi⟩
        obtain ⟨j, hDj, hdj⟩ := ok.dst i him
        have ho : ops[i]? = some ops[i] := by simp [h1]
        have hdo : ops[i].dst = some j := by simpa [dstAt, ho] using hdj
        exact wpOp_of_list ho (step i _ j him hiT ho hdo u w hB (depsHold i him hi) _ (fun v w' hB' hbel hFv hpv => ⟨hBS w' hB', next i him hi j hdj v w' hB' hbel hFv hpv⟩))

theorem setU_self (D : List Nat) (l : List Value) : setU D (fun k => l.getD k undef) 0 l = l := by
  apply List.ext_getElem?
  intro i
  rw [setU_get]
  cases h : l[i]? with
  | none => rfl
  | some x => simp [h]

/-- ████ THE REGION: m operations in whatever order, each by a fact on its slot; then the tail ████ -/
theorem region_facts {id : Nat} {l : List Value} {df : List Deferred} {w : World} (hmx : P.follows .mixedOrders = true)
    (m : Nat) (D T PS : List Nat) (B : World → Prop) (F : Nat → Value → World → Prop)
    (chk : regionOk ops m D T = true) (hBS : ∀ w, B w → S w) (hQ : T ≠ [] → ∀ c (a : Act) (d : Nat) v w, Q (.panic c) (a.put (some d) v) w → Q (.panic c) a w)
    (mono : ∀ j v w w', B w → B w' → Below w.heap.size w w' → F j v w → F j v w')
    (ps : ∀ j, PS.contains j = true → ∀ v w, F j v w → blk v < w.heap.size)
    (hB0 : B w.drew)
    (tps : ∀ i ∈ T, ∀ j, dstAt ops i = some j → PS.contains j = false)
    (step : ∀ i o j, i < m → i ∉ T → ops[i]? = some o → o.dst = some j → StepOk P ops Q D PS B F l df i o j)
    (stepY : ∀ i o j, i ∈ T → ops[i]? = some o → o.dst = some j → StepYOk P ops S D B F l df i o j)
    (fin : ∀ u w', B w' → (∀ j, D.contains j = true → F j (u j) w') → (∀ j j', D.contains j = true → D.contains j' = true → PS.contains j = true → PS.contains j' = true → j ≠ j' → blk (u j) ≠ blk (u j')) →
      wpListS P ops Q S (ops.toList.drop m) ⟨(setU D u 0 l).toArray, df⟩ w') :
    (Code.region id ops true).wp P Q ⟨l.toArray, df⟩ w := by
  have ok := RegionOk.of chk
  refine wp_region_held (S := S) hmx ?_
  have h := region_any (P := P) (Q := Q) (l := l) (df := df) ok hBS hQ mono ps tps step stepY fin ops.size (Array.replicate ops.size false) (fun k => l.getD k undef) w.drew (by simp)
    (by have := List.countP_le_length (p := fun j => !(Array.replicate ops.size false).getD j true) (l := List.range ops.size); simpa using this)
    (fun i _ hi => by simp [Array.getD_eq_getD_getElem?, hi])
    (fun i hl => by simp [Array.getD_eq_getD_getElem?, Array.getElem?_replicate] at hl; split at hl <;> simp at hl) hB0
    (fun i j hi hl => by simp [Array.getD_eq_getD_getElem?, Array.getElem?_replicate] at hl; split at hl <;> simp at hl)
    (fun i i' j j' hi hi' hl => by simp [Array.getD_eq_getD_getElem?, Array.getElem?_replicate] at hl; split at hl <;> simp at hl)
  rw [setU_self] at h
  exact h

/-! ### the facts, written as a list -/
theorem bcell {W w1 : World} (hb : Below W.heap.size W w1) : (∀ b o, b < W.heap.size → w1.cell? ⟨b, o, none⟩ = W.cell? ⟨b, o, none⟩) ∧ (∀ b o, b < W.heap.size → w1.frozen? ⟨b, o, none⟩ = W.frozen? ⟨b, o, none⟩) :=
  ⟨fun b o h => hb.cell (p := ⟨b, o, none⟩) h, fun b o h => hb.frozen (p := ⟨b, o, none⟩) h⟩
theorem bsize {W w1 : World} (hb : Below W.heap.size W w1) : ∀ b, b < W.heap.size → b < w1.heap.size := fun _ h => Nat.lt_of_lt_of_le h hb.size
/-- a cell that is there stays, whatever has been made since -/
theorem keepcell {W w1 : World} (hb : Below W.heap.size W w1) {a : Addr} {v : Value} (h : W.cell? a = some v) : w1.cell? a = some v :=
  (hb.cell (p := a) (World.block_lt_of_cell? W _ h)).trans h
theorem Blw.after {w W w1 : World} (h : Below w.heap.size w W) (hb : Below W.heap.size W w1) : Below w.heap.size w w1 := h.trans (hb.mono h.size)
theorem Blw.alloc {w W : World} (h : Below w.heap.size w W) (o : Obj) : Below w.heap.size w (W.alloc o) := h.alloc h.size _
theorem Blw.drew {w W : World} (h : Below w.heap.size w W) : Below w.heap.size w W.drew := h.drew
theorem Blw.drewN {w W : World} (n : Nat) (h : Below w.heap.size w W) : Below w.heap.size w (W.drewN n) := ⟨h.os, h.tape, h.output, h.size, h.block⟩
theorem Blw.set {w W : World} (h : Below w.heap.size w W) {p : Addr} (hp : w.heap.size ≤ p.block) (u : Value) : Below w.heap.size w (W.setCell p u) := h.setCell hp u

/-- w' is W0 below W0's size, and so each cell reads -/
abbrev Hld (W0 w' : World) : Prop := Below W0.heap.size W0 w' ∧ (∀ b o, b < W0.heap.size → w'.cell? ⟨b, o, none⟩ = W0.cell? ⟨b, o, none⟩) ∧ (∀ b o, b < W0.heap.size → w'.frozen? ⟨b, o, none⟩ = W0.frozen? ⟨b, o, none⟩) ∧ W0.heap.size ≤ w'.heap.size
theorem heldM {W0 w' : World} (h : Below W0.heap.size W0 w') : Hld W0 w' := ⟨h, fun b o hb => h.cell (p := ⟨b, o, none⟩) hb, fun b o hb => h.frozen (p := ⟨b, o, none⟩) hb, h.size⟩
theorem heldB {W0 w1 w' : World} (h : Hld W0 w1) (hb : Below w1.heap.size w1 w') : Hld W0 w' := heldM (Blw.after h.1 hb)

/-- v leads to a block from B on that holds the values vs from its head on, not frozen -/
def OwnP (B : Nat) (vs : List Value) (v : Value) (w : World) : Prop :=
  ∃ b, v = .pointer (some ⟨b, 0, none⟩) ∧ B ≤ b ∧ b < w.heap.size ∧ (∀ i x, vs[i]? = some x → w.cell? ⟨b, i, none⟩ = some x) ∧ ∀ i, i < vs.length → w.frozen? ⟨b, i, none⟩ = false
theorem OwnP.mono {B : Nat} {vs : List Value} {v : Value} {w w' : World} (h : OwnP B vs v w) (hb : Below w.heap.size w w') : OwnP B vs v w' := by
  obtain ⟨b, h1, h2, h3, h4, h5⟩ := h
  exact ⟨b, h1, h2, bsize hb b h3, fun i x hx => keepcell hb (h4 i x hx), fun i hi => ((bcell hb).2 b i h3).trans (h5 i hi)⟩
theorem OwnP.new (w : World) (vs : List Value) (t : TypeId) : OwnP w.heap.size vs (.pointer (some ⟨w.heap.size, 0, none⟩)) (w.alloc (.cells vs.toArray t)) :=
  ⟨w.heap.size, rfl, Nat.le_refl _, by simp, fun i x hx => by simp [go_sem, hx], fun i hi => by rw [frozen?_alloc_cells]; simp [World.frozen?]⟩

inductive SlotFact where
  | is (v : Value)
  | own (vs : List Value)
  | sat (p : Value → Prop)
def SlotFact.h (B : Nat) : SlotFact → Value → World → Prop
  | .is x, v, _ => v = x
  | .own vs, v, w => OwnP B vs v w
  | .sat p, v, _ => p v
def SlotFact.owns : SlotFact → Bool | .own _ => true | _ => false
def factAt (B : Nat) : List (Nat × SlotFact) → Nat → Value → World → Prop
  | [], _, _, _ => True
  | (k, f) :: r, j, v, w => if k = j then f.h B v w else factAt B r j v w
def ownsAt : List (Nat × SlotFact) → List Nat
  | [] => []
  | (k, f) :: r => if f.owns then k :: ownsAt r else ownsAt r
def allFacts (B : Nat) (u : Nat → Value) (w : World) : List (Nat × SlotFact) → Prop
  | [] => True
  | (k, f) :: r => f.h B (u k) w ∧ allFacts B u w r

theorem SlotFact.mono {B : Nat} {f : SlotFact} {v : Value} {w w' : World} (hb : Below w.heap.size w w') (h : f.h B v w) : f.h B v w' := by
  cases f with
  | is x => exact h
  | own vs => exact OwnP.mono h hb
  | sat p => exact h
theorem SlotFact.low {B B' : Nat} {f : SlotFact} {v : Value} {w : World} (hB : B' ≤ B) (h : f.h B v w) : f.h B' v w := by
  cases f with
  | is x => exact h
  | own vs => obtain ⟨b, h1, h2, h3⟩ := h; exact ⟨b, h1, by omega, h3⟩
  | sat p => exact h
theorem factAt_mono {B : Nat} {fs : List (Nat × SlotFact)} {j : Nat} {v : Value} {w w' : World} (hb : Below w.heap.size w w') (h : factAt B fs j v w) : factAt B fs j v w' := by
  induction fs with
  | nil => trivial
  | cons f r ih =>
    simp only [factAt] at h ⊢
    split
    · rename_i e; rw [if_pos e] at h; exact f.2.mono hb h
    · rename_i e; rw [if_neg e] at h; exact ih h
theorem factAt_at {B : Nat} {fs : List (Nat × SlotFact)} (hn : nodupB (fs.map (·.1)) = true) {i : Nat} {j : Nat} {f : SlotFact} (hi : fs[i]? = some (j, f)) (v : Value) (w : World) : factAt B fs j v w = f.h B v w := by
  induction fs generalizing i with
  | nil => simp at hi
  | cons g r ih =>
    obtain ⟨k, g⟩ := g
    simp only [List.map_cons, nodupB, Bool.and_eq_true, Bool.not_eq_true', List.contains_eq_mem, decide_eq_false_iff_not] at hn
    cases i with
    | zero => simp at hi; obtain ⟨rfl, rfl⟩ := hi; simp [factAt]
    | succ i =>
      simp at hi
      have : k ≠ j := fun e => hn.1 (by subst e; exact List.mem_map.2 ⟨_, List.mem_of_getElem? hi, rfl⟩)
      simp only [factAt, if_neg this]
      exact ih hn.2 hi
theorem ownsAt_mem {fs : List (Nat × SlotFact)} (hn : nodupB (fs.map (·.1)) = true) {i j : Nat} {f : SlotFact} (hi : fs[i]? = some (j, f)) : (ownsAt fs).contains j = f.owns := by
  induction fs generalizing i with
  | nil => simp at hi
  | cons g r ih =>
    obtain ⟨k, g⟩ := g
    simp only [List.map_cons, nodupB, Bool.and_eq_true, Bool.not_eq_true', List.contains_eq_mem, decide_eq_false_iff_not] at hn
    have sub : ∀ (r : List (Nat × SlotFact)) x, x ∈ ownsAt r → x ∈ r.map (·.1) := by
      intro r
      induction r with
      | nil => intro x hx; simp [ownsAt] at hx
      | cons g r ih => intro x hx; simp only [ownsAt] at hx; split at hx <;> simp at hx ⊢ <;> grind
    cases i with
    | zero =>
      simp at hi; obtain ⟨rfl, rfl⟩ := hi
      simp only [ownsAt]
      cases hg : g.owns with
      | true => simp
      | false => simp; intro h; have := sub _ _ h; simp at this hn; grind
    | succ i =>
      simp at hi
      have : k ≠ j := fun e => hn.1 (by subst e; exact List.mem_map.2 ⟨_, List.mem_of_getElem? hi, rfl⟩)
      have h2 := ih hn.2 hi
      simp only [ownsAt]
      split
      · rw [← h2]; simp [Ne.symm this]
      · exact h2
theorem allFacts_of {B : Nat} {u : Nat → Value} {w : World} : ∀ (fs : List (Nat × SlotFact)), (∀ (i j : Nat) (f : SlotFact), fs[i]? = some (j, f) → f.h B (u j) w) → allFacts B u w fs
  | [], _ => trivial
  | (k, f) :: r, h => ⟨h 0 k f rfl, allFacts_of r fun i j f hf => h (i + 1) j f hf⟩

/-- what is to be shown of an operation of the front: into slot j, with the fact f -/
def Step (P : Program) (ops : Array Oper) (Q : Exit → Act → World → Prop) (W0 : World) (fs : List (Nat × SlotFact)) (l : List Value) (df : List Deferred) (i : Nat) (o : Oper) (j : Nat) (f : SlotFact) : Prop :=
  ∀ (u : Nat → Value) (w : World), Hld W0 w → (∀ k, (depsAt ops i).contains k = true → factAt W0.heap.size fs k (u k) w) →
    ∀ K : Act → World → Prop, (∀ v w', Below w.heap.size w w' → f.h w.heap.size v w' → K ⟨(setU (fs.map (·.1)) (upd u j v) 0 l).toArray, df⟩ w') →
      wpList P ops (Exit.then K Q) [o] ⟨(setU (fs.map (·.1)) u 0 l).toArray, df⟩ w
def StepY (P : Program) (ops : Array Oper) (S : World → Prop) (W0 : World) (fs : List (Nat × SlotFact)) (l : List Value) (df : List Deferred) (i : Nat) (o : Oper) (f : SlotFact) : Prop :=
  ∀ (u : Nat → Value) (w : World), Hld W0 w → (∀ k, (depsAt ops i).contains k = true → factAt W0.heap.size fs k (u k) w) →
    ∃ v, (∀ w, S w → (execOp (⟨(setU (fs.map (·.1)) u 0 l).toArray, df⟩ : Act).eval o).run P w = .ok (.value v) w) ∧ o.guard = none ∧ f.owns = false ∧ f.h w.heap.size v w
def Steps (P : Program) (ops : Array Oper) (Q : Exit → Act → World → Prop) (S : World → Prop) (W0 : World) (T : List Nat) (fs : List (Nat × SlotFact)) (l : List Value) (df : List Deferred) : Nat → List (Nat × SlotFact) → List Oper → Prop
  | i, (j, f) :: r, o :: os => (if T.contains i then StepY P ops S W0 fs l df i o f else Step P ops Q W0 fs l df i o j f) ∧ Steps P ops Q S W0 T fs l df (i + 1) r os
  | _, [], os => ∀ (u : Nat → Value) (w' : World), Hld W0 w' → allFacts W0.heap.size u w' fs → (∀ j j', (ownsAt fs).contains j = true → (ownsAt fs).contains j' = true → j ≠ j' → blk (u j) ≠ blk (u j')) →
      wpListS P ops Q S os ⟨(setU (fs.map (·.1)) u 0 l).toArray, df⟩ w'
  | _, _ :: _, [] => False

theorem Steps.at {W0 : World} {T : List Nat} {fs : List (Nat × SlotFact)} {l : List Value} {df : List Deferred} : ∀ (r : List (Nat × SlotFact)) (os : List Oper) (i : Nat), Steps P ops Q S W0 T fs l df i r os →
    (∀ k j f o, r[k]? = some (j, f) → os[k]? = some o → if T.contains (i + k) then StepY P ops S W0 fs l df (i + k) o f else Step P ops Q W0 fs l df (i + k) o j f) ∧ Steps P ops Q S W0 T fs l df (i + r.length) [] (os.drop r.length)
  | [], os, i, h => ⟨fun k j f o hk => by simp at hk, by simpa using h⟩
  | (j, f) :: r, [], i, h => h.elim
  | (j, f) :: r, o :: os, i, h => by
    obtain ⟨h1, h2⟩ := h
    obtain ⟨h3, h4⟩ := Steps.at r os (i + 1) h2
    refine ⟨fun k j' f' o' hk ho => ?_, ?_⟩
    · cases k with
      | zero => simp at hk ho; obtain ⟨rfl, rfl⟩ := hk; subst ho; exact h1
      | succ k => simp at hk ho; have := h3 k j' f' o' hk ho; rwa [show i + 1 + k = i + (k + 1) from by omega] at this
    · simp only [List.length_cons, List.drop_succ_cons]
      rwa [show i + 1 + r.length = i + (r.length + 1) from by omega] at h4

/-- ████ THE REGION, ITS FACTS AS A LIST IN THE OPERATIONS' ORDER ████ -/
theorem region_slots {id : Nat} {l : List Value} {df : List Deferred} {W0 : World} (S : World → Prop) (T : List Nat) (fs : List (Nat × SlotFact)) (hmx : P.follows .mixedOrders = true)
    (chk : regionOk ops fs.length (fs.map (·.1)) T = true) (chk2 : (T.all fun i => ((fs[i]?).map fun g => !g.2.owns).getD true) = true) (hBS : ∀ w', Hld W0 w' → S w') (hQ : T ≠ [] → ∀ c (a : Act) (d : Nat) v w, Q (.panic c) (a.put (some d) v) w → Q (.panic c) a w) (steps : Steps P ops Q S W0 T fs l df 0 fs ops.toList) :
    (Code.region id ops true).wp P Q ⟨l.toArray, df⟩ W0 := by
  have ok := RegionOk.of chk
  have hn : nodupB (fs.map (·.1)) = true := by
    simp only [regionOk, Bool.and_eq_true] at chk; exact chk.1.1.1.1.2
  obtain ⟨s1, s2⟩ := Steps.at fs ops.toList 0 steps
  have inFs : ∀ j, (fs.map (·.1)).contains j = true → ∃ (i : Nat) (f : SlotFact), fs[i]? = some (j, f) := by
    intro j hj
    simp only [List.contains_eq_mem, decide_eq_true_eq, List.mem_map] at hj
    obtain ⟨⟨k, f⟩, hf, rfl⟩ := hj
    obtain ⟨i, hi⟩ := List.mem_iff_getElem?.1 hf
    exact ⟨i, f, hi⟩
  have ownIn : ∀ j, (ownsAt fs).contains j = true → (fs.map (·.1)).contains j = true := by
    have sub : ∀ (r : List (Nat × SlotFact)) x, x ∈ ownsAt r → x ∈ r.map (·.1) := by
      intro r
      induction r with
      | nil => intro x hx; simp [ownsAt] at hx
      | cons g r ih => intro x hx; simp only [ownsAt] at hx; split at hx <;> simp at hx ⊢ <;> grind
    intro j hj
    simp only [List.contains_eq_mem, decide_eq_true_eq] at hj ⊢
    exact sub _ _ hj
  refine region_facts hmx fs.length (fs.map (·.1)) T (ownsAt fs) (Hld W0) (factAt W0.heap.size fs) chk hBS hQ (fun j v w w' _ _ hb h => factAt_mono hb h) ?_ (heldM ((Below.refl _ _).drew)) ?_ ?_ ?_ ?_
  · intro j hj v w h
    obtain ⟨i, f, hf⟩ := inFs j (ownIn j hj)
    rw [factAt_at hn hf] at h
    rw [ownsAt_mem hn hf] at hj
    cases f with
    | own vs => obtain ⟨b, rfl, _, h3, _⟩ := h; exact h3
    | is x => cases hj
    | sat p => cases hj
  · intro i hiT j hd
    obtain ⟨him, _⟩ := ok.take i hiT
    obtain ⟨j', hj1, hj2⟩ := ok.dst i him
    rw [hd] at hj2
    cases hj2
    rw [List.getElem?_map] at hj1
    cases hf : fs[i]? with
    | none => rw [hf] at hj1; cases hj1
    | some g =>
      rw [hf] at hj1
      obtain ⟨k, f⟩ := g
      simp only [Option.map_some, Option.some.injEq] at hj1
      subst hj1
      rw [ownsAt_mem hn hf]
      have h2 := List.all_eq_true.1 chk2 i hiT
      simpa [hf] using h2
  · intro i o j hi hiT ho hd u w hB hdeps K hK
    obtain ⟨j', hj1, hj2⟩ := ok.dst i hi
    have e : j' = j := by simp only [dstAt, ho, Option.bind_some, hd] at hj2; cases hj2; rfl
    subst e
    obtain ⟨⟨k, f⟩, hf, hk⟩ : ∃ g, fs[i]? = some g ∧ g.1 = j' := by
      rw [List.getElem?_map] at hj1
      cases h : fs[i]? with
      | none => rw [h] at hj1; cases hj1
      | some g => rw [h] at hj1; exact ⟨g, rfl, by simpa using hj1⟩
    simp only at hk
    subst hk
    have st := s1 i k f o hf (by simpa using ho)
    rw [Nat.zero_add, if_neg (by simpa using hiT)] at st
    refine st u w hB hdeps K fun v w' hb hv => hK v w' (heldB hB hb) hb (by rw [factAt_at hn hf]; exact f.low hB.2.2.2 hv) fun hp => ?_
    rw [ownsAt_mem hn hf] at hp
    cases f with
    | own vs => obtain ⟨b, rfl, h2, _⟩ := hv; exact h2
    | is x => cases hp
    | sat p => cases hp
  · intro i o j hiT ho hd u w hB hdeps
    obtain ⟨hi, _⟩ := ok.take i hiT
    obtain ⟨j', hj1, hj2⟩ := ok.dst i hi
    have e : j' = j := by simp only [dstAt, ho, Option.bind_some, hd] at hj2; cases hj2; rfl
    subst e
    obtain ⟨⟨k, f⟩, hf, hk⟩ : ∃ g, fs[i]? = some g ∧ g.1 = j' := by
      rw [List.getElem?_map] at hj1
      cases h : fs[i]? with
      | none => rw [h] at hj1; cases hj1
      | some g => rw [h] at hj1; exact ⟨g, rfl, by simpa using hj1⟩
    simp only at hk
    subst hk
    have st := s1 i k f o hf (by simpa using ho)
    rw [Nat.zero_add, if_pos (by simpa using hiT)] at st
    obtain ⟨v, h1, h2, _, h3⟩ := st u w hB hdeps
    refine ⟨v, Or.inl ⟨by simp [Region.wanted, h2], h1⟩, by rw [factAt_at hn hf]; exact f.low hB.2.2.2 h3⟩
  · intro u w' hB hF hP
    refine s2 u w' hB (allFacts_of fs fun i j f hf => ?_) fun j j' hj hj' hne => hP j j' (ownIn j hj) (ownIn j' hj') hj hj' hne
    have := hF j (by simp only [List.contains_eq_mem, decide_eq_true_eq, List.mem_map]; exact ⟨_, List.mem_of_getElem? hf, rfl⟩)
    rwa [factAt_at hn hf] at this
end
end Go.Proofs.YtmdnfamjdogogaaGreatDoor

namespace Go.Proofs.YtmdnfamjdogogaaGreatDoor
set_option linter.unusedSimpArgs false
set_option linter.unusedVariables false
open Go.RowKit

/-- in a range, as a Bool that the walk does not take apart -/
def inR (a b n : Int) : Bool := decide (a ≤ n) && decide (n ≤ b)
/-- both parts in the range -l to l -/
def inB (l x y : Int) : Bool := inR (-l) l x && inR (-l) l y
/-- a pair as the value of a struct or of an array -/
abbrev pr (x y : Int) : Value := .agg #[.int .i64 x, .int .i64 y]

end Go.Proofs.YtmdnfamjdogogaaGreatDoor

namespace Go.Proofs.YtmdnfamjdogogaaGreatDoor
set_option linter.unusedSimpArgs false
set_option linter.unusedVariables false
open Go.RowKit

theorem toList_toL (s : ByteArray) : s.toList = toL s := ByteArray.toList_eq s
theorem iter_below (w : World) (s : ByteArray) (k : Nat) : Below w.heap.size w (w.iter s k) := (Below.refl _ _).alloc (Nat.le_refl _) _
def isXY (x y : Int) (c : UInt8) : Bool := decide ((c.toNat : Int) = x) || decide ((c.toNat : Int) = y)
theorem isXY_iff (x y : Int) (c : UInt8) : isXY x y c = true ↔ (c.toNat : Int) = x ∨ (c.toNat : Int) = y := by
  unfold isXY; rw [Bool.or_eq_true, decide_eq_true_eq, decide_eq_true_eq]
def onlyXY (x y : Int) (s : ByteArray) : Bool := (toL s).all (isXY x y)
theorem onlyXY_bad {x y : Int} {s : ByteArray} (k : Nat) (hk : k < s.size) (h : ¬ ((s[k].toNat : Int) = x ∨ (s[k].toNat : Int) = y)) : onlyXY x y s = false := by
  rw [← Bool.not_eq_true]
  intro e
  exact h ((isXY_iff _ _ _).1 (List.all_eq_true.1 e _ (List.mem_of_getElem? (toL_get s k hk))))
theorem onlyXY_good {x y : Int} {s : ByteArray} (h : ∀ c ∈ toL s, isXY x y c = true) : onlyXY x y s = true := List.all_eq_true.2 h
def XYRel (x y : Int) (s : ByteArray) (w : World) (m : Nat) (wr : World) : Prop := ∃ k : Nat, k + m = s.size ∧ wr = w.iter s k ∧ ∀ c ∈ (toL s).take k, isXY x y c = true
theorem XYRel.step {x y : Int} {s : ByteArray} {k : Nat} (hk : k < s.size) (h : ∀ c ∈ (toL s).take k, isXY x y c = true) (hc : (s[k].toNat : Int) = x ∨ (s[k].toNat : Int) = y) : ∀ c ∈ (toL s).take (k + 1), isXY x y c = true := by
  rw [take_snocB s k hk]
  intro c hm
  rcases List.mem_append.1 hm with hm | hm
  · exact h c hm
  · rw [List.mem_singleton] at hm; rw [hm]; exact (isXY_iff _ _ _).2 hc
set_option maxHeartbeats 1000000 in
theorem onlyOf_c (x y : Int) (s : ByteArray) (w : World) (hx : 0 ≤ x ∧ x < 128) (hy : 0 ≤ y ∧ y < 128) : Calls Tryz.prog 109 #[.string s, .int .i32 x, .int .i32 y] w fun e w' => e = .returned (.bool (onlyXY x y s)) ∧ Below w.heap.size w w' := by
  obtain ⟨x1, x2⟩ := hx
  obtain ⟨y1, y2⟩ := hy
  go_enter Tryz.func109, Tryz.ntmps109
  go_wp2
  go_loopg [8] s.size (fun m v wr => XYRel x y s w m wr)
  case atStart => exact ⟨0, by omega, rfl, by simp⟩
  case round =>
    obtain ⟨k, hk, rfl, hb⟩ := hrel
    have HB := Lib.hid hb
    clear hb
    by_cases hlt : k < s.size
    · have hnx : ∀ ty, (Instr.next (.pointer (some ⟨w.heap.size, 0, none⟩)) true ty).run Tryz.prog (w.iter s k) = _ := fun ty => run_next_any w s k ty hlt
      by_cases e0 : s[k].toNat < 128
      · have hd : Utf8.decode s k = (s[k].toNat, 1) := decode_ascii s k hlt e0
        rw [hd] at hnx
        clear hd e0
        by_cases e8 : (s[k].toNat : Int) = x
        · have HS := Lib.hid (XYRel.step hlt HB.out (Or.inl e8))
          have a1 : ((s[k].toNat : Int) != x) = false := by simp [e8]
          clear e8
          go_wp2
          go_roundg (gk - 1)
          case measure => omega
          case rel => exact ⟨k + 1, by omega, rfl, HS.out⟩
        · by_cases e9 : (s[k].toNat : Int) = y
          · have HS := Lib.hid (XYRel.step hlt HB.out (Or.inr e9))
            have a1 : ((s[k].toNat : Int) != x) = true := by simp [e8]
            have a2 : ((s[k].toNat : Int) != y) = false := by simp [e9]
            clear e8 e9
            go_wp2
            go_roundg (gk - 1)
            case measure => omega
            case rel => exact ⟨k + 1, by omega, rfl, HS.out⟩
          · have H := Lib.hid (onlyXY_bad (x := x) (y := y) k hlt (fun h => h.elim e8 e9))
            have a1 : ((s[k].toNat : Int) != x) = true := by simp [e8]
            have a2 : ((s[k].toNat : Int) != y) = true := by simp [e9]
            clear e8 e9
            go_wp2
            go_ret
            exact ⟨by rw [H.out]; rfl, by (first | ((repeat' with_reducible first | assumption | exact Below.refl _ _ | apply Blw.alloc | apply Blw.drew | apply Blw.drewN | (refine Blw.after ?_ (by assumption)) | (refine Blw.set ?_ (by first | (dsimp only; omega) | (simp; omega)) _)); done) | (repeat' (first | assumption | exact Below.refl _ _ | apply Blw.alloc | apply Blw.drew | apply Blw.drewN | (refine Blw.after ?_ (by assumption)) | (refine Blw.set ?_ (by first | (dsimp only; omega) | (simp; done) | (simp; omega)) _))))⟩
      · have hd := (decode_high s k hlt (by omega)).1
        have H := Lib.hid (onlyXY_bad (x := x) (y := y) k hlt (by omega))
        have a1 : (((Utf8.decode s k).1 : Int) != x) = true := by simp; omega
        have a2 : (((Utf8.decode s k).1 : Int) != y) = true := by simp; omega
        clear hd e0
        go_wp2
        go_ret
        exact ⟨by rw [H.out]; rfl, by (first | ((repeat' with_reducible first | assumption | exact Below.refl _ _ | apply Blw.alloc | apply Blw.drew | apply Blw.drewN | (refine Blw.after ?_ (by assumption)) | (refine Blw.set ?_ (by first | (dsimp only; omega) | (simp; omega)) _)); done) | (repeat' (first | assumption | exact Below.refl _ _ | apply Blw.alloc | apply Blw.drew | apply Blw.drewN | (refine Blw.after ?_ (by assumption)) | (refine Blw.set ?_ (by first | (dsimp only; omega) | (simp; done) | (simp; omega)) _))))⟩
    · have hnx : ∀ ty, (Instr.next (.pointer (some ⟨w.heap.size, 0, none⟩)) true ty).run Tryz.prog (w.iter s k) = _ := fun ty => run_next_end w s k ty hlt
      have H := Lib.hid (onlyXY_good (x := x) (y := y) (by rw [← take_allB s k (by omega)]; exact HB.out))
      go_wp2
      go_ret
      exact ⟨by rw [H.out]; rfl, by (first | ((repeat' with_reducible first | assumption | exact Below.refl _ _ | apply Blw.alloc | apply Blw.drew | apply Blw.drewN | (refine Blw.after ?_ (by assumption)) | (refine Blw.set ?_ (by first | (dsimp only; omega) | (simp; omega)) _)); done) | (repeat' (first | assumption | exact Below.refl _ _ | apply Blw.alloc | apply Blw.drew | apply Blw.drewN | (refine Blw.after ?_ (by assumption)) | (refine Blw.set ?_ (by first | (dsimp only; omega) | (simp; done) | (simp; omega)) _))))⟩
end Go.Proofs.YtmdnfamjdogogaaGreatDoor

namespace Go.Proofs.YtmdnfamjdogogaaGreatDoor
set_option linter.unusedSimpArgs false
set_option linter.unusedVariables false
open Go.RowKit

theorem vX_bound : ∀ {l : List UInt8}, (∀ c ∈ l, hexd c < 16) → vX l < 16 ^ l.length := by
  intro l
  induction l using rev_ind with
  | h0 => intro _; decide
  | h1 l c ih =>
    intro h
    have h1 := ih (fun d hd => h d (List.mem_append_left _ hd))
    have h2 := h c (by simp)
    have e : vX (l ++ [c]) = vX l * 16 + hexd c := by unfold vX; rw [List.foldl_append]; rfl
    rw [e, List.length_append, List.length_singleton, Nat.pow_succ]
    omega
theorem vX_part {l : List UInt8} (h : okX l = true) (k : Nat) : vX (l.take k) < 4294967296 := by
  obtain ⟨h8, hd⟩ := okX_iff.1 h
  have h1 := vX_bound (l := l.take k) (fun c hc => hd c (List.mem_of_mem_take hc))
  have h2 : (l.take k).length ≤ 8 := by rw [List.length_take]; omega
  have h3 : 16 ^ (l.take k).length ≤ 16 ^ 8 := Nat.pow_le_pow_right (by omega) h2
  have h4 : (16 : Nat) ^ 8 = 4294967296 := by decide
  omega
theorem low_hex (c : UInt8) (h : hexd c < 16) (hn : ¬ (48 ≤ c.toNat ∧ c.toNat ≤ 57)) : bits .or .u8 (c.toNat : Int) 32 = (c.toNat : Int) ∧ 97 ≤ c.toNat ∧ c.toNat ≤ 102 ∧ hexd c = c.toNat - 87 := by
  have hc : 97 ≤ c.toNat ∧ c.toNat ≤ 102 ∧ hexd c = c.toNat - 87 := by
    unfold hexd at *
    rw [if_neg hn] at *
    split at h
    · rename_i h2; rw [if_pos h2]; exact ⟨h2.1, h2.2, rfl⟩
    · omega
  refine ⟨?_, hc⟩
  have key : ∀ i : Fin 6, bits .or .u8 ((97 + i.1 : Nat) : Int) 32 = ((97 + i.1 : Nat) : Int) := by decide
  have := key ⟨c.toNat - 97, by omega⟩
  rw [show 97 + (c.toNat - 97) = c.toNat by omega] at this
  exact this
theorem lower_c (c : Int) (w : World) : Calls Tryz.prog 73 #[.int .u8 c] w fun e w' => e = .returned (.int .u8 (bits .or .u8 c 32)) ∧ w = w' := by
  go_enter Tryz.func73, Tryz.ntmps73
  go_wp2
  go_ret
  exact ⟨rfl, rfl⟩
def lowI (c : UInt8) : Int := bits .or .u8 (c.toNat : Int) 32
def dgt (c : UInt8) : Int := if 48 ≤ c.toNat ∧ c.toNat ≤ 57 then (c.toNat : Int) - 48 else if 97 ≤ lowI c ∧ lowI c ≤ 122 then lowI c - 87 else 99
theorem dgt_pos (c : UInt8) : 0 ≤ dgt c := by
  unfold dgt
  split
  · omega
  · split <;> omega
theorem dgt_hex {c : UInt8} (h : hexd c < 16) : dgt c = (hexd c : Int) := by
  unfold dgt
  by_cases hd : 48 ≤ c.toNat ∧ c.toNat ≤ 57
  · rw [if_pos hd]; unfold hexd; rw [if_pos hd]; omega
  · rw [if_neg hd]
    obtain ⟨e1, e2, e3, e4⟩ := low_hex c h hd
    have e5 : lowI c = (c.toNat : Int) := e1
    rw [e5, if_pos (by omega), e4]; omega
/-- what the library reads, and its error's number -/
def puF : List UInt8 → Int → Int × Nat
  | [], a => (a, 0)
  | c :: r, a => if 16 ≤ dgt c then (0, 2) else if 4294967295 < a * 16 + dgt c then (4294967295, 1) else puF r (a * 16 + dgt c)
def puG (l : List UInt8) : Int × Nat := if l = [] then (0, 2) else puF l 0
theorem puF_in : ∀ (l : List UInt8) (a : Int), 0 ≤ a → a ≤ 4294967295 → (0 ≤ (puF l a).1 ∧ (puF l a).1 ≤ 4294967295) ∧ (puF l a).2 ≤ 2
  | [], a, h1, h2 => ⟨⟨h1, h2⟩, Nat.zero_le _⟩
  | c :: r, a, h1, h2 => by
    unfold puF
    have := dgt_pos c
    split
    · exact ⟨⟨by decide, by decide⟩, by decide⟩
    · split
      · exact ⟨⟨by decide, by decide⟩, by decide⟩
      · exact puF_in r _ (by omega) (by omega)
theorem puG_in (l : List UInt8) : (0 ≤ (puG l).1 ∧ (puG l).1 ≤ 4294967295) ∧ (puG l).2 ≤ 2 := by
  unfold puG
  split
  · exact ⟨⟨by decide, by decide⟩, by decide⟩
  · exact puF_in l 0 (by decide) (by decide)
theorem puF_ok {l : List UInt8} (h : okX l = true) : ∀ k, k ≤ l.length → puF l 0 = puF (l.drop k) (vX (l.take k) : Int) := by
  intro k
  induction k with
  | zero => intro _; rw [List.drop_zero, List.take_zero]; rfl
  | succ k ih =>
    intro hk
    rw [ih (by omega), List.drop_eq_getElem_cons (by omega), vX_take (by omega)]
    have h1 := (okX_iff.1 h).2 _ (List.getElem_mem (show k < l.length by omega))
    have h2 := vX_part h (k + 1)
    rw [vX_take (by omega)] at h2
    have h3 := dgt_hex h1
    rw [puF, if_neg (by omega), if_neg (by omega), h3]
    congr 1
theorem puG_ok {l : List UInt8} (h : okX l = true) : (puG l).1 = (vX l : Int) := by
  have h0 : l ≠ [] := by rintro rfl; exact absurd h (by decide)
  unfold puG
  rw [if_neg h0, puF_ok h l.length (Nat.le_refl _), List.drop_length, List.take_length]; rfl
def evOf (n : Nat) : Value := if n = 0 then .nilIface else .iface 106 (.int .i64 (n : Int))
def puV (l : List UInt8) : Value := .tuple #[.int .u64 (puG l).1, evOf (puG l).2]
set_option maxHeartbeats 32000000 in
set_option maxRecDepth 100000 in
theorem puInner_c (s : ByteArray) (w : World) (hs : s.size ≤ 2000000) : Calls Tryz.prog 52 #[.string s, .int .i64 16, .int .i64 32] w fun e w' => e = .returned (puV (toL s)) ∧ Below w.heap.size w w' := by
  by_cases h0 : s.size = 0
  · have hl : toL s = [] := List.eq_nil_of_length_eq_zero (by rw [toL_len]; exact h0)
    have hE : s.toList.isEmpty = true := by rw [toList_toL, hl]; rfl
    have HV := Lib.hid (show puV (toL s) = .tuple #[.int .u64 0, .iface 106 (.int .i64 2)] by rw [hl]; rfl)
    clear hl
    go_enter Tryz.func52, Tryz.ntmps52
    go_wp2
    go_ret2
    exact ⟨by rw [HV.out]; rfl, Below.refl _ _⟩
  · have hE : s.toList.isEmpty = false := by
      rw [toList_toL]
      cases hh : toL s with
      | nil => exact absurd (by rw [← toL_len, hh]; rfl) h0
      | cons a l => rfl
    have hne : toL s ≠ [] := fun e => h0 (by rw [← toL_len, e]; rfl)
    have hcv := Lib.run_convert_string_bytes (P := Tryz.prog) w 9 22 5 s (u := .string) Tryz.underlying9 Tryz.underlying22 Tryz.underlying5
    have hB : ∀ j, j < s.size → (Lib.bytesWorld w 5 s).cell? ⟨w.heap.size, j, none⟩ = some (.int .u8 ((toL s).getD j 0).toNat) := fun j hj => Lib.bytesWorld_cell w 5 s j hj
    have hBw := Lib.bytesWorld_below w 5 s
    obtain ⟨W1, hW1⟩ : ∃ W1, W1 = Lib.bytesWorld w 5 s := ⟨_, rfl⟩
    rw [← hW1] at hcv hB hBw
    clear hW1 h0
    have HB := Lib.hid hBw
    have HC := Lib.hid hB
    clear hBw hB
    have FIN := Lib.hid (fun (a : Int) (n : Nat) (h : puF (toL s) 0 = (a, n)) => (show Ending.returned (.tuple #[.int .u64 a, evOf n]) = Ending.returned (puV (toL s)) by unfold puV puG; rw [if_neg hne, h]))
    clear hne
    have hmv : IntKind.u64.wrap (IntKind.u64.wrap 4294967296 - 1) = 4294967295 := by
      rw [IntKind.wrap_u64, IntKind.wrap_u64]; decide
    go_enter Tryz.func52, Tryz.ntmps52
    go_wp2
    go_loop [12, 13, 101] (fun vu vn vi => ∃ (k : Nat) (a : Int), vu = .bool false ∧ vn = .int .u64 a ∧ vi = .int .i64 k ∧ k ≤ s.size ∧ 0 ≤ a ∧ a ≤ 4294967295 ∧ Hid (puF (toL s) 0 = puF ((toL s).drop k) a))
      (fun _ _ vi => s.size - (intOf vi).toNat)
    case atStart => exact ⟨0, 0, rfl, rfl, rfl, by omega, by omega, by omega, Lib.hid (by rw [List.drop_zero])⟩
    case round =>
      obtain ⟨k, a, rfl, rfl, rfl, hk, a0, a1, hh⟩ := hrel
      by_cases hkn : k < s.size
      · have hc := HC.out k hkn
        have hkl : k < (toL s).length := by rw [toL_len]; exact hkn
        have hget : (toL s).getD k 0 = (toL s)[k] := by simp [List.getD, List.getElem?_eq_getElem hkl]
        rw [hget] at hc
        have hst := hh.out
        rw [List.drop_eq_getElem_cons hkl, puF] at hst
        clear hget
        generalize (toL s)[k] = c at *
        have hc256 : c.toNat < 256 := c.toNat_lt
        have icut : a < 1152921504606846976 := by omega
        clear hh
        by_cases hdig : 48 ≤ c.toNat ∧ c.toNat ≤ 57
        · have hD : dgt c = (c.toNat : Int) - 48 := by unfold dgt; rw [if_pos hdig]
          obtain ⟨hd0, hd1⟩ := hdig
          have id0 : (48 : Int) ≤ (c.toNat : Int) := by omega
          have id1 : (c.toNat : Int) ≤ 57 := by omega
          have h95 : ((c.toNat : Int) == 95) = false := by simp; omega
          obtain ⟨d, hd⟩ : ∃ d : Int, d = (c.toNat : Int) - 48 := ⟨_, rfl⟩
          rw [hD, ← hd, if_neg (by omega)] at hst
          have iw : IntKind.u8.wrap ((c.toNat : Int) - 48) = d := by rw [IntKind.wrap_u8']; omega
          have hd16 : d < 16 := by omega
          have hd00 : 0 ≤ d := by omega
          clear hd hd0 hd1 hD
          by_cases hov : 4294967295 < a * 16 + d
          · rw [if_pos hov] at hst
            have F := Lib.hid (FIN.out _ _ hst)
            clear hst FIN
            go_wp2
            go_ret2
            exact ⟨F.out, HB.out⟩
          · rw [if_neg hov] at hst
            have HN := Lib.hid hst
            clear hst
            go_wp2
            exact ⟨⟨k + 1, a * 16 + d, rfl, (by first | rfl | (congr 1; omega)), (by first | rfl | (congr 1; omega)), by omega, by omega, by omega, HN⟩, by simp [intOf]; omega⟩
        · have hdd : (c.toNat : Int) < 48 ∨ 57 < (c.toNat : Int) := by omega
          have hD : dgt c = if 97 ≤ lowI c ∧ lowI c ≤ 122 then lowI c - 87 else 99 := by unfold dgt; rw [if_neg hdig]
          have hv0 : 0 ≤ lowI c := bits_lo_u8 .or (c.toNat : Int) 32
          have hv1 : lowI c ≤ 255 := by have : lowI c < 256 := by have := bits_hi_u8 .or (c.toNat : Int) 32; unfold lowI; omega
                                        omega
          have HLW := fun w => lower_c (c.toNat : Int) w
          rw [show bits .or .u8 (c.toNat : Int) 32 = lowI c from rfl] at HLW
          generalize lowI c = v at *
          clear hdig
          by_cases hl : 97 ≤ v ∧ v ≤ 122
          · rw [hD, if_pos hl] at hst
            obtain ⟨l0, l1⟩ := hl
            obtain ⟨d, hd⟩ : ∃ d : Int, d = v - 87 := ⟨_, rfl⟩
            rw [← hd] at hst
            have iw1 : IntKind.u8.wrap (v - 97) = v - 97 := by rw [IntKind.wrap_u8']; omega
            have iw2 : IntKind.u8.wrap (v - 97 + 10) = d := by rw [IntKind.wrap_u8']; omega
            have hd00 : 0 ≤ d := by omega
            have hd99 : d < 256 := by omega
            have iw3 : v - 97 + 10 = d := by omega
            clear hd hD
            by_cases h16 : d < 16
            · rw [if_neg (by omega)] at hst
              by_cases hov : 4294967295 < a * 16 + d
              · rw [if_pos hov] at hst
                have F := Lib.hid (FIN.out _ _ hst)
                clear hst FIN
                rcases hdd with hdd | hdd
                all_goals
                  rcases Bool.eq_false_or_eq_true ((c.toNat : Int) == 95) with h95 | h95
                all_goals
                  go_wp2_with (go_at_call 73; refine (HLW _).mono ?_; rintro e w1 ⟨rfl, rfl⟩)
                  go_ret2
                  exact ⟨F.out, HB.out⟩
              · rw [if_neg hov] at hst
                have HN := Lib.hid hst
                clear hst
                rcases hdd with hdd | hdd
                all_goals
                  rcases Bool.eq_false_or_eq_true ((c.toNat : Int) == 95) with h95 | h95
                all_goals
                  go_wp2_with (go_at_call 73; refine (HLW _).mono ?_; rintro e w1 ⟨rfl, rfl⟩)
                  exact ⟨⟨k + 1, a * 16 + d, rfl, (by first | rfl | (congr 1; omega)), (by first | rfl | (congr 1; omega)), by omega, by omega, by omega, HN⟩, by simp [intOf]; omega⟩
            · rw [if_pos (by omega)] at hst
              have F := Lib.hid (FIN.out _ _ hst)
              have h16' : 16 ≤ d := by omega
              clear hst FIN h16
              rcases hdd with hdd | hdd
              all_goals
                rcases Bool.eq_false_or_eq_true ((c.toNat : Int) == 95) with h95 | h95
              all_goals
                go_wp2_with (go_at_call 73; refine (HLW _).mono ?_; rintro e w1 ⟨rfl, rfl⟩)
                go_ret2
                exact ⟨F.out, HB.out⟩
          · rw [hD, if_neg hl, if_pos (by decide)] at hst
            have F := Lib.hid (FIN.out _ _ hst)
            have hl' : v < 97 ∨ 122 < v := by omega
            clear hst FIN hl hD
            rcases hl' with hl' | hl'
            all_goals
              rcases hdd with hdd | hdd
            all_goals
              rcases Bool.eq_false_or_eq_true ((c.toNat : Int) == 95) with h95 | h95
            all_goals
              go_wp2_with (go_at_call 73; refine (HLW _).mono ?_; rintro e w1 ⟨rfl, rfl⟩)
              go_ret2
              exact ⟨F.out, HB.out⟩
      · obtain rfl : k = s.size := by omega
        have hst := hh.out
        rw [List.drop_of_length_le (by rw [toL_len]; exact Nat.le_refl _), puF] at hst
        have F := Lib.hid (FIN.out _ _ hst)
        clear FIN hh hst
        go_wp2
        go_ret2
        exact ⟨F.out, HB.out⟩
end Go.Proofs.YtmdnfamjdogogaaGreatDoor

namespace Go.Proofs.YtmdnfamjdogogaaGreatDoor
set_option linter.unusedSimpArgs false
set_option linter.unusedVariables false
open Go.ChangeShapes Go.WideShapes Go.ChangeAt Go.RowKit Go.Joins

section
variable {H : Type} {enc : TypeId × Value → H} {P : Program} {w : World} {base : Nat} {spare : Nat → Bool} {held : Bool} {fuel : Nat} {t : TypeId} {cs : List Value}
theorem rd_int {k : IntKind} {n : Int} {p : List MemPlace} (ht : P.underlying t = some (.int k)) (h : DataW.trod enc P w base spare held fuel t cs = some (.lit (.int k n), p)) : cs = [.int k n] := by
  obtain ⟨m, e1, e2, _⟩ := DataW.trod_int ht h
  simp only [Prod.mk.injEq, DataW.lit.injEq, Lit.int.injEq, true_and] at e2
  rw [e1, e2.1]
theorem rd_str {l : List UInt8} {p : List MemPlace} (ht : P.underlying t = some .string) (h : DataW.trod enc P w base spare held fuel t cs = some (.lit (.string l), p)) : cs = [.string (bs l)] := by
  obtain ⟨s, e1, e2, _⟩ := DataW.trod_string ht h
  simp only [Prod.mk.injEq, DataW.lit.injEq, Lit.string.injEq] at e2
  rw [e1, e2.1]
  rw [show s.data.toList = toL s from rfl, bs_toL]
theorem rd_struct {fs : Array Field} {ds : List (DataW H)} {p : List MemPlace} (ht : P.underlying t = some (.struct fs)) (h : DataW.trod enc P w base spare held fuel t cs = some (.agg ds, p)) {i : Nat} {f : Field} {d : DataW H} (hf : fs[i]? = some f) (hd : ds[i]? = some d) {ft : TypeId} {fo c : Nat} (e1 : f.type = ft) (e2 : f.offset = fo) (e3 : P.cellsOf ft = c) :
    ∃ m q, DataW.trod enc P w base spare held m ft ((cs.drop fo).take c) = some (d, q) := by
  subst e1 e2 e3
  obtain ⟨xs, n, _, e, _, _, hx⟩ := DataW.trod_struct ht h
  simp only [Prod.mk.injEq, DataW.agg.injEq] at e
  have h1 := hx i f hf
  rw [e.1, List.getElem?_map] at hd
  cases hxi : xs[i]? with
  | none => rw [hxi] at hd; simp at hd
  | some x =>
    rw [hxi] at hd h1
    simp only [Option.map_some, Option.some.injEq] at hd
    exact ⟨n, x.2, by rw [h1, ← hd]⟩
theorem rd_array {n : Nat} {e : TypeId} {ds : List (DataW H)} {p : List MemPlace} (ht : P.underlying t = some (.array n e)) (h : DataW.trod enc P w base spare held fuel t cs = some (.agg ds, p)) {i : Nat} {d : DataW H} (hi : i < n) (hd : ds[i]? = some d) :
    ∃ m q, DataW.trod enc P w base spare held m e ((cs.drop (i * P.cellsOf e)).take (P.cellsOf e)) = some (d, q) := by
  obtain ⟨xs, m, _, e, _, _, hx⟩ := DataW.trod_array ht h
  simp only [Prod.mk.injEq, DataW.agg.injEq] at e
  have h1 := hx i hi
  rw [e.1, List.getElem?_map] at hd
  cases hxi : xs[i]? with
  | none => rw [hxi] at hd; simp at hd
  | some x =>
    rw [hxi] at hd h1
    simp only [Option.map_some, Option.some.injEq] at hd
    exact ⟨m, x.2, by rw [h1, ← hd]⟩
theorem at_of_one {l : List Value} {a n k : Nat} {v : Value} (h : (((l.drop a).take n).drop k).take 1 = [v]) (hk : k < n) : l[a + k]? = some v := by
  have e : ((((l.drop a).take n).drop k).take 1)[0]? = some v := by rw [h]; rfl
  rw [List.getElem?_take, if_pos (by omega), List.getElem?_drop, List.getElem?_take, if_pos (by omega), List.getElem?_drop] at e
  simpa using e
theorem drop_take (l : List Value) (a n b m : Nat) (h : b + m ≤ n) : (((l.drop a).take n).drop b).take m = (l.drop (a + b)).take m := by
  apply List.ext_getElem?
  intro i
  simp only [List.getElem?_take, List.getElem?_drop]
  by_cases hi : i < m
  · rw [if_pos hi, if_pos hi, if_pos (by omega), Nat.add_assoc]
  · rw [if_neg hi, if_neg hi]
end
end Go.Proofs.YtmdnfamjdogogaaGreatDoor

namespace Go.Proofs.YtmdnfamjdogogaaGreatDoor
set_option linter.unusedSimpArgs false
set_option linter.unusedVariables false

/-- a byte is a letter of a word -/
def wdC (c : UInt8) : Bool := c == 108 || c == 114
theorem wdC_iff (c : UInt8) : wdC c = true ↔ c.toNat = 108 ∨ c.toNat = 114 := by
  unfold wdC
  rw [Bool.or_eq_true, beq_iff_eq, beq_iff_eq, ← UInt8.toNat_inj, ← UInt8.toNat_inj]
  rfl
theorem wdC_or {c : UInt8} (h : wdC c = true) : c = 108 ∨ c = 114 := by
  unfold wdC at h
  rw [Bool.or_eq_true, beq_iff_eq, beq_iff_eq] at h
  exact h
/-- the other letter -/
def oth (c : UInt8) : UInt8 := if c = 108 then 114 else 108
theorem oth_wd (c : UInt8) : wdC (oth c) = true := by unfold oth; split <;> rfl
theorem oth_oth {c : UInt8} (h : wdC c = true) : oth (oth c) = c := by
  rcases wdC_or h with rfl | rfl <;> rfl
theorem oth_ne {c : UInt8} (h : wdC c = true) : oth c ≠ c := by
  rcases wdC_or h with rfl | rfl <;> decide
def onlyW (s : ByteArray) : Bool := (toL s).all wdC
theorem onlyW_bad {s : ByteArray} (k : Nat) (hk : k < s.size) (h : ¬ (s[k].toNat = 108 ∨ s[k].toNat = 114)) : onlyW s = false := by
  rw [← Bool.not_eq_true]
  intro e
  exact h ((wdC_iff _).1 (List.all_eq_true.1 e _ (List.mem_of_getElem? (toL_get s k hk))))
theorem onlyW_good {s : ByteArray} (h : ∀ c ∈ toL s, wdC c = true) : onlyW s = true := List.all_eq_true.2 h
theorem onlyW_all {s : ByteArray} (h : onlyW s = true) : ∀ c ∈ toL s, wdC c = true := List.all_eq_true.1 h
/-- a word of at most so many letters -/
def wdB (n : Nat) (s : ByteArray) : Bool := decide (s.size ≤ n) && onlyW s
theorem wdB_len {n : Nat} {s : ByteArray} (h : wdB n s = true) : s.size ≤ n := by simp [wdB] at h; exact h.1
theorem wdB_only {n : Nat} {s : ByteArray} (h : wdB n s = true) : onlyW s = true := by simp [wdB] at h; exact h.2
theorem wdB_all {n : Nat} {s : ByteArray} (h : wdB n s = true) : ∀ c ∈ toL s, wdC c = true := onlyW_all (wdB_only h)
theorem wdB_long {n : Nat} {s : ByteArray} (h : n < s.size) : wdB n s = false := by simp [wdB]; omega
theorem wdB_of {n : Nat} {s : ByteArray} (h : s.size ≤ n) : wdB n s = onlyW s := by simp [wdB, h]
theorem wdB_at {n : Nat} {s : ByteArray} (h : wdB n s = true) (k : Nat) (hk : k < s.size) : s[k].toNat = 108 ∨ s[k].toNat = 114 :=
  (wdC_iff _).1 (wdB_all h _ (List.mem_of_getElem? (toL_get s k hk)))

/-! ### turned back -/
def backL (l : List UInt8) : List UInt8 := (l.map oth).reverse
theorem backL_len (l : List UInt8) : (backL l).length = l.length := by simp [backL]
theorem backL_append (a b : List UInt8) : backL (a ++ b) = backL b ++ backL a := by simp [backL]
theorem backL_one (c : UInt8) : backL [c] = [oth c] := rfl
theorem backL_cons (c : UInt8) (l : List UInt8) : backL (c :: l) = backL l ++ [oth c] := by simp [backL]
theorem backL_snoc (c : UInt8) (l : List UInt8) : backL (l ++ [c]) = oth c :: backL l := by simp [backL]
theorem backL_back {l : List UInt8} (h : ∀ c ∈ l, wdC c = true) : backL (backL l) = l := by
  induction l with
  | nil => rfl
  | cons a r ih =>
    rw [backL_cons, backL_append, ih (fun c hc => h c (by simp [hc])), backL_one, oth_oth (h a (by simp))]; rfl
theorem backL_wd (l : List UInt8) : ∀ c ∈ backL l, wdC c = true := by
  intro c hc
  simp [backL] at hc
  obtain ⟨a, _, rfl⟩ := hc
  exact oth_wd a
theorem backL_get (l : List UInt8) (k : Nat) (h : k < l.length) : (backL l)[k]? = (l[l.length - 1 - k]?).map oth := by
  have h1 : k < (l.map oth).length := by simpa using h
  unfold backL
  rw [List.getElem?_reverse h1, List.length_map, List.getElem?_map]

/-! ### words of turns -/
def turnsL (l : List UInt8) : List UInt8 := l.foldl (fun o c => o ++ [c] ++ backL o) []
theorem turnsL_nil : turnsL [] = [] := rfl
theorem turnsL_snoc (l : List UInt8) (c : UInt8) : turnsL (l ++ [c]) = turnsL l ++ [c] ++ backL (turnsL l) := by simp [turnsL]
theorem turnsL_len (l : List UInt8) : (turnsL l).length + 1 = 2 ^ l.length := by
  induction l using rev_ind with
  | h0 => rfl
  | h1 l c ih =>
    rw [turnsL_snoc, List.length_append, List.length_append, backL_len, List.length_append]
    simp only [List.length_singleton, Nat.pow_succ]
    omega
theorem turnsL_wd (l : List UInt8) (h : ∀ c ∈ l, wdC c = true) : ∀ c ∈ turnsL l, wdC c = true := by
  induction l using rev_ind with
  | h0 => intro c hc; simp [turnsL] at hc
  | h1 l c ih =>
    intro d hd
    rw [turnsL_snoc] at hd
    simp only [List.mem_append, List.mem_singleton] at hd
    rcases hd with (hd | hd) | hd
    · exact ih (fun c hc => h c (by simp [hc])) d hd
    · exact h d (by simp [hd])
    · exact backL_wd _ d hd
/-- the letter at 2 to the power of j times the odd number o -/
def turnV (cs : List UInt8) (j o : Nat) : UInt8 := if o % 4 = 1 then cs[j]?.getD 0 else oth (cs[j]?.getD 0)
theorem turnV_ext {cs : List UInt8} {c : UInt8} {j o : Nat} (h : j < cs.length) : turnV (cs ++ [c]) j o = turnV cs j o := by
  unfold turnV; rw [List.getElem?_append_left h]
theorem pow_dvd4 {k : Nat} (h : 2 ≤ k) : ∃ q, 2 ^ k = 4 * q := ⟨2 ^ (k - 2), by
  have : k = 2 + (k - 2) := by omega
  rw [this, Nat.pow_add]; simp⟩
theorem pow_even {k : Nat} (h : 1 ≤ k) : 2 ^ k % 2 = 0 := by
  obtain ⟨m, rfl⟩ : ∃ m, k = m + 1 := ⟨k - 1, by omega⟩
  rw [Nat.pow_succ]; omega
theorem two_pos (k : Nat) : 0 < 2 ^ k := Nat.pow_pos (by omega)
theorem exp_lt {j n o : Nat} (ho : o % 2 = 1) (h : 2 ^ j * o < 2 ^ n) : j < n := by
  have h1 : 2 ^ j ≤ 2 ^ j * o := Nat.le_mul_of_pos_right _ (by omega)
  exact (Nat.pow_lt_pow_iff_right (by omega : 1 < 2)).1 (Nat.lt_of_le_of_lt h1 h)
/-- what is left up to the power n is odd, too, and 3 where the one is 1 -/
theorem exp_left {j n o : Nat} (ho : o % 2 = 1) (hj : j < n) (h : 2 ^ j * o < 2 ^ n) : 2 ^ n - 2 ^ j * o = 2 ^ j * (2 ^ (n - j) - o) ∧ (2 ^ (n - j) - o) % 2 = 1 ∧ o < 2 ^ (n - j) := by
  have e : 2 ^ n = 2 ^ j * 2 ^ (n - j) := by rw [← Nat.pow_add]; congr 1; omega
  have hlt : o < 2 ^ (n - j) := by rw [e] at h; exact Nat.lt_of_mul_lt_mul_left h
  refine ⟨by rw [e, Nat.mul_sub], ?_, hlt⟩
  have := pow_even (show 1 ≤ n - j by omega)
  omega
theorem turn_at (cs : List UInt8) : ∀ j o, o % 2 = 1 → 2 ^ j * o < 2 ^ cs.length → (∀ c ∈ cs, wdC c = true) → (turnsL cs)[2 ^ j * o - 1]? = some (turnV cs j o) := by
  induction cs using rev_ind with
  | h0 =>
    intro j o ho h
    have := Nat.mul_pos (two_pos j) (show 0 < o by omega)
    simp at h; omega
  | h1 l c ih =>
    intro j o ho h hw
    have ih := fun j o ho h => ih j o ho h (fun c hc => hw c (by simp [hc]))
    rw [List.length_append, List.length_singleton] at h
    have hlen := turnsL_len l
    have hpos := Nat.mul_pos (two_pos j) (show 0 < o by omega)
    have hsucc : 2 ^ (l.length + 1) = 2 * 2 ^ l.length := by rw [Nat.pow_succ]; omega
    have hj := exp_lt ho h
    rw [turnsL_snoc]
    rcases Nat.lt_trichotomy (2 ^ j * o) (2 ^ l.length) with hc | hc | hc
    · rw [List.append_assoc, List.getElem?_append_left (by omega), ih j o ho hc, turnV_ext (exp_lt ho hc)]
    · have hjl : j = l.length := by
        rcases Nat.lt_or_ge j l.length with hlt | hge
        · exfalso
          have e : 2 ^ l.length = 2 ^ j * 2 ^ (l.length - j) := by rw [← Nat.pow_add]; congr 1; omega
          rw [e] at hc
          have := Nat.eq_of_mul_eq_mul_left (two_pos j) hc
          have := pow_even (show 1 ≤ l.length - j by omega)
          omega
        · omega
      have ho1 : o = 1 := by
        rw [← hjl] at hc
        exact Nat.eq_of_mul_eq_mul_left (two_pos j) (by omega)
      subst ho1
      rw [List.append_assoc, List.getElem?_append_right (by omega), hc, show 2 ^ l.length - 1 - (turnsL l).length = 0 by omega]
      simp [turnV, hjl]
    · have hjl : j < l.length := by
        rcases Nat.lt_or_ge j l.length with hlt | hge
        · exact hlt
        · exfalso
          obtain rfl : j = l.length := by omega
          have : o < 2 := by
            rw [Nat.pow_succ] at h
            exact Nat.lt_of_mul_lt_mul_left h
          obtain rfl : o = 1 := by omega
          omega
      obtain ⟨e1, e2, e3⟩ := exp_left ho hj h
      have h4 := pow_dvd4 (show 2 ≤ l.length + 1 - j by omega)
      obtain ⟨q, hq⟩ := h4
      have hlo : 2 ^ j * (2 ^ (l.length + 1 - j) - o) < 2 ^ l.length := by rw [← e1]; omega
      have ihx := ih j _ e2 hlo
      rw [← e1] at ihx
      have hk : 2 ^ j * o - 1 - (turnsL l ++ [c]).length < (turnsL l).length := by
        rw [List.length_append, List.length_singleton]; omega
      rw [List.getElem?_append_right (by rw [List.length_append, List.length_singleton]; omega), backL_get _ _ hk]
      rw [List.length_append, List.length_singleton] at hk ⊢
      rw [show (turnsL l).length - 1 - (2 ^ j * o - 1 - ((turnsL l).length + 1)) = 2 ^ (l.length + 1) - 2 ^ j * o - 1 by omega, ihx, turnV_ext hjl]
      have hwj : wdC (l[j]?.getD 0) = true := by
        rw [List.getElem?_eq_getElem hjl]
        exact hw _ (by simp)
      rw [hq]
      rw [hq] at e3
      simp only [Option.map_some, Option.some.injEq, turnV]
      rcases (show o % 4 = 1 ∨ o % 4 = 3 by omega) with h1 | h1
      · have h5 : ¬ (4 * q - o) % 4 = 1 := by omega
        rw [if_pos h1, if_neg h5, oth_oth hwj]
      · have h5 : (4 * q - o) % 4 = 1 := by omega
        have h6 : ¬ o % 4 = 1 := by omega
        rw [if_neg h6, if_pos h5]
/-- the opposite end of a word of turns -/
theorem turn_opp {cs : List UInt8} {j o : Nat} (ho : o % 2 = 1) (h : 2 ^ j * o < 2 ^ cs.length) (hw : ∀ c ∈ cs, wdC c = true) (hm : 2 * (2 ^ j * o) ≠ 2 ^ cs.length) :
    ∃ o', 2 ^ cs.length - 2 ^ j * o = 2 ^ j * o' ∧ o' % 2 = 1 ∧ turnV cs j o' ≠ turnV cs j o := by
  have hj := exp_lt ho h
  obtain ⟨e1, e2, e3⟩ := exp_left ho hj h
  refine ⟨_, e1, e2, ?_⟩
  have h2 : 2 ≤ cs.length - j := by
    rcases Nat.lt_or_ge (cs.length - j) 2 with hlt | hge
    · exfalso
      have e : cs.length - j = 1 := by omega
      rw [e] at e3
      obtain rfl : o = 1 := by omega
      apply hm
      rw [show cs.length = j + 1 by omega, Nat.pow_succ]
      omega
    · exact hge
  obtain ⟨q, hq⟩ := pow_dvd4 h2
  have hwj : wdC (cs[j]?.getD 0) = true := by
    rw [List.getElem?_eq_getElem hj]
    exact hw _ (by simp)
  rw [hq] at e3 ⊢
  unfold turnV
  rcases (show o % 4 = 1 ∨ o % 4 = 3 by omega) with h1 | h1
  · have h5 : ¬ (4 * q - o) % 4 = 1 := by omega
    rw [if_pos h1, if_neg h5]; exact oth_ne hwj
  · have h5 : (4 * q - o) % 4 = 1 := by omega
    have h6 : ¬ o % 4 = 1 := by omega
    rw [if_neg h6, if_pos h5]; exact fun e => oth_ne hwj e.symm

/-! ### folded again -/
/-- the letters at the first powers of 2 -/
def powL (l : List UInt8) (k : Nat) : List UInt8 := (List.range k).map fun j => l[2 ^ j - 1]?.getD 0
theorem powL_succ (l : List UInt8) (k : Nat) : powL l (k + 1) = powL l k ++ [l[2 ^ k - 1]?.getD 0] := by simp [powL, List.range_succ]
theorem powL_len (l : List UInt8) (k : Nat) : (powL l k).length = k := by simp [powL]
theorem powL_turns {cs : List UInt8} (hw : ∀ c ∈ cs, wdC c = true) : powL (turnsL cs) cs.length = cs := by
  apply List.ext_getElem?
  intro j
  by_cases hj : j < cs.length
  · have h := turn_at cs j 1 rfl (by rw [Nat.mul_one]; exact (Nat.pow_lt_pow_iff_right (by omega)).2 hj) hw
    rw [Nat.mul_one] at h
    simp [powL, hj, h, turnV]
  · rw [List.getElem?_eq_none (by rw [powL_len]; omega), List.getElem?_eq_none (by omega)]
/-- the creases of a list, if it is a word of turns -/
def foldO (l : List UInt8) : Option (List UInt8) := if turnsL (powL l (Nat.log2 (l.length + 1))) = l then some (powL l (Nat.log2 (l.length + 1))) else none
theorem foldO_some {cs : List UInt8} (hw : ∀ c ∈ cs, wdC c = true) : foldO (turnsL cs) = some cs := by
  have e : Nat.log2 ((turnsL cs).length + 1) = cs.length := by rw [turnsL_len, Nat.log2_two_pow]
  unfold foldO
  rw [e, powL_turns hw, if_pos rfl]
theorem foldO_turns {l cs : List UInt8} (h : foldO l = some cs) : turnsL cs = l := by
  unfold foldO at h
  split at h
  · next e => rw [← Option.some.inj h]; exact e
  · cases h
theorem foldO_none {l : List UInt8} (hw : ∀ c ∈ l, wdC c = true) (h : ∀ cs : List UInt8, (∀ c ∈ cs, wdC c = true) → turnsL cs ≠ l) : foldO l = none := by
  unfold foldO
  split
  · next e =>
    exfalso
    refine h _ ?_ e
    intro c hc
    simp only [powL, List.mem_map, List.mem_range] at hc
    obtain ⟨j, hj, rfl⟩ := hc
    have hlt : 2 ^ j - 1 < l.length := by
      have h1 : 2 ^ (j + 1) ≤ l.length + 1 := (Nat.le_log2 (by omega)).1 hj
      rw [Nat.pow_succ] at h1
      have := two_pos j
      omega
    rw [List.getElem?_eq_getElem hlt]
    exact hw _ (by simp)
  · rfl
theorem take_snocL {w : List UInt8} {n : Nat} {c : UInt8} (h : w[n]? = some c) : w.take (n + 1) = w.take n ++ [c] := by
  rw [List.take_add_one, h]; rfl
/-- the halving goes on: what is a word of turns is turned back about its middle -/
theorem half_up {w : List UInt8} {n : Nat} {c : UInt8} (h1 : w.length = 2 * n + 1) (hc : w[n]? = some c) (h2 : w.drop (n + 1) = backL (w.take n)) {cs : List UInt8} (h : w.take n = turnsL cs) : w = turnsL (cs ++ [c]) := by
  rw [turnsL_snoc, ← h, ← h2, ← take_snocL hc, List.take_append_drop]
theorem half_down {w : List UInt8} {cs : List UInt8} (h : w = turnsL cs) (h0 : w ≠ []) : ∃ cs' c, cs = cs' ++ [c] ∧ w.length = 2 * (w.length / 2) + 1 ∧ w[w.length / 2]? = some c ∧ w.drop (w.length / 2 + 1) = backL (w.take (w.length / 2)) ∧ w.take (w.length / 2) = turnsL cs' := by
  induction cs using rev_ind with
  | h0 => exact absurd h h0
  | h1 l c _ =>
    refine ⟨l, c, rfl, ?_⟩
    rw [turnsL_snoc] at h
    have hl : w.length = 2 * (turnsL l).length + 1 := by rw [h]; simp [backL_len]; omega
    have hh : w.length / 2 = (turnsL l).length := by omega
    rw [hh]
    refine ⟨by omega, ?_, ?_, ?_⟩
    · rw [h]; simp
    · rw [h, List.append_assoc, List.take_left]
      rw [← List.append_assoc]
      exact List.drop_left' (by simp)
    · rw [h, List.append_assoc, List.take_left]

theorem turnsL_wd_of (o : List UInt8) : (∀ c ∈ turnsL o, wdC c = true) → ∀ c ∈ o, wdC c = true := by
  induction o using rev_ind with
  | h0 => intro _ c hc; simp at hc
  | h1 l a ih =>
    intro h c hc
    rw [turnsL_snoc] at h
    simp only [List.mem_append, List.mem_singleton] at hc
    rcases hc with hc | rfl
    · exact ih (fun d hd => h d (by simp [hd])) c hc
    · exact h c (by simp)
/-- what the halving keeps: the list is the word of turns of what is left and what has come -/
def Half (l t o : List UInt8) : Prop := (∀ cs, t = turnsL cs → l = turnsL (cs ++ o)) ∧ ∀ ds, l = turnsL ds → ∃ cs, ds = cs ++ o ∧ t = turnsL cs
theorem Half.start (l : List UInt8) : Half l l [] := ⟨fun cs h => by rw [List.append_nil]; exact h, fun ds h => ⟨ds, by simp, h⟩⟩
theorem Half.step {l t o : List UInt8} {n : Nat} {c : UInt8} (h : Half l t o) (h1 : t.length = 2 * n + 1) (hc : t[n]? = some c) (h2 : t.drop (n + 1) = backL (t.take n)) : Half l (t.take n) (c :: o) := by
  refine ⟨fun cs hcs => ?_, fun ds hds => ?_⟩
  · have := h.1 _ (half_up h1 hc h2 hcs)
    rw [this]; simp
  · obtain ⟨cs, e, ht⟩ := h.2 ds hds
    obtain ⟨cs', c', e1, e2, e3, e4, e5⟩ := half_down ht (by intro e; rw [e] at h1; simp at h1)
    have hn : t.length / 2 = n := by omega
    rw [hn] at e3 e5
    obtain rfl : c' = c := Option.some.inj (e3.symm.trans hc)
    exact ⟨cs', by rw [e, e1]; simp, e5⟩
theorem Half.bad {l t o : List UInt8} (h : Half l t o) (h0 : t ≠ []) (hb : t.length % 2 = 0 ∨ t.drop (t.length / 2 + 1) ≠ backL (t.take (t.length / 2))) (cs : List UInt8) : turnsL cs ≠ l := by
  intro e
  obtain ⟨cs', e1, ht⟩ := h.2 cs e.symm
  obtain ⟨_, _, _, e2, _, e4, _⟩ := half_down ht h0
  rcases hb with hb | hb
  · omega
  · exact hb e4
theorem Half.done {l o : List UInt8} (h : Half l [] o) : turnsL o = l := by
  have := h.1 [] rfl
  rw [this]; simp

/-! ### sums -/
def sgn (c : UInt8) : Int := if c = 108 then 1 else -1
def sumL (l : List UInt8) : Int := l.foldl (fun n c => n + sgn c) 0
theorem sumL_snoc (l : List UInt8) (c : UInt8) : sumL (l ++ [c]) = sumL l + sgn c := by simp [sumL]
theorem sumL_append (a b : List UInt8) : sumL (a ++ b) = sumL a + sumL b := by
  induction b using rev_ind with
  | h0 => simp [sumL]
  | h1 l c ih => rw [← List.append_assoc, sumL_snoc, sumL_snoc, ih]; omega
theorem sgn_oth {c : UInt8} (h : wdC c = true) : sgn (oth c) = - sgn c := by
  rcases wdC_or h with rfl | rfl <;> rfl
theorem sumL_back {l : List UInt8} (h : ∀ c ∈ l, wdC c = true) : sumL (backL l) = - sumL l := by
  induction l using rev_ind with
  | h0 => rfl
  | h1 l c ih =>
    rw [backL_snoc, show oth c :: backL l = [oth c] ++ backL l from rfl, sumL_append, sumL_snoc, ih (fun c hc => h c (by simp [hc])), show sumL [oth c] = sgn (oth c) by simp [sumL], sgn_oth (h c (by simp))]
    omega
theorem sgn_one (c : UInt8) : sgn c = 1 ∨ sgn c = -1 := by unfold sgn; split; exact Or.inl rfl; exact Or.inr rfl
theorem sumL_in (l : List UInt8) : -(l.length : Int) ≤ sumL l ∧ sumL l ≤ l.length ∧ (sumL l - l.length) % 2 = 0 := by
  induction l using rev_ind with
  | h0 => simp [sumL]
  | h1 l c ih =>
    rw [sumL_snoc, List.length_append, List.length_singleton]
    rcases sgn_one c with h | h <;> rw [h] <;> omega
theorem sumL_unfold {l : List UInt8} (h : ∀ c ∈ l, wdC c = true) (c : UInt8) : sumL (l ++ [c] ++ backL l) = sgn c := by
  rw [sumL_append, sumL_snoc, sumL_back h]; omega
theorem sumL_turns {l : List UInt8} (h : ∀ c ∈ l, wdC c = true) (c : UInt8) : sumL (turnsL (l ++ [c])) = sgn c := by
  rw [turnsL_snoc, sumL_unfold (turnsL_wd l h)]
end Go.Proofs.YtmdnfamjdogogaaGreatDoor

namespace Go.Proofs.YtmdnfamjdogogaaGreatDoor
set_option linter.unusedSimpArgs false
set_option linter.unusedVariables false
open Go.RowKit

/-- the first bytes are digits; so many are left -/
def VRel (s : ByteArray) (w : World) (m : Nat) (i : Value) (wr : World) : Prop := ∃ k : Nat, k + m = s.size ∧ i = .int .i64 k ∧ wr = w ∧ ∀ c ∈ (toL s).take k, bitC c = true
theorem VRel.step {s : ByteArray} {k : Nat} (hk : k < s.size) (h : ∀ c ∈ (toL s).take k, bitC c = true) (hc : s[k].toNat = 48 ∨ s[k].toNat = 49) : ∀ c ∈ (toL s).take (k + 1), bitC c = true := by
  rw [take_snocB s k hk]
  intro c hm
  rcases List.mem_append.1 hm with hm | hm
  · exact h c hm
  · rw [List.mem_singleton] at hm; rw [hm]; exact (bitC_iff _).2 hc
theorem lead_cases (s : ByteArray) (h1 : 1 ≤ s.size) : ((s.toList == [48]) = false ∧ s[0].toNat = 48) ∨ ((s.toList == [48]) = true ∧ s[0].toNat = 48) ∨ s[0].toNat ≠ 48 := by
  by_cases h : s[0].toNat = 48 <;> cases (s.toList == [48]) <;> simp [h]
/-- the same, with the iterator's block -/
def VRelR (s : ByteArray) (w : World) (m : Nat) (wr : World) : Prop := ∃ k : Nat, k + m = s.size ∧ wr = w.iter s k ∧ ∀ c ∈ (toL s).take k, bitC c = true
/-- a text has no other bytes than digits -/
def onlyB (s : ByteArray) : Bool := (toL s).all bitC
theorem onlyB_bad {s : ByteArray} (k : Nat) (hk : k < s.size) (h : ¬ (s[k].toNat = 48 ∨ s[k].toNat = 49)) : onlyB s = false := by
  rw [← Bool.not_eq_true]
  intro e
  exact h ((bitC_iff _).1 (List.all_eq_true.1 e _ (List.mem_of_getElem? (toL_get s k hk))))
theorem onlyB_good {s : ByteArray} (h : ∀ c ∈ toL s, bitC c = true) : onlyB s = true := List.all_eq_true.2 h
theorem onlyB_bits {s : ByteArray} (h : onlyB s = true) : ∀ c ∈ toL s, bitC c = true := List.all_eq_true.1 h
theorem vldB_only {s : ByteArray} (h0 : 1 ≤ s.size) (h1 : s.size ≤ 50) (h2 : (toL s == [48]) = true ∨ s[0].toNat ≠ 48) : vldB s = onlyB s := by
  cases h : onlyB s
  · rw [← Bool.not_eq_true]
    intro e
    rw [onlyB_good (vldB_bits e)] at h
    cases h
  · exact vldB_good h0 h1 h2 (onlyB_bits h)
theorem onlyB_XY (s : ByteArray) : onlyXY 48 49 s = onlyB s := by
  unfold onlyXY onlyB
  congr 1
  funext c
  rw [Bool.eq_iff_iff, isXY_iff, bitC_iff]
  omega
end Go.Proofs.YtmdnfamjdogogaaGreatDoor

namespace Go.Proofs.YtmdnfamjdogogaaGreatDoor
set_option linter.unusedSimpArgs false
set_option linter.unusedVariables false
open Go.RowKit

theorem alloc_size (w : World) (o : Obj) : (w.alloc o).heap.size = w.heap.size + 1 := by show (w.heap.push o).size = _; simp
theorem iterAt_cell (w : World) (k : Nat) (s : ByteArray) (pos : Nat) {b o : Nat} (h : b ≠ k) : (w.iterAt k s pos).cell? ⟨b, o, none⟩ = w.cell? ⟨b, o, none⟩ :=
  World.cell?_of_block (w := w) (a := ⟨b, o, none⟩) (Lib.iterAt_other w k b s pos h)
theorem iterAt_froz (w : World) (k : Nat) (s : ByteArray) (pos : Nat) {b o : Nat} (h : b ≠ k) : (w.iterAt k s pos).frozen? ⟨b, o, none⟩ = w.frozen? ⟨b, o, none⟩ :=
  World.frozen?_of_block (w := w) (a := ⟨b, o, none⟩) (Lib.iterAt_other w k b s pos h)
theorem iter_of_below {w w' : World} (h : Below w.heap.size w w') {k : Nat} {s : ByteArray} {pos : Nat} (hk : w.heap[k]? = some (.stringIter s pos)) : w'.heap[k]? = some (.stringIter s pos) :=
  (h.block k (Array.getElem?_eq_some_iff.1 hk).1).trans hk
theorem iter_set {w : World} {k : Nat} {s : ByteArray} {pos : Nat} (hk : w.heap[k]? = some (.stringIter s pos)) {a : Addr} (ha : k ≠ a.block) (v : Value) : (w.setCell a v).heap[k]? = some (.stringIter s pos) :=
  (Below.heap_setCell _ _ _ _ ha).trans hk
theorem iter_lt {w : World} {k : Nat} {s : ByteArray} {pos : Nat} (hk : w.heap[k]? = some (.stringIter s pos)) : k < w.heap.size := (Array.getElem?_eq_some_iff.1 hk).1
theorem iter_cell (w : World) (s : ByteArray) (pos : Nat) {b o : Nat} {v : Value} (h : w.cell? ⟨b, o, none⟩ = some v) : (w.iter s pos).cell? ⟨b, o, none⟩ = some v := keepcell (iter_below w s pos) h
theorem iter_froz (w : World) (s : ByteArray) (pos : Nat) {b o : Nat} (hb : b < w.heap.size) : (w.iter s pos).frozen? ⟨b, o, none⟩ = w.frozen? ⟨b, o, none⟩ := (iter_below w s pos).frozen (p := ⟨b, o, none⟩) hb
end Go.Proofs.YtmdnfamjdogogaaGreatDoor

namespace Go.Proofs.YtmdnfamjdogogaaGreatDoor
set_option linter.unusedSimpArgs false
set_option linter.unusedVariables false
open Go.RowKit

/-- a byte in a cell -/
def encB (c : UInt8) : Value := .int .u8 (c.toNat : Int)
theorem encB_one (l : List UInt8) : ∀ u ∈ l.map encB, u.oneCell' = true := by
  intro u hu; obtain ⟨c, _, rfl⟩ := List.mem_map.1 hu; rfl
theorem infoB : (Tryz.prog.info? 5).map (fun i => (i.zero, i.size, i.bytes)) = some (some (.int .u8 0), 1, 1) := by kernel_rfl

theorem cells1 (w : World) (u : Value) (t : TypeId) : ∀ (j : Nat) (u' : Value), [u][j]? = some u' → (w.alloc (.cells #[u] t)).cell? ((⟨w.heap.size, 0, none⟩ : Addr).add j) = some u' := by
  intro j u' hj
  match j, hj with
  | 0, hj => simp at hj; subst hj; simp [Addr.add]
theorem one1 (u : Value) (h : u.oneCell' = true) : ∀ u' ∈ [u], u'.oneCell' = true := by
  intro u' hu; simp at hu; subst hu; exact h
theorem ownsRow_low {w : World} {B B' e n sz : Nat} {v : Value} {xs : List Value} (hB : B' ≤ B) (h : w.ownsRow B e sz v n xs) : w.ownsRow B' e sz v n xs := by
  refine ⟨h.1, h.2.imp id ?_⟩
  rintro ⟨g, cap, cur, h1, h2, h3⟩
  exact ⟨g, cap, cur, h1, Nat.le_trans hB h2, h3⟩
theorem own_below {w w' : World} {B e n sz : Nat} {v : Value} {xs : List Value} (h : w.ownsRow B e sz v n xs) (hb : Below w.heap.size w w') : w'.ownsRow B e sz v n xs := by
  refine ⟨h.1, h.2.imp id ?_⟩
  rintro ⟨g, cap, cur, h1, h2, h3, h4⟩
  exact ⟨g, cap, cur, h1, h2, (hb.block g (Array.getElem?_eq_some_iff.1 h3).1).trans h3, h4⟩
theorem own_set {w : World} {B e n sz : Nat} {v : Value} {xs : List Value} (h : w.ownsRow B e sz v n xs) {a : Addr} (ha : a.block < B) (u : Value) : (w.setCell a u).ownsRow B e sz v n xs := by
  refine ⟨h.1, h.2.imp id ?_⟩
  rintro ⟨g, cap, cur, h1, h2, h3, h4⟩
  exact ⟨g, cap, cur, h1, h2, (Below.heap_setCell _ _ _ _ (by omega)).trans h3, h4⟩
theorem own_ne {w : World} {B e n sz : Nat} {v : Value} {xs : List Value} (h : w.ownsRow B e sz v n xs) {b : Nat} (hb : b < B) : some b ≠ v.ownBlock := by
  intro e1
  have := (h.lt b e1.symm).1
  omega
theorem own_iter {w : World} {B e n sz : Nat} {v : Value} {xs : List Value} (h : w.ownsRow B e sz v n xs) (s : ByteArray) (k : Nat) : (w.iter s k).ownsRow B e sz v n xs := own_below h (iter_below w s k)
theorem own_iterAt {w : World} {B e n sz g n' cap : Nat} {xs : List Value} (h : w.ownsRow B e sz (.slice (some ⟨g, 0, none⟩) n' cap) n xs) {k : Nat} (hk : g ≠ k) (s : ByteArray) (pos : Nat) : (w.iterAt k s pos).ownsRow B e sz (.slice (some ⟨g, 0, none⟩) n' cap) n xs := by
  refine ⟨h.1, h.2.imp id ?_⟩
  rintro ⟨g', cap', cur, h1, h2, h3, h4⟩
  simp only [Value.slice.injEq, Option.some.injEq, Addr.mk.injEq, and_true] at h1
  exact ⟨g', cap', cur, by simp [h1], h2, (Lib.iterAt_other w k g' s pos (by omega)).trans h3, h4⟩
theorem conv_nil (w : World) : (convert 22 9 (.slice none 0 0)).run Tryz.prog w = .ok (.string ⟨#[]⟩) w := by
  rw [run_convert_bytes_string w _ _ _ none 0 0 Tryz.underlying22 Tryz.underlying5 Tryz.underlying9]
  rfl
/-- a row of bytes as a text -/
theorem conv_row {w : World} {B n : Nat} {v : Value} {l : List UInt8} (h : w.ownsRow B 5 1 v n (l.map encB)) : (convert 22 9 v).run Tryz.prog w = .ok (.string (bs l)) w := by
  have hl := h.1
  rw [List.length_map, Nat.mul_one] at hl
  subst hl
  rcases h.2 with ⟨rfl, h0⟩ | ⟨g, cap, cur, rfl, hg, hgg, _⟩
  · obtain rfl : l = [] := List.eq_nil_of_length_eq_zero h0
    exact conv_nil w
  · exact run_convert_bytes_back (P := Tryz.prog) w 22 9 5 ⟨g, 0, none⟩ cap l Tryz.underlying22 Tryz.underlying5 Tryz.underlying9 (fun j hj => by
      have e := h.cellAt j (by omega)
      rw [show (⟨g, 0, none⟩ : Addr).add j = ⟨g, j, none⟩ by simp [Addr.add]; exact fun h => h.symm, e, List.getElem?_map, List.getElem?_eq_getElem hj]
      rfl)
end Go.Proofs.YtmdnfamjdogogaaGreatDoor

namespace Go.Proofs.YtmdnfamjdogogaaGreatDoor
set_option linter.unusedSimpArgs false
set_option linter.unusedVariables false
open Go.RowKit

theorem onlyW_XY (s : ByteArray) : onlyXY 108 114 s = onlyW s := by
  unfold onlyXY onlyW
  congr 1
  funext c
  rw [Bool.eq_iff_iff, isXY_iff, wdC_iff]
  omega
theorem letters_c (s : ByteArray) (w : World) : Calls Tryz.prog 94 #[.string s] w fun e w' => e = .returned (.bool (onlyW s)) ∧ Below w.heap.size w w' := by
  have H := Lib.hid (onlyW_XY s)
  go_enter Tryz.func94, Tryz.ntmps94
  go_wp2_with (go_at_call 109; refine (onlyOf_c 108 114 _ _ (by decide) (by decide)).mono ?_; rintro e w1 ⟨rfl, hb⟩; obtain ⟨hc, hf⟩ := bcell hb; have hz := bsize hb; have hs := hb.size; try simp at hs)
  go_ret
  exact ⟨by rw [← H.out]; rfl, by (first | ((repeat' with_reducible first | assumption | exact Below.refl _ _ | apply Blw.alloc | apply Blw.drew | apply Blw.drewN | (refine Blw.after ?_ (by assumption)) | (refine Blw.set ?_ (by first | (dsimp only; omega) | (simp; omega)) _)); done) | (repeat' (first | assumption | exact Below.refl _ _ | apply Blw.alloc | apply Blw.drew | apply Blw.drewN | (refine Blw.after ?_ (by assumption)) | (refine Blw.set ?_ (by first | (dsimp only; omega) | (simp; done) | (simp; omega)) _))))⟩
theorem isWord_c (s : ByteArray) (w : World) : Calls Tryz.prog 70 #[.string s] w fun e w' => e = .returned (.bool (wdB 1023 s)) ∧ Below w.heap.size w w' := by
  by_cases h : s.size ≤ 1023
  · have H := Lib.hid (wdB_of h)
    go_enter Tryz.func70, Tryz.ntmps70
    go_wp2_with (go_at_call 94; refine (letters_c _ _).mono ?_; rintro e w1 ⟨rfl, hb⟩; obtain ⟨hc, hf⟩ := bcell hb; have hz := bsize hb; have hs := hb.size; try simp at hs)
    go_ret
    exact ⟨by rw [H.out]; rfl, by (first | ((repeat' with_reducible first | assumption | exact Below.refl _ _ | apply Blw.alloc | apply Blw.drew | apply Blw.drewN | (refine Blw.after ?_ (by assumption)) | (refine Blw.set ?_ (by first | (dsimp only; omega) | (simp; omega)) _)); done) | (repeat' (first | assumption | exact Below.refl _ _ | apply Blw.alloc | apply Blw.drew | apply Blw.drewN | (refine Blw.after ?_ (by assumption)) | (refine Blw.set ?_ (by first | (dsimp only; omega) | (simp; done) | (simp; omega)) _))))⟩
  · have H := Lib.hid (wdB_long (n := 1023) (s := s) (by omega))
    go_enter Tryz.func70, Tryz.ntmps70
    go_wp2_with (go_at_call 94; refine (letters_c _ _).mono ?_; rintro e w1 ⟨rfl, hb⟩; obtain ⟨hc, hf⟩ := bcell hb; have hz := bsize hb; have hs := hb.size; try simp at hs)
    go_ret
    exact ⟨by rw [H.out]; rfl, by (first | ((repeat' with_reducible first | assumption | exact Below.refl _ _ | apply Blw.alloc | apply Blw.drew | apply Blw.drewN | (refine Blw.after ?_ (by assumption)) | (refine Blw.set ?_ (by first | (dsimp only; omega) | (simp; omega)) _)); done) | (repeat' (first | assumption | exact Below.refl _ _ | apply Blw.alloc | apply Blw.drew | apply Blw.drewN | (refine Blw.after ?_ (by assumption)) | (refine Blw.set ?_ (by first | (dsimp only; omega) | (simp; done) | (simp; omega)) _))))⟩
theorem areCreases_c (s : ByteArray) (w : World) : Calls Tryz.prog 67 #[.string s] w fun e w' => e = .returned (.bool (wdB 10 s)) ∧ Below w.heap.size w w' := by
  by_cases h : s.size ≤ 10
  · have H := Lib.hid (wdB_of h)
    go_enter Tryz.func67, Tryz.ntmps67
    go_wp2_with (go_at_call 94; refine (letters_c _ _).mono ?_; rintro e w1 ⟨rfl, hb⟩; obtain ⟨hc, hf⟩ := bcell hb; have hz := bsize hb; have hs := hb.size; try simp at hs)
    go_ret
    exact ⟨by rw [H.out]; rfl, by (first | ((repeat' with_reducible first | assumption | exact Below.refl _ _ | apply Blw.alloc | apply Blw.drew | apply Blw.drewN | (refine Blw.after ?_ (by assumption)) | (refine Blw.set ?_ (by first | (dsimp only; omega) | (simp; omega)) _)); done) | (repeat' (first | assumption | exact Below.refl _ _ | apply Blw.alloc | apply Blw.drew | apply Blw.drewN | (refine Blw.after ?_ (by assumption)) | (refine Blw.set ?_ (by first | (dsimp only; omega) | (simp; done) | (simp; omega)) _))))⟩
  · have H := Lib.hid (wdB_long (n := 10) (s := s) (by omega))
    go_enter Tryz.func67, Tryz.ntmps67
    go_wp2_with (go_at_call 94; refine (letters_c _ _).mono ?_; rintro e w1 ⟨rfl, hb⟩; obtain ⟨hc, hf⟩ := bcell hb; have hz := bsize hb; have hs := hb.size; try simp at hs)
    go_ret
    exact ⟨by rw [H.out]; rfl, by (first | ((repeat' with_reducible first | assumption | exact Below.refl _ _ | apply Blw.alloc | apply Blw.drew | apply Blw.drewN | (refine Blw.after ?_ (by assumption)) | (refine Blw.set ?_ (by first | (dsimp only; omega) | (simp; omega)) _)); done) | (repeat' (first | assumption | exact Below.refl _ _ | apply Blw.alloc | apply Blw.drew | apply Blw.drewN | (refine Blw.after ?_ (by assumption)) | (refine Blw.set ?_ (by first | (dsimp only; omega) | (simp; done) | (simp; omega)) _))))⟩

def WdRel (s : ByteArray) (w : World) (m : Nat) (i : Value) (wr : World) : Prop := ∃ k : Nat, k + m = s.size ∧ i = .int .i64 k ∧ wr = w ∧ ∀ c ∈ (toL s).take k, wdC c = true
theorem WdRel.step {s : ByteArray} {k : Nat} (hk : k < s.size) (h : ∀ c ∈ (toL s).take k, wdC c = true) (hc : s[k].toNat = 108 ∨ s[k].toNat = 114) : ∀ c ∈ (toL s).take (k + 1), wdC c = true := by
  rw [take_snocB s k hk]
  intro c hm
  rcases List.mem_append.1 hm with hm | hm
  · exact h c hm
  · rw [List.mem_singleton] at hm; rw [hm]; exact (wdC_iff _).2 hc
set_option maxHeartbeats 1000000 in
theorem l4Word_c (s : ByteArray) (n : Nat) (w : World) (hn : n ≤ 100000) : Calls Tryz.prog 36 #[.string s, .int .i64 n] w fun e w' => e = .returned (.bool (wdB n s)) ∧ w = w' := by
  by_cases h : n < s.size
  · have H := Lib.hid (wdB_long h)
    go_enter Tryz.func36, Tryz.ntmps36
    go_wp2
    go_ret
    exact ⟨by rw [H.out]; rfl, rfl⟩
  · have HG := Lib.hid (show onlyW s = wdB n s from (wdB_of (by omega)).symm)
    go_enter Tryz.func36, Tryz.ntmps36
    go_wp2
    go_loopg [5] s.size (fun m i wr => WdRel s w m i wr)
    case atStart => exact ⟨0, by omega, rfl, rfl, by simp⟩
    case round =>
      obtain ⟨k, hk, rfl, rfl, hb⟩ := hrel
      have HB := Lib.hid hb
      clear hb
      by_cases hlt : k < s.size
      · by_cases e8 : s[k].toNat = 108
        · have HS := Lib.hid (WdRel.step hlt HB.out (Or.inl e8))
          have a1 : ((s[k].toNat : Int) != 108) = false := by simp [e8]
          clear e8
          go_wp2
          go_roundg (gk - 1)
          case measure => omega
          case rel => exact ⟨k + 1, by omega, by go_num, rfl, HS.out⟩
        · by_cases e9 : s[k].toNat = 114
          · have HS := Lib.hid (WdRel.step hlt HB.out (Or.inr e9))
            have a1 : ((s[k].toNat : Int) != 108) = true := by simp [e9]
            have a2 : ((s[k].toNat : Int) != 114) = false := by simp [e9]
            clear e8 e9
            go_wp2
            go_roundg (gk - 1)
            case measure => omega
            case rel => exact ⟨k + 1, by omega, by go_num, rfl, HS.out⟩
          · have H := Lib.hid (HG.out.symm.trans (onlyW_bad k hlt (by omega)))
            have a1 : ((s[k].toNat : Int) != 108) = true := by simp; omega
            have a2 : ((s[k].toNat : Int) != 114) = true := by simp; omega
            clear e8 e9
            go_wp2
            go_ret
            exact ⟨by rw [H.out]; rfl, rfl⟩
      · have H := Lib.hid (HG.out.symm.trans (onlyW_good (by rw [← take_allB s k (by omega)]; exact HB.out)))
        go_wp2
        go_ret
        exact ⟨by rw [H.out]; rfl, rfl⟩

/-! ### letters -/
theorem oth_108 : oth 108 = 114 := rfl
theorem oth_else {c : UInt8} (h : c.toNat ≠ 108) : oth c = 108 := by
  unfold oth; rw [if_neg (fun e => h (by rw [e]; rfl))]
theorem other_c (c : UInt8) (w : World) : Calls Tryz.prog 110 #[.int .u8 (c.toNat : Int)] w fun e w' => e = .returned (.int .u8 ((oth c).toNat : Int)) ∧ w = w' := by
  by_cases h : c.toNat = 108
  · obtain rfl : c = 108 := UInt8.toNat_inj.1 (by rw [h]; rfl)
    go_enter Tryz.func110, Tryz.ntmps110
    go_wp2
    go_ret
    exact ⟨rfl, rfl⟩
  · have H := Lib.hid (oth_else h)
    have a1 : ((c.toNat : Int) == 108) = false := by simp; omega
    clear h
    go_enter Tryz.func110, Tryz.ntmps110
    go_wp2
    go_ret
    exact ⟨by rw [H.out]; rfl, rfl⟩
theorem sOther_c (t : ByteArray) (c : UInt8) (w : World) (ht : toL t = [c]) : Calls Tryz.prog 101 #[.string t] w fun e w' => e = .returned (.string (bs [oth c])) ∧ w = w' := by
  by_cases h : c.toNat = 108
  · obtain rfl : c = 108 := UInt8.toNat_inj.1 (by rw [h]; rfl)
    have a1 : (t.toList == [108]) = true := by rw [toList_toL, ht]; rfl
    clear ht h
    go_enter Tryz.func101, Tryz.ntmps101
    go_wp2
    go_ret
    exact ⟨rfl, rfl⟩
  · have H := Lib.hid (oth_else h)
    have a1 : (t.toList == [108]) = false := by
      rw [toList_toL, ht]; simp; intro e; apply h; rw [e]; rfl
    clear ht h
    go_enter Tryz.func101, Tryz.ntmps101
    go_wp2
    go_ret
    exact ⟨by rw [H.out]; rfl, rfl⟩
theorem toL_extract (s : ByteArray) (i j : Nat) : toL (s.extract i j) = ((toL s).take j).drop i := by
  rw [← bs_toL s]
  generalize toL s = l
  show toL ((ByteArray.mk l.toArray).extract i j) = _
  rw [ByteArray.extract_mk]
  simp [toL, bs, List.drop_take]
theorem extract_one (s : ByteArray) (k : Nat) (h : k < s.size) : toL (s.extract k (k + 1)) = [s[k]] := by
  rw [toL_extract, take_snocB s k h, List.drop_append_of_le_length (by rw [List.length_take, toL_len]; omega), List.drop_of_length_le (by rw [List.length_take]; omega)]
  rfl

/-! ### turned back -/
theorem backL_at (s : ByteArray) (k : Nat) (h : k < s.size) : (backL (toL s))[k]? = some (oth (s[s.size - 1 - k])) := by
  rw [backL_get _ _ (by rw [toL_len]; exact h), toL_len, toL_get s (s.size - 1 - k) (by omega)]; rfl
theorem backL_take {s : ByteArray} {k : Nat} (h : k < s.size) : (backL (toL s)).take (k + 1) = (backL (toL s)).take k ++ [oth (s[s.size - 1 - k])] := by
  rw [List.take_add_one, backL_at s k h]; rfl
def SBkRel (s : ByteArray) (w : World) (m : Nat) (v i : Value) (wr : World) : Prop :=
  ∃ k : Nat, k + m = s.size ∧ i = .int .i64 ((m : Int) - 1) ∧ wr.ownsRow w.heap.size 5 1 v k (((backL (toL s)).take k).map encB) ∧ Below w.heap.size w wr
set_option maxRecDepth 100000 in
set_option maxHeartbeats 4000000 in
theorem sBack_c (s : ByteArray) (w : World) (hs : s.size ≤ 1000000) : Calls Tryz.prog 79 #[.string s] w fun e w' => e = .returned (.string (bs (backL (toL s)))) ∧ Below w.heap.size w w' := by
  obtain ⟨i0, hi, hz0, hz1, hz2⟩ := info_parts infoB
  go_enter Tryz.func79, Tryz.ntmps79
  go_wp2_with fail
  have S0 := Lib.hid (show SBkRel s w s.size (.slice (some ⟨w.heap.size, 0, none⟩) 0 0) (.int .i64 ((s.size : Int) - 1)) (w.alloc (.cells #[] 5)) from
    ⟨0, by omega, rfl, by
      have h := World.ownsRow_lit (base := w.heap.size) (e := 5) (size := 1) w #[] 0 (Nat.le_refl _) (by unfold maxLen; omega) rfl
      exact h, by (first | ((repeat' with_reducible first | assumption | exact Below.refl _ _ | apply Blw.alloc | apply Blw.drew | apply Blw.drewN | (refine Blw.after ?_ (by assumption)) | (refine Blw.set ?_ (by first | (dsimp only; omega) | (simp; omega)) _)); done) | (repeat' (first | assumption | exact Below.refl _ _ | apply Blw.alloc | apply Blw.drew | apply Blw.drewN | (refine Blw.after ?_ (by assumption)) | (refine Blw.set ?_ (by first | (dsimp only; omega) | (simp; done) | (simp; omega)) _))))⟩)
  go_loopg [3, 4] s.size (fun m v i wr => SBkRel s w m v i wr)
  case atStart => exact S0.out
  case round =>
    clear S0
    obtain ⟨k, hk, rfl, hown, hB⟩ := hrel
    have HO := Lib.hid hown
    clear hown
    by_cases h0 : gk = 0
    · subst h0
      have HS := Lib.hid (show (backL (toL s)).take k = backL (toL s) from List.take_of_length_le (by rw [backL_len, toL_len]; omega))
      have hcv := conv_row HO.out
      rw [HS.out] at hcv
      go_wp2_with fail
      go_ret
      exact ⟨rfl, hB⟩
    · obtain ⟨m, rfl⟩ : ∃ m, gk = m + 1 := ⟨gk - 1, by omega⟩
      have e1 : ((m + 1 : Nat) : Int) - 1 = (m : Int) := by omega
      rw [e1]
      have hm : m < s.size := by omega
      have HE := Lib.hid (extract_one s m hm)
      have HT := Lib.hid (show (backL (toL s)).take (k + 1) = (backL (toL s)).take k ++ [oth s[m]] by
        have h := backL_take (s := s) (k := k) (by omega)
        rw [h]
        congr 3
        have : s.size - 1 - k = m := by omega
        simp [this])
      have hsz : (bs [oth s[m]]).size = 1 := rfl
      clear e1 h0
      go_wp2_with (first | (go_at_call 101; refine (sOther_c _ _ _ HE.out).mono ?_; rintro e w1 ⟨rfl, rfl⟩) | (at_builtin; refine wpList_append_own _ rfl _ _ 22 rfl w.heap.size 5 i0 (.int .u8 0) 1 1 Tryz.underlying22 hi hz0 hz1 hz2 rfl (by decide) _ _ _ rfl (HO.out.alloc _) ⟨wr.heap.size, 0, none⟩ 1 1 [encB (oth s[m])] rfl rfl (cells1 _ _ _) (one1 _ rfl) (by unfold maxLen; omega) (by omega) (by have := hB.size; simp; omega) ?_))
      intro v' W1 hown' hgrow _
      have hB1 : Below w.heap.size w W1 := Below.grown (by (first | ((repeat' with_reducible first | assumption | exact Below.refl _ _ | apply Blw.alloc | apply Blw.drew | apply Blw.drewN | (refine Blw.after ?_ (by assumption)) | (refine Blw.set ?_ (by first | (dsimp only; omega) | (simp; omega)) _)); done) | (repeat' (first | assumption | exact Below.refl _ _ | apply Blw.alloc | apply Blw.drew | apply Blw.drewN | (refine Blw.after ?_ (by assumption)) | (refine Blw.set ?_ (by first | (dsimp only; omega) | (simp; done) | (simp; omega)) _))))) hgrow (by have := hB.size; simp; omega) (fun k hk => (HO.out.lt k hk).1)
      have HO1 := Lib.hid hown'
      clear hgrow hown' HO
      go_wp2_with fail
      go_roundg m
      case measure => omega
      case rel => exact ⟨k + 1, by omega, by go_num, by rw [HT.out, List.map_append, List.map_take]; exact HO1.out, hB1⟩

/-- what stands of a word turned back when so many letters have been read -/
def bkL (s : ByteArray) (k : Nat) : List UInt8 := List.replicate (s.size - k) 0 ++ backL ((toL s).take k)
theorem bkL_zero (s : ByteArray) : bkL s 0 = List.replicate s.size 0 := by simp [bkL, backL]
theorem bkL_all (s : ByteArray) : bkL s s.size = backL (toL s) := by
  unfold bkL; rw [take_allB s s.size (Nat.le_refl _)]; simp
theorem bkL_step {s : ByteArray} {k : Nat} (h : k < s.size) : (bkL s k).set (s.size - 1 - k) (oth s[k]) = bkL s (k + 1) := by
  unfold bkL
  rw [take_snocB s k h, backL_snoc]
  obtain ⟨m, hm⟩ : ∃ m, s.size - k = m + 1 := ⟨s.size - k - 1, by omega⟩
  rw [hm, show s.size - 1 - k = m by omega, show s.size - (k + 1) = m by omega, List.replicate_succ', List.append_assoc, List.set_append_right _ _ (by simp)]
  simp
def IBkRel (s : ByteArray) (w : World) (ib : Nat) (m : Nat) (wr : World) : Prop :=
  ∃ k : Nat, k + m = s.size ∧ wr.heap[ib]? = some (.stringIter s k) ∧ wr.ownsRow w.heap.size 5 1 (.slice (some ⟨w.heap.size, 0, none⟩) s.size s.size) s.size ((bkL s k).map encB) ∧ Below w.heap.size w wr
end Go.Proofs.YtmdnfamjdogogaaGreatDoor

namespace Go.Proofs.YtmdnfamjdogogaaGreatDoor
set_option linter.unusedSimpArgs false
set_option linter.unusedVariables false
open Go.ChangeShapes Go.WideShapes Go.ChangeAt Go.RowKit Go.Joins

/-- the table's place for so many noughts -/
def tzC : Nat → Nat
  | 0 => 0
  | 1 => 1
  | 2 => 3
  | 3 => 7
  | 4 => 15
  | 5 => 31
  | 6 => 63
  | 7 => 62
  | 8 => 61
  | 9 => 59
  | _ => 0
/-- ten cells of the library's table -/
def Tz (w : World) : Prop := ∀ k, k < 10 → w.cell? ⟨8, tzC k, none⟩ = some (.int .u8 (k : Nat))
theorem Tz.pos {w : World} (h : Tz w) : 8 < w.heap.size := World.block_lt_of_cell? w _ (h 0 (by decide))
theorem Tz.keep {w w' : World} (h : Tz w) {B : Nat} (hB : 8 < B) (hb : Below B w w') : Tz w' := fun k hk => (hb.cell (p := ⟨8, tzC k, none⟩) hB).trans (h k hk)
theorem d64At : Tryz.prog.globalNamed "math/bits.deBruijn64tab" = some 8 := by kernel_rfl
theorem d64Type : (Tryz.prog.globals[8]?).map (·.type) = some 148 := by kernel_rfl
theorem cellsU8 : Tryz.prog.cellsOf 5 = 1 := by kernel_rfl
theorem lt10 {k : Nat} (h : k < 10) : k = 0 ∨ k = 1 ∨ k = 2 ∨ k = 3 ∨ k = 4 ∨ k = 5 ∨ k = 6 ∨ k = 7 ∨ k = 8 ∨ k = 9 := by omega
set_option maxRecDepth 10000 in
theorem tz_second {W : World} {x : String × DataW Unit} {r : List (String × DataW Unit)} (h : laidMetH Tryz.prog (x :: ("math/bits.deBruijn64tab", Rows.laid_math_bits_deBruijn64tab) :: r) W) (hp : ∀ W, laidMetH Tryz.prog (x :: ("math/bits.deBruijn64tab", Rows.laid_math_bits_deBruijn64tab) :: r) W = laidMet Tryz.prog (x :: ("math/bits.deBruijn64tab", Rows.laid_math_bits_deBruijn64tab) :: r) W) : Tz W := by
  rw [hp] at h
  have h2 := h.tail
  obtain ⟨ps, ⟨g, t, cs, fuel, p, q, hg, ht, hv, hd, _, _⟩, _, _⟩ := h2
  obtain rfl := Option.some.inj (d64At.symm.trans hg)
  obtain rfl := Option.some.inj (d64Type.symm.trans ht)
  have hds : ∃ ds, (Rows.laid_math_bits_deBruijn64tab : DataW Unit) = .agg ds ∧ ∀ k, k < 10 → tzC k < 64 ∧ ds[tzC k]? = some (.lit (.int .u8 (k : Nat))) := ⟨_, rfl, fun k hk => by
    rcases lt10 hk with rfl | rfl | rfl | rfl | rfl | rfl | rfl | rfl | rfl | rfl <;> exact ⟨by decide, by kernel_rfl⟩⟩
  obtain ⟨ds, e, e1⟩ := hds
  rw [e] at hd
  intro k hk
  obtain ⟨k1, k2⟩ := e1 k hk
  obtain ⟨m, q, h1⟩ := rd_array Tryz.underlying148 hd (i := tzC k) k1 k2
  rw [cellsU8] at h1
  have a := rd_int Tryz.underlying5 h1
  have a1 : cs.toList[tzC k]? = some (.int .u8 (k : Nat)) := by
    have e : ((cs.toList.drop (tzC k * 1)).take 1)[0]? = some (.int .u8 (k : Nat)) := by rw [a]; rfl
    rw [List.getElem?_take, if_pos (by omega), List.getElem?_drop] at e
    simpa using e
  rw [World.var?_cell d64At hv (tzC k)]; simpa using a1

def tzChk (j k : Nat) : Bool := let n := 2 ^ j * (2 * k + 1); n ≥ 1024 || Nat.land n (18446744073709551616 - n) * 285870213051353865 % 18446744073709551616 / 288230376151711744 == tzC j
theorem tz_all : ((List.range 10).all fun j => (List.range 512).all fun k => tzChk j k) = true := by decide +kernel
theorem tz_key (j o : Nat) (hj : j < 10) (ho : o % 2 = 1) (h : 2 ^ j * o < 1024) :
    IntKind.u64.wrap (bits BinOp.and IntKind.u64 ((2 ^ j * o : Nat) : Int) (IntKind.u64.wrap (-((2 ^ j * o : Nat) : Int))) * 285870213051353865) / 288230376151711744 = ((tzC j : Nat) : Int) := by
  have hpos : 0 < 2 ^ j * o := Nat.mul_pos (two_pos j) (by omega)
  have hk : o / 2 < 512 := by have := Nat.le_mul_of_pos_left o (two_pos j); omega
  have h1 := List.all_eq_true.1 (List.all_eq_true.1 tz_all j (List.mem_range.2 hj)) (o / 2) (List.mem_range.2 hk)
  unfold tzChk at h1
  rw [show 2 * (o / 2) + 1 = o by omega] at h1
  generalize hN : 2 ^ j * o = N at *
  have h2 : Nat.land N (18446744073709551616 - N) * 285870213051353865 % 18446744073709551616 / 288230376151711744 = tzC j := by
    simp only [Bool.or_eq_true, decide_eq_true_eq, beq_iff_eq] at h1
    rcases h1 with h1 | h1
    · omega
    · exact h1
  have hw : IntKind.u64.wrap (-(N : Int)) = ((18446744073709551616 - N : Nat) : Int) := by rw [IntKind.wrap_u64]; omega
  rw [hw, u64_and_nat N (18446744073709551616 - N) (by omega) (by omega), IntKind.wrap_u64, ← h2]
  show (((N &&& (18446744073709551616 - N) : Nat) : Int) * 285870213051353865) % 18446744073709551616 / 288230376151711744 = (((N &&& (18446744073709551616 - N)) * 285870213051353865 % 18446744073709551616 / 288230376151711744 : Nat) : Int)
  generalize (N &&& (18446744073709551616 - N)) = M
  omega
set_option maxHeartbeats 1000000 in
theorem tz64_c (n j o : Nat) (w : World) (h : Tz w) (hn : n = 2 ^ j * o) (ho : o % 2 = 1) (hlt : n < 1024) : Calls Tryz.prog 113 #[.int .u64 n] w fun e w' => e = .returned (.int .i64 (j : Nat)) ∧ w = w' := by
  have hpos : 0 < n := by rw [hn]; exact Nat.mul_pos (two_pos j) (by omega)
  have hj : j < 10 := exp_lt ho (by rw [← hn]; exact hlt)
  have h1 := tz_key j o hj ho (by omega)
  rw [← hn] at h1
  have hc := h j hj
  have hC : tzC j < 64 := by rcases lt10 hj with rfl | rfl | rfl | rfl | rfl | rfl | rfl | rfl | rfl | rfl <;> decide
  clear h hn ho
  generalize tzC j = C at *
  go_enter Tryz.func113, Tryz.ntmps113
  go_wp2_with (simp only [h1])
  go_ret
  exact ⟨rfl, rfl⟩
theorem tz_c (n j o : Nat) (w : World) (h : Tz w) (hn : n = 2 ^ j * o) (ho : o % 2 = 1) (hlt : n < 1024) : Calls Tryz.prog 106 #[.int .u64 n] w fun e w' => e = .returned (.int .i64 (j : Nat)) ∧ w = w' := by
  have H := Lib.hid (tz64_c n j o w h hn ho hlt)
  clear h hn ho
  go_enter Tryz.func106, Tryz.ntmps106
  go_wp2_with (go_at_call 113; refine H.out.mono ?_; rintro e w' ⟨rfl, rfl⟩)
  go_ret
  exact ⟨rfl, rfl⟩

/-- the letter at an index of the word of turns -/
theorem pow_shr (n j o : Nat) (hn : n = 2 ^ j * o) : n / 2 ^ j = o := by
  rw [hn, Nat.mul_div_cancel_left _ (two_pos j)]
set_option maxHeartbeats 1000000 in
theorem turnOf_c (cs : ByteArray) (n j o : Nat) (w : World) (h : Tz w) (hn : n = 2 ^ j * o) (ho : o % 2 = 1) (hlt : n < 2 ^ cs.size) (hc : cs.size ≤ 10) : Calls Tryz.prog 96 #[.string cs, .int .i64 n] w fun e w' => e = .returned (.int .u8 ((turnV (toL cs) j o).toNat : Int)) ∧ w = w' := by
  have hj : j < cs.size := exp_lt ho (by rw [← hn]; exact hlt)
  have hn2 : n < 1024 := Nat.lt_of_lt_of_le hlt (Nat.pow_le_pow_right (by omega) hc : 2 ^ cs.size ≤ 2 ^ 10)
  have H := Lib.hid (tz_c n j o w h hn ho hn2)
  have hsh := pow_shr n j o hn
  have hg : (toL cs)[j]?.getD 0 = cs[j] := by rw [toL_get cs j hj]; rfl
  have ho2 : o < 1024 := by have := Nat.le_mul_of_pos_left o (two_pos j); omega
  have e1 : ((n : Int) / (2 : Int) ^ j) = (o : Int) := by rw [← hsh]; push_cast; rfl
  have e2 : ((o : Int).tmod 4) = ((o % 4 : Nat) : Int) := by rw [Int.tmod_eq_emod_of_nonneg (by omega)]; omega
  rcases (show o % 4 = 1 ∨ o % 4 = 3 by omega) with h4 | h4
  · have HT := Lib.hid (show turnV (toL cs) j o = cs[j] by unfold turnV; rw [if_pos h4, hg])
    rw [h4] at e2
    clear h hn ho hsh hg h4
    go_enter Tryz.func96, Tryz.ntmps96
    go_wp2_with (first | (go_at_call 106; refine H.out.mono ?_; rintro e w' ⟨rfl, rfl⟩))
    go_ret
    exact ⟨by rw [HT.out]; rfl, rfl⟩
  · have HT := Lib.hid (show turnV (toL cs) j o = oth cs[j] by unfold turnV; rw [if_neg (by omega), hg])
    rw [h4] at e2
    clear h hn ho hsh hg h4
    go_enter Tryz.func96, Tryz.ntmps96
    go_wp2_with (first | (go_at_call 106; refine H.out.mono ?_; rintro e w' ⟨rfl, rfl⟩) | (go_at_call 110; refine (other_c cs[j] _).mono ?_; rintro e w1 ⟨rfl, rfl⟩))
    go_ret
    exact ⟨by rw [HT.out]; rfl, rfl⟩
end Go.Proofs.YtmdnfamjdogogaaGreatDoor

namespace Go.Proofs.YtmdnfamjdogogaaGreatDoor
set_option linter.unusedSimpArgs false
set_option linter.unusedVariables false
open Ieee
/-- n over 2 to the power of p, rounded to the nearest, between two the even one -/
def rnd (n p : Nat) : Nat := n / 2 ^ p + (decide (2 ^ p < 2 * (n % 2 ^ p)) || (2 ^ p == 2 * (n % 2 ^ p) && n / 2 ^ p % 2 == 1)).toNat
theorem cut_rnd (s : Bool) (n p : Nat) : Toward.even.cut s n p = rnd n p := by
  unfold Toward.cut rnd
  simp only [Nat.one_shiftLeft]
  rcases Nat.le_total p (n.log2 + 2) with h | h
  · rw [Nat.min_eq_left h]
  · rw [Nat.min_eq_right h]
    have h1 : n < 2 ^ (n.log2 + 1) := Nat.lt_log2_self
    have h2 : 2 ^ (n.log2 + 2) = 2 * 2 ^ (n.log2 + 1) := by rw [Nat.pow_succ]; omega
    have h3 : 2 ^ (n.log2 + 2) ≤ 2 ^ p := Nat.pow_le_pow_right (by omega) h
    rw [Nat.div_eq_of_lt (by omega), Nat.mod_eq_of_lt (by omega), Nat.div_eq_of_lt (a := n) (b := 2 ^ p) (by omega), Nat.mod_eq_of_lt (a := n) (b := 2 ^ p) (by omega)]
    have e1 : decide (2 ^ (n.log2 + 2) < 2 * n) = false := by simp; omega
    have e2 : decide (2 ^ p < 2 * n) = false := by simp; omega
    simp [e1, e2]
theorem rnd_none (n : Nat) : rnd n 0 = n := by
  simp [rnd, Nat.mod_one]
theorem rnd_scale (n p t : Nat) : rnd (n * 2 ^ t) (p + t) = rnd n p := by
  unfold rnd
  have hp := Nat.two_pow_pos t
  rw [Nat.pow_add, Nat.mul_div_mul_right _ _ hp, Nat.mul_mod_mul_right]
  generalize n % 2 ^ p = r
  generalize 2 ^ p = g
  have e : 2 * (r * 2 ^ t) = (2 * r) * 2 ^ t := by rw [Nat.mul_assoc]
  have e1 : decide (g * 2 ^ t < 2 * (r * 2 ^ t)) = decide (g < 2 * r) := by
    rw [e]; exact decide_eq_decide.2 (Nat.mul_lt_mul_right hp)
  have e2 : (g * 2 ^ t == 2 * (r * 2 ^ t)) = (g == 2 * r) := by
    rw [e]
    rw [Bool.eq_iff_iff]
    simp only [beq_iff_eq]
    exact ⟨fun h => Nat.eq_of_mul_eq_mul_right hp h, fun h => by rw [h]⟩
  rw [e1, e2]
theorem rnd_exact (k p : Nat) : rnd (k * 2 ^ p) p = k := by
  have := rnd_scale k 0 p
  rw [Nat.zero_add, rnd_none] at this
  exact this
theorem rnd_le {n p M : Nat} (h : n ≤ M * 2 ^ p) : rnd n p ≤ M := by
  have hp := Nat.two_pow_pos p
  have h1 : n / 2 ^ p ≤ M := Nat.div_le_of_le_mul (by rw [Nat.mul_comm]; exact h)
  unfold rnd
  rcases Nat.lt_or_eq_of_le h1 with h2 | h2
  · have := Bool.toNat_le (decide (2 ^ p < 2 * (n % 2 ^ p)) || (2 ^ p == 2 * (n % 2 ^ p) && n / 2 ^ p % 2 == 1))
    omega
  · have h3 := Nat.div_add_mod n (2 ^ p)
    rw [h2, Nat.mul_comm] at h3
    have h4 : n % 2 ^ p = 0 := by omega
    rw [h4, h2]
    have e : (2 ^ p == 2 * 0) = false := by simp
    simp [e]
theorem rnd_ge {n p M : Nat} (h : M * 2 ^ p ≤ n) : M ≤ rnd n p := by
  have h1 : M ≤ n / 2 ^ p := (Nat.le_div_iff_mul_le (Nat.two_pow_pos p)).2 h
  unfold rnd
  omega
theorem log2_scale {n : Nat} (h : n ≠ 0) (t : Nat) : (n * 2 ^ t).log2 = n.log2 + t := by
  rw [Nat.log2_eq_iff (Nat.mul_ne_zero h (Nat.ne_of_gt (Nat.two_pow_pos t)))]
  refine ⟨?_, ?_⟩
  · rw [Nat.pow_add]; exact Nat.mul_le_mul_right _ (Nat.log2_self_le h)
  · rw [show n.log2 + t + 1 = (n.log2 + 1) + t by omega, Nat.pow_add]
    exact (Nat.mul_lt_mul_right (Nat.two_pow_pos t)).2 Nat.lt_log2_self
theorem nearest_zero (f : Format) (s : Bool) (p : Int) : f.nearest s 0 p = f.word s 0 := by simp [Format.nearest]
theorem nearest_shift (f : Format) (s : Bool) (m t : Nat) (p : Int) : f.nearest s (m * 2 ^ t) (p - t) = f.nearest s m p := by
  rcases Nat.eq_zero_or_pos m with rfl | hm
  · rw [Nat.zero_mul, nearest_zero, nearest_zero]
  have hm0 : m ≠ 0 := by omega
  have hmt : m * 2 ^ t ≠ 0 := Nat.mul_ne_zero hm0 (Nat.ne_of_gt (Nat.two_pow_pos t))
  unfold Format.nearest
  rw [if_neg hm0, if_neg hmt]
  simp only [log2_scale hm0, cut_rnd, Nat.shiftLeft_eq]
  have e : max (p - (t : Int) + ((m.log2 + t : Nat) : Int) - (f.fractionBits : Int)) f.leastPlace = max (p + (m.log2 : Int) - (f.fractionBits : Int)) f.leastPlace := by omega
  rw [e]
  generalize max (p + (m.log2 : Int) - (f.fractionBits : Int)) f.leastPlace = last
  have k : rnd (m * 2 ^ t * 2 ^ (p - (t : Int) - last).toNat) (last - (p - (t : Int))).toNat = rnd (m * 2 ^ (p - last).toNat) (last - p).toNat := by
    by_cases c1 : last ≤ p - t
    · rw [show (last - (p - (t : Int))).toNat = 0 by omega, show (last - p).toNat = 0 by omega, rnd_none, rnd_none, Nat.mul_assoc, ← Nat.pow_add, show t + (p - (t : Int) - last).toNat = (p - last).toNat by omega]
    · by_cases c2 : last ≤ p
      · rw [show (p - (t : Int) - last).toNat = 0 by omega, show (last - p).toNat = 0 by omega, rnd_none, Nat.pow_zero, Nat.mul_one]
        have e3 : t = (p - last).toNat + (last - (p - (t : Int))).toNat := by omega
        generalize (last - (p - (t : Int))).toNat = a at e3
        rw [e3, Nat.pow_add, ← Nat.mul_assoc, rnd_exact]
      · rw [show (p - (t : Int) - last).toNat = 0 by omega, show (p - last).toNat = 0 by omega, Nat.pow_zero, Nat.mul_one, Nat.mul_one, show (last - (p - (t : Int))).toNat = (last - p).toNat + t by omega, rnd_scale]
  rw [k]
/-- the number of units that a number of 2 to the power of -u units is rounded to -/
def dropU (f : Format) (u V : Nat) : Nat := max (V.log2 - f.fractionBits) u
def rndU (f : Format) (u V : Nat) : Nat := rnd V (dropU f u V) * 2 ^ (dropU f u V - u)
theorem nearest_eq (f : Format) (s : Bool) {V : Nat} (hV : V ≠ 0) (u : Nat) {p : Int} (hp : p + u = f.leastPlace) :
    f.nearest s V p = f.word s (min ((dropU f u V - u) * f.binade + rnd V (dropU f u V)) f.infRung) := by
  unfold Format.nearest dropU
  rw [if_neg hV]
  have e : max (p + (V.log2 : Int) - (f.fractionBits : Int)) f.leastPlace = p + ((max (V.log2 - f.fractionBits) u : Nat) : Int) := by omega
  simp only [e, cut_rnd, Nat.shiftLeft_eq]
  generalize max (V.log2 - f.fractionBits) u = d
  rw [show (p - (p + (d : Int))).toNat = 0 by omega, show (p + (d : Int) - p).toNat = d by omega, show (p + (d : Int) - f.leastPlace).toNat = d - u by omega, Nat.pow_zero, Nat.mul_one]
theorem infRung_le (f : Format) : f.infRung ≤ f.signWeight := Nat.le_of_lt (Format.infRung_lt f)
theorem read_word (f : Format) (s : Bool) {r : Nat} (h : r < f.infRung) :
    f.read (f.word s r) = if r < f.binade then .number s r f.leastPlace else .number s (f.binade + r % f.binade) (f.leastPlace + (r / f.binade - 1 : Nat)) := by
  have hw := infRung_le f
  have hpos : 0 < f.signWeight := by omega
  have e1 : (f.word s r / f.signWeight % 2 == 1) = s := by
    cases s
    · show (r / f.signWeight % 2 == 1) = false
      rw [Nat.div_eq_of_lt (by omega)]; rfl
    · show ((f.signWeight + r) / f.signWeight % 2 == 1) = true
      rw [Nat.add_div_left _ hpos, Nat.div_eq_of_lt (by omega)]; rfl
  have e2 : f.word s r % f.signWeight = r := by
    cases s
    · show r % f.signWeight = r
      exact Nat.mod_eq_of_lt (by omega)
    · show (f.signWeight + r) % f.signWeight = r
      rw [Nat.add_mod_left]; exact Nat.mod_eq_of_lt (by omega)
  unfold Format.read
  simp only [e1, e2, if_pos h]
/-- a word that stands for V units, of a sign -/
def Fl (f : Format) (x : Nat) (s : Bool) (V : Nat) : Prop := ∃ m k : Nat, f.read x = .number s m (f.leastPlace + (k : Int)) ∧ m * 2 ^ k = V ∧ m < 2 ^ (f.fractionBits + 1)
theorem binade_pos (f : Format) : 0 < f.binade := Nat.two_pow_pos _
theorem fl_word (f : Format) (s : Bool) {e k : Nat} (hk : k ≤ 2 * f.binade) (he : e = 0 ∨ f.binade ≤ k) (hr : e + 2 < 2 ^ f.exponentBits - 1) :
    e * f.binade + k < f.infRung ∧ Fl f (f.word s (e * f.binade + k)) s (k * 2 ^ e) := by
  have hb := binade_pos f
  have h2 : 2 ^ (f.fractionBits + 1) = 2 * f.binade := by rw [Nat.pow_succ, Nat.mul_comm]; rfl
  have hi : e * f.binade + k < f.infRung := by
    have h1 : (e + 2) * f.binade < f.infRung := (Nat.mul_lt_mul_right hb).2 hr
    rw [Nat.add_mul] at h1
    omega
  refine ⟨hi, ?_⟩
  unfold Fl
  rw [read_word f s hi, h2]
  generalize f.binade = B at *
  by_cases c : e * B + k < B
  · have e0 : e = 0 := by
      rcases he with h | h
      · exact h
      · have := Nat.zero_le (e * B); omega
    subst e0
    rw [if_pos c]
    exact ⟨0 * B + k, 0, by simp, by simp, by omega⟩
  · rw [if_neg c]
    by_cases c2 : k = 2 * B
    · subst c2
      have q : (e * B + 2 * B) / B = e + 2 := by rw [← Nat.add_mul]; exact Nat.mul_div_cancel _ hb
      have q2 : (e * B + 2 * B) % B = 0 := by rw [← Nat.add_mul]; exact Nat.mul_mod_left _ _
      refine ⟨B, e + 1, ?_, ?_, by omega⟩
      · rw [q, q2]; congr 1
      · rw [Nat.pow_succ]; ac_rfl
    · have kB : B ≤ k := by
        rcases he with h | h
        · subst h; omega
        · exact h
      obtain ⟨j, rfl⟩ : ∃ j, k = B + j := ⟨k - B, by omega⟩
      have e3 : e * B + (B + j) = j + B * (e + 1) := by rw [Nat.mul_add, Nat.mul_comm e B]; omega
      have q : (e * B + (B + j)) / B = e + 1 := by rw [e3, Nat.add_mul_div_left _ _ hb, Nat.div_eq_of_lt (by omega)]; omega
      have q2 : (e * B + (B + j)) % B = j := by rw [e3, Nat.add_mul_mod_self_left, Nat.mod_eq_of_lt (by omega)]
      refine ⟨B + j, e, ?_, rfl, by omega⟩
      rw [q, q2]; congr 1
theorem fl_zero (f : Format) (s : Bool) (hb : f.binade ≤ f.infRung) : Fl f (f.word s 0) s 0 := by
  have := binade_pos f
  refine ⟨0, 0, ?_, by simp, Nat.two_pow_pos _⟩
  rw [read_word f s (by omega), if_pos (by omega)]
  simp
theorem rnd_top (f : Format) (u V : Nat) : rnd V (dropU f u V) ≤ 2 * f.binade := by
  apply rnd_le
  have h1 : V < 2 ^ (V.log2 + 1) := Nat.lt_log2_self
  have h2 : 2 ^ (V.log2 + 1) ≤ 2 ^ (f.fractionBits + 1 + dropU f u V) := Nat.pow_le_pow_right (by omega) (by unfold dropU; omega)
  have h3 : 2 ^ (f.fractionBits + 1 + dropU f u V) = 2 * f.binade * 2 ^ dropU f u V := by
    rw [Nat.pow_add, Nat.pow_succ, Nat.mul_comm (2 ^ f.fractionBits) 2]; rfl
  omega
theorem rnd_bottom (f : Format) {u V : Nat} (hV : V ≠ 0) (h : u < dropU f u V) : f.binade ≤ rnd V (dropU f u V) := by
  apply rnd_ge
  have h1 : 2 ^ V.log2 ≤ V := Nat.log2_self_le hV
  have h2 : 2 ^ (f.fractionBits + dropU f u V) ≤ 2 ^ V.log2 := Nat.pow_le_pow_right (by omega) (by unfold dropU at *; omega)
  rw [Nat.pow_add] at h2
  exact Nat.le_trans h2 h1
theorem fl_nearest (f : Format) (s : Bool) (V u : Nat) {p : Int} (hp : p + u = f.leastPlace) (hl : dropU f u V - u + 2 < 2 ^ f.exponentBits - 1) :
    Fl f (f.nearest s V p) s (rndU f u V) := by
  by_cases hV : V = 0
  · subst hV
    rw [nearest_zero]
    have e : rndU f u 0 = 0 := by
      unfold rndU
      have : rnd 0 (dropU f u 0) ≤ 0 := rnd_le (by omega)
      rw [Nat.le_zero.1 this, Nat.zero_mul]
    rw [e]
    refine fl_zero f s ?_
    show f.binade ≤ (2 ^ f.exponentBits - 1) * f.binade
    exact Nat.le_mul_of_pos_left _ (by omega)
  · rw [nearest_eq f s hV u hp]
    have h := fl_word f s (e := dropU f u V - u) (rnd_top f u V) (by
      by_cases c : u < dropU f u V
      · exact .inr (rnd_bottom f hV c)
      · exact .inl (by omega)) hl
    rw [Nat.min_eq_left (Nat.le_of_lt h.1)]
    exact h.2
/-- representable -/
def Rep (f : Format) (c : Nat) : Prop := ∃ d, 2 ^ d ∣ c ∧ c < 2 ^ (f.fractionBits + 1 + d)
theorem rep_small {f : Format} {c : Nat} (h : c < 2 ^ (f.fractionBits + 1)) : Rep f c := ⟨0, by simp, by simpa using h⟩
theorem rep_scale {f : Format} {c : Nat} (h : Rep f c) (t : Nat) : Rep f (c * 2 ^ t) := by
  obtain ⟨d, h1, h2⟩ := h
  refine ⟨d + t, ?_, ?_⟩
  · rw [Nat.pow_add]; exact Nat.mul_dvd_mul_right h1 _
  · rw [← Nat.add_assoc, Nat.pow_add]; exact (Nat.mul_lt_mul_right (Nat.two_pow_pos t)).2 h2
theorem fl_rep {f : Format} {x : Nat} {s : Bool} {V : Nat} (h : Fl f x s V) : Rep f V := by
  obtain ⟨m, k, _, rfl, h⟩ := h
  exact rep_scale (rep_small h) k
theorem drop_le {f : Format} {u V d : Nat} (hV : V ≠ 0) (hu : u ≤ d) (h : V < 2 ^ (f.fractionBits + 1 + d)) : dropU f u V ≤ d := by
  have := (Nat.log2_lt hV).2 h
  unfold dropU
  omega
theorem rndU_exact {f : Format} {u c : Nat} (h : Rep f c) : rndU f u (c * 2 ^ u) = c := by
  by_cases hc : c = 0
  · subst hc
    rw [Nat.zero_mul]
    unfold rndU
    have : rnd 0 (dropU f u 0) ≤ 0 := rnd_le (by omega)
    rw [Nat.le_zero.1 this, Nat.zero_mul]
  obtain ⟨d, ⟨b, rfl⟩, h2⟩ := h
  have hn : 2 ^ d * b * 2 ^ u ≠ 0 := Nat.mul_ne_zero hc (Nat.ne_of_gt (Nat.two_pow_pos u))
  have hd : dropU f u (2 ^ d * b * 2 ^ u) ≤ d + u := drop_le hn (by omega) (by
    rw [← Nat.add_assoc, Nat.pow_add]; exact (Nat.mul_lt_mul_right (Nat.two_pow_pos u)).2 h2)
  have hd2 : u ≤ dropU f u (2 ^ d * b * 2 ^ u) := by unfold dropU; omega
  unfold rndU
  generalize dropU f u (2 ^ d * b * 2 ^ u) = D at hd hd2
  obtain ⟨a, rfl⟩ : ∃ a, D = u + a := ⟨D - u, by omega⟩
  obtain ⟨c, rfl⟩ : ∃ c, d = a + c := ⟨d - a, by omega⟩
  have e : 2 ^ (a + c) * b * 2 ^ u = 2 ^ c * b * 2 ^ (u + a) := by
    rw [Nat.pow_add, Nat.pow_add]; ac_rfl
  rw [e, rnd_exact, show u + a - u = a by omega, Nat.pow_add]
  ac_rfl
theorem rndU_zero (f : Format) (u : Nat) : rndU f u 0 = 0 := by
  have := rndU_exact (f := f) (u := u) (c := 0) ⟨0, by simp, Nat.two_pow_pos _⟩
  rwa [Nat.zero_mul] at this
theorem rndU_le {f : Format} {u V M : Nat} (hM : Rep f M) (h : V ≤ M * 2 ^ u) : rndU f u V ≤ M := by
  by_cases hV : V = 0
  · subst hV
    rw [rndU_zero]; omega
  obtain ⟨d, ⟨b, rfl⟩, h2⟩ := hM
  have hd : dropU f u V ≤ d + u := drop_le hV (by omega) (by
    rw [← Nat.add_assoc, Nat.pow_add]
    exact Nat.lt_of_le_of_lt h ((Nat.mul_lt_mul_right (Nat.two_pow_pos u)).2 h2))
  have hd2 : u ≤ dropU f u V := by unfold dropU; omega
  unfold rndU
  generalize dropU f u V = D at hd hd2
  obtain ⟨a, rfl⟩ : ∃ a, D = u + a := ⟨D - u, by omega⟩
  obtain ⟨c, rfl⟩ : ∃ c, d = a + c := ⟨d - a, by omega⟩
  have e : 2 ^ (a + c) * b * 2 ^ u = 2 ^ c * b * 2 ^ (u + a) := by
    rw [Nat.pow_add, Nat.pow_add]; ac_rfl
  rw [e] at h
  have := rnd_le h
  rw [show u + a - u = a by omega, Nat.pow_add]
  calc rnd V (u + a) * 2 ^ a ≤ 2 ^ c * b * 2 ^ a := Nat.mul_le_mul_right _ this
    _ = 2 ^ a * 2 ^ c * b := by ac_rfl
theorem drop_lim {f : Format} {u V M : Nat} (h : V < 2 ^ (f.fractionBits + 1 + u + M)) : dropU f u V - u ≤ M := by
  by_cases hV : V = 0
  · subst hV
    unfold dropU
    rw [Nat.log2_zero]
    omega
  · have := drop_le (f := f) (u := u) (V := V) (d := u + M) hV (by omega) (by rwa [← Nat.add_assoc])
    omega
/-- the whole number that a sign and a size stand for -/
def sg (s : Bool) (V : Nat) : Int := if s then -(V : Int) else V
theorem sg_abs (s : Bool) (V : Nat) : (sg s V).natAbs = V := by cases s <;> simp [sg]
theorem signed_sg (s : Bool) (m k : Nat) : signed s m k = sg s (m * 2 ^ k) := by
  unfold signed sg; rw [Nat.shiftLeft_eq]
theorem sg_scale (s : Bool) (m k : Nat) : sg s (m * 2 ^ k) = sg s m * 2 ^ k := by
  cases s <;> simp [sg, Int.neg_mul]
/-- the word of a sum -/
def sumW (f : Format) (s : Bool) (V : Nat) (t : Bool) (W : Nat) : Nat :=
  f.nearest (if sg s V + sg t W = 0 then s && t else decide (sg s V + sg t W < 0)) (sg s V + sg t W).natAbs f.leastPlace
theorem sum_write {f : Format} {s t : Bool} {m n i j : Nat} :
    ((Datum.number s m (f.leastPlace + (i : Int))).sum (.number t n (f.leastPlace + (j : Int)))).map f.write = some (sumW f s (m * 2 ^ i) t (n * 2 ^ j)) := by
  unfold Datum.sum
  have hb : min (f.leastPlace + (i : Int)) (f.leastPlace + (j : Int)) = f.leastPlace + ((min i j : Nat) : Int) := by omega
  simp only [hb, Option.map_some, Format.write, signed_sg]
  rw [show (f.leastPlace + (i : Int) - (f.leastPlace + ((min i j : Nat) : Int))).toNat = i - min i j by omega, show (f.leastPlace + (j : Int) - (f.leastPlace + ((min i j : Nat) : Int))).toNat = j - min i j by omega]
  have e1 : sg s (m * 2 ^ i) = sg s (m * 2 ^ (i - min i j)) * 2 ^ min i j := by
    rw [← sg_scale, Nat.mul_assoc, ← Nat.pow_add, show i - min i j + min i j = i by omega]
  have e2 : sg t (n * 2 ^ j) = sg t (n * 2 ^ (j - min i j)) * 2 ^ min i j := by
    rw [← sg_scale, Nat.mul_assoc, ← Nat.pow_add, show j - min i j + min i j = j by omega]
  unfold sumW
  rw [e1, e2, ← Int.add_mul]
  generalize sg s (m * 2 ^ (i - min i j)) + sg t (n * 2 ^ (j - min i j)) = T
  generalize min i j = b
  have hp : (0 : Int) < 2 ^ b := by exact_mod_cast Nat.two_pow_pos b
  have c1 : (T * 2 ^ b = 0) = (T = 0) := by
    apply propext
    refine ⟨fun h => ?_, fun h => by rw [h, Int.zero_mul]⟩
    rcases Int.mul_eq_zero.1 h with h | h
    · exact h
    · omega
  have c2 : (T * 2 ^ b < 0) = (T < 0) := by
    apply propext
    refine ⟨fun h => ?_, fun h => Int.mul_neg_of_neg_of_pos h hp⟩
    rcases Int.lt_or_le T 0 with h2 | h2
    · exact h2
    · have := Int.mul_nonneg h2 (Int.le_of_lt hp); omega
  have c3 : (T * 2 ^ b).natAbs = T.natAbs * 2 ^ b := by rw [Int.natAbs_mul, Int.natAbs_pow]; rfl
  have c4 : f.leastPlace = (f.leastPlace + (b : Int)) - (b : Int) := by omega
  simp only [c1, c2, c3]
  conv => rhs; rw [c4]
  rw [nearest_shift]
theorem fl_add {f : Format} {x y : Nat} {s t : Bool} {V W : Nat} (hx : Fl f x s V) (hy : Fl f y t W) : f.add x y = some (sumW f s V t W) := by
  obtain ⟨m, i, h1, rfl, _⟩ := hx
  obtain ⟨n, j, h2, rfl, _⟩ := hy
  unfold Format.add
  rw [h1, h2, sum_write]
theorem fl_sub {f : Format} {x y : Nat} {s t : Bool} {V W : Nat} (hx : Fl f x s V) (hy : Fl f y t W) : f.sub x y = some (sumW f s V (!t) W) := by
  obtain ⟨m, i, h1, rfl, _⟩ := hx
  obtain ⟨n, j, h2, rfl, _⟩ := hy
  unfold Format.sub
  rw [h1, h2]
  exact sum_write
end Go.Proofs.YtmdnfamjdogogaaGreatDoor

namespace Go.Proofs.YtmdnfamjdogogaaGreatDoor
set_option linter.unusedSimpArgs false
set_option linter.unusedVariables false
open Ieee
/-- the sign and the size of a sum -/
def sumS (s : Bool) (V : Nat) (t : Bool) (W : Nat) : Bool := if sg s V + sg t W = 0 then s && t else decide (sg s V + sg t W < 0)
def sumA (s : Bool) (V : Nat) (t : Bool) (W : Nat) : Nat := (sg s V + sg t W).natAbs
theorem sumA_le (s : Bool) (V : Nat) (t : Bool) (W : Nat) : sumA s V t W ≤ V + W := by
  unfold sumA
  have := Int.natAbs_add_le (sg s V) (sg t W)
  rw [sg_abs, sg_abs] at this
  exact this
theorem fl_sum {f : Format} (s : Bool) (V : Nat) (t : Bool) (W : Nat) (hl : dropU f 0 (sumA s V t W) - 0 + 2 < 2 ^ f.exponentBits - 1) :
    Fl f (sumW f s V t W) (sumS s V t W) (rndU f 0 (sumA s V t W)) := fl_nearest f _ _ 0 (by omega) hl
/-- the half -/
theorem quot_two {f : Format} {s : Bool} {m i : Nat} (hm : m < 2 ^ (f.fractionBits + 1)) :
    ((Datum.number s m (f.leastPlace + (i : Int))).quotient (f.fractionBits + 2) (.number false (2 ^ f.fractionBits) (1 - (f.fractionBits : Int)))).map f.write = some (f.nearest s (m * 2 ^ i) (f.leastPlace - 1)) := by
  have hp := Nat.two_pow_pos f.fractionBits
  have hne : 2 ^ f.fractionBits ≠ 0 := by omega
  unfold Datum.quotient
  simp only [if_neg hne, Option.map_some, Nat.log2_two_pow, Nat.shiftLeft_eq, Bool.xor_false, Format.write]
  have hlog : m.log2 ≤ f.fractionBits := by
    rcases Nat.eq_zero_or_pos m with rfl | h
    · rw [Nat.log2_zero]; omega
    · have := (Nat.log2_lt (by omega)).2 hm; omega
  obtain ⟨a, ha⟩ : ∃ a, f.fractionBits + 2 + f.fractionBits - m.log2 = f.fractionBits + a := ⟨f.fractionBits + 2 - m.log2, by omega⟩
  rw [ha]
  have e1 : m * 2 ^ (f.fractionBits + a) = m * 2 ^ a * 2 ^ f.fractionBits := by rw [Nat.add_comm, Nat.pow_add, Nat.mul_assoc]
  rw [e1, Nat.mul_div_cancel _ hp, Nat.mul_mod_left]
  have e2 : 2 * (m * 2 ^ a) + (0 != 0).toNat = m * 2 ^ (a + 1) := by
    rw [show (0 != 0) = false by rfl, Nat.pow_succ]
    simp only [Bool.toNat_false, Nat.add_zero, Nat.mul_comm, Nat.mul_left_comm]
  rw [e2]
  have e3 : f.leastPlace + (i : Int) - (1 - (f.fractionBits : Int)) - ((f.fractionBits + a : Nat) : Int) - 1 = (f.leastPlace + (i : Int) - 1) - ((a + 1 : Nat) : Int) - 0 := by omega
  rw [e3, Int.sub_zero, nearest_shift]
  have e4 : f.leastPlace - 1 = (f.leastPlace + (i : Int) - 1) - (i : Int) := by omega
  rw [e4, nearest_shift]
theorem fl_div2 {f : Format} {x two : Nat} {s : Bool} {V : Nat} (hx : Fl f x s V) (h2 : f.read two = .number false (2 ^ f.fractionBits) (1 - (f.fractionBits : Int))) :
    f.div x two = some (f.nearest s V (f.leastPlace - 1)) := by
  obtain ⟨m, i, h1, rfl, h3⟩ := hx
  unfold Format.div
  rw [h1, h2]
  exact quot_two h3
theorem fl_half {f : Format} (s : Bool) (V : Nat) (hl : dropU f 1 V - 1 + 2 < 2 ^ f.exponentBits - 1) : Fl f (f.nearest s V (f.leastPlace - 1)) s (rndU f 1 V) :=
  fl_nearest f s V 1 (by omega) hl
/-- both widths -/
theorem least_s : single.leastPlace = -149 := by decide
theorem least_d : double.leastPlace = -1074 := by decide
/-- the unit of a width, as an exponent -/
def un : FloatKind → Nat
  | .f32 => 149
  | .f64 => 1074
theorem lim_gen {f : Format} {U u V M : Nat} (hM : 21 + U ≤ f.fractionBits + 1 + M) (hE : M + 2 < 2 ^ f.exponentBits - 1) (h : V ≤ 2000000 * 2 ^ U * 2 ^ u) : dropU f u V - u + 2 < 2 ^ f.exponentBits - 1 := by
  have : dropU f u V - u ≤ M := drop_lim (by
    have h1 : 2000000 * 2 ^ U * 2 ^ u < 2 ^ 21 * 2 ^ U * 2 ^ u := (Nat.mul_lt_mul_right (Nat.two_pow_pos u)).2 ((Nat.mul_lt_mul_right (Nat.two_pow_pos U)).2 (by decide))
    rw [← Nat.pow_add, ← Nat.pow_add] at h1
    have h2 : 2 ^ (21 + U + u) ≤ 2 ^ (f.fractionBits + 1 + u + M) := Nat.pow_le_pow_right (by omega) (by omega)
    omega)
  omega
theorem lim_s {u V : Nat} (h : V ≤ 2000000 * 2 ^ un .f32 * 2 ^ u) : dropU single u V - u + 2 < 2 ^ single.exponentBits - 1 :=
  lim_gen (f := single) (U := un .f32) (M := 147) (by decide) (by decide) h
theorem lim_d {u V : Nat} (h : V ≤ 2000000 * 2 ^ un .f64 * 2 ^ u) : dropU double u V - u + 2 < 2 ^ double.exponentBits - 1 :=
  lim_gen (f := double) (U := un .f64) (M := 1043) (by decide) (by decide) h
theorem lim_d2 {u V : Nat} (h : V ≤ 2000000 * 2 ^ (un .f32 + 925) * 2 ^ u) : dropU double u V - u + 2 < 2 ^ double.exponentBits - 1 :=
  lim_gen (f := double) (U := un .f32 + 925) (M := 1043) (by decide) (by decide) h
/-- how both widths' units lie -/
structure Wd (US T : Nat) : Prop where
  place : single.leastPlace = double.leastPlace + (T : Int)
  one : 1 ≤ T
  limS : ∀ {u V : Nat}, V ≤ 2000000 * 2 ^ US * 2 ^ u → dropU single u V - u + 2 < 2 ^ single.exponentBits - 1
  limD : ∀ {u V : Nat}, V ≤ 2000000 * 2 ^ (US + T) * 2 ^ u → dropU double u V - u + 2 < 2 ^ double.exponentBits - 1
theorem wd : Wd (un .f32) 925 := ⟨by decide, by omega, lim_s, lim_d2⟩
theorem fl_place {f : Format} {x : Nat} {s : Bool} {V : Nat} (h : Fl f x s V) : ∃ m k : Nat, f.read x = .number s m (f.leastPlace + (k : Int)) ∧ m * 2 ^ k = V := by
  obtain ⟨m, k, h1, h2, _⟩ := h; exact ⟨m, k, h1, h2⟩
theorem notInf {f : Format} {x : Nat} {s : Bool} {V : Nat} (h : Fl f x s V) : (f.read x).isInfinity = false := by
  obtain ⟨m, k, h1, _⟩ := h
  rw [h1]; rfl
theorem rep_wide {V : Nat} (h : Rep single V) : Rep double V := by
  obtain ⟨d, h1, h2⟩ := h
  exact ⟨d, h1, Nat.lt_of_lt_of_le h2 (Nat.pow_le_pow_right (by omega) (by show 23 + 1 + d ≤ 52 + 1 + d; omega))⟩
theorem up_mul {V US T : Nat} (h : V ≤ 2000000 * 2 ^ US) : V * 2 ^ T ≤ 2000000 * 2 ^ (US + T) := by
  have := Nat.mul_le_mul_right (2 ^ T) h
  rw [Nat.mul_assoc, ← Nat.pow_add] at this
  exact this
theorem conv_up {US T x : Nat} (hw : Wd US T) {s : Bool} {V : Nat} (hx : Fl single x s V) (hV : V ≤ 2000000 * 2 ^ US) :
    floatToFloatBits .f32 x .f64 = some (double.nearest s (V * 2 ^ T) double.leastPlace) ∧ Fl double (double.nearest s (V * 2 ^ T) double.leastPlace) s (V * 2 ^ T) := by
  have hl : V * 2 ^ T ≤ 2000000 * 2 ^ (US + T) * 2 ^ 0 := by simpa using up_mul (T := T) hV
  have hF := fl_nearest double s (V * 2 ^ T) 0 (p := double.leastPlace) (by omega) (hw.limD hl)
  have he : rndU double 0 (V * 2 ^ T) = V * 2 ^ T := by
    have := rndU_exact (f := double) (u := 0) (rep_scale (rep_wide (fl_rep hx)) T)
    rw [Nat.pow_zero, Nat.mul_one] at this
    exact this
  rw [he] at hF
  refine ⟨?_, hF⟩
  obtain ⟨m, k, h1, rfl⟩ := fl_place hx
  have ew : double.nearest s m (single.leastPlace + (k : Int)) = double.nearest s (m * 2 ^ k * 2 ^ T) double.leastPlace := by
    have h := nearest_shift double s m (k + T) (single.leastPlace + (k : Int))
    have e : single.leastPlace + (k : Int) - ((k + T : Nat) : Int) = double.leastPlace := by rw [hw.place]; omega
    rw [e, Nat.pow_add, ← Nat.mul_assoc] at h
    exact h.symm
  unfold floatToFloatBits
  rw [if_neg (by decide)]
  have hd : FloatKind.f32.decode x = .number s m (single.leastPlace + (k : Int)) := h1
  rw [hd]
  show (if (double.read (double.nearest s m (single.leastPlace + (k : Int)))).isInfinity = true then none else some (double.nearest s m (single.leastPlace + (k : Int)))) = _
  rw [ew, notInf hF, if_neg (by decide)]
theorem conv_down {US T x : Nat} (hw : Wd US T) {s : Bool} {V : Nat} (hx : Fl double x s V) (hV : V ≤ 2000000 * 2 ^ (US + T)) :
    floatToFloatBits .f64 x .f32 = some (single.nearest s V (single.leastPlace - (T : Int))) ∧ Fl single (single.nearest s V (single.leastPlace - (T : Int))) s (rndU single T V) := by
  have hl : V ≤ 2000000 * 2 ^ US * 2 ^ T := by rw [Nat.mul_assoc, ← Nat.pow_add]; exact hV
  have hF := fl_nearest single s V T (p := single.leastPlace - (T : Int)) (by omega) (hw.limS hl)
  refine ⟨?_, hF⟩
  obtain ⟨m, k, h1, rfl⟩ := fl_place hx
  have ew : single.nearest s m (double.leastPlace + (k : Int)) = single.nearest s (m * 2 ^ k) (single.leastPlace - (T : Int)) := by
    have h := nearest_shift single s m k (double.leastPlace + (k : Int))
    have e : double.leastPlace + (k : Int) - ((k : Nat) : Int) = single.leastPlace - (T : Int) := by rw [hw.place]; omega
    rw [e] at h
    exact h.symm
  unfold floatToFloatBits
  rw [if_neg (by decide)]
  have hd : FloatKind.f64.decode x = .number s m (double.leastPlace + (k : Int)) := h1
  rw [hd]
  show (if (single.read (single.nearest s m (double.leastPlace + (k : Int)))).isInfinity = true then none else some (single.nearest s m (double.leastPlace + (k : Int)))) = _
  rw [ew, notInf hF, if_neg (by decide)]
theorem sg_neg (s : Bool) (V : Nat) : sg (!s) V = -sg s V := by cases s <;> simp [sg]
theorem sg0 (s : Bool) : sg s 0 = 0 := by cases s <;> rfl
theorem sumA_neg0 (s : Bool) (V : Nat) : sumA false 0 (!s) V = V := by
  unfold sumA; cases s <;> simp [sg]
theorem sumS_neg0 (s : Bool) (V t : Nat) : sumS false 0 (!s) (V * 2 ^ t) = sumS false 0 (!s) V := by
  have hp : (0 : Int) < 2 ^ t := by exact_mod_cast Nat.two_pow_pos t
  unfold sumS
  rw [sg0, Int.zero_add, Int.zero_add, sg_scale]
  generalize sg (!s) V = a
  have c1 : (a * 2 ^ t = 0) = (a = 0) := by
    apply propext
    refine ⟨fun h => ?_, fun h => by rw [h, Int.zero_mul]⟩
    rcases Int.mul_eq_zero.1 h with h | h
    · exact h
    · omega
  have c2 : (a * 2 ^ t < 0) = (a < 0) := by
    apply propext
    refine ⟨fun h => ?_, fun h => Int.mul_neg_of_neg_of_pos h hp⟩
    rcases Int.lt_or_le a 0 with h2 | h2
    · exact h2
    · have := Int.mul_nonneg h2 (Int.le_of_lt hp); omega
  simp only [c1, c2]
theorem two_s : single.read 1073741824 = .number false (2 ^ single.fractionBits) (1 - (single.fractionBits : Int)) := by decide +kernel
theorem two_d : double.read 4611686018427387904 = .number false (2 ^ double.fractionBits) (1 - (double.fractionBits : Int)) := by decide +kernel
theorem fl0 {f : Format} (hb : f.binade ≤ f.infRung) : Fl f 0 false 0 := fl_zero f false hb
theorem fl0_s : Fl single 0 false 0 := fl0 (by decide)
theorem fl0_d : Fl double 0 false 0 := fl0 (by decide +kernel)
/-- sizes of at most B whole units -/
theorem rnd_whole {f : Format} {u V B U : Nat} (hF : 23 ≤ f.fractionBits) (hB : B ≤ 2000000) (h : V ≤ B * 2 ^ U * 2 ^ u) : rndU f u V ≤ B * 2 ^ U :=
  rndU_le (rep_scale (rep_small (by
    have : 2 ^ 24 ≤ 2 ^ (f.fractionBits + 1) := Nat.pow_le_pow_right (by omega) (by omega)
    have e : (2 : Nat) ^ 24 = 16777216 := by decide
    omega)) U) h
theorem rnd_same {f : Format} {V : Nat} (h : Rep f V) : rndU f 0 V = V := by
  have := rndU_exact (f := f) (u := 0) h
  simpa using this
/-- a sum of sizes of whole units -/
theorem fl_sumB {f : Format} {U : Nat} (hF : 23 ≤ f.fractionBits) (hlim : ∀ {u V : Nat}, V ≤ 2000000 * 2 ^ U * 2 ^ u → dropU f u V - u + 2 < 2 ^ f.exponentBits - 1)
    {s t : Bool} {V W B C : Nat} (hV : V ≤ B * 2 ^ U) (hW : W ≤ C * 2 ^ U) (hB : B + C ≤ 2000000) :
    Fl f (sumW f s V t W) (sumS s V t W) (rndU f 0 (sumA s V t W)) ∧ rndU f 0 (sumA s V t W) ≤ (B + C) * 2 ^ U := by
  have h1 := sumA_le s V t W
  have h2 : sumA s V t W ≤ (B + C) * 2 ^ U * 2 ^ 0 := by rw [Nat.add_mul]; simp only [Nat.pow_zero, Nat.mul_one]; omega
  exact ⟨fl_sum s V t W (hlim (Nat.le_trans h2 (Nat.mul_le_mul_right _ (Nat.mul_le_mul_right _ hB)))), rnd_whole hF hB h2⟩
theorem fl_halfB {f : Format} {U : Nat} (hF : 23 ≤ f.fractionBits) (hlim : ∀ {u V : Nat}, V ≤ 2000000 * 2 ^ U * 2 ^ u → dropU f u V - u + 2 < 2 ^ f.exponentBits - 1)
    {s : Bool} {V B C : Nat} (hV : V ≤ C * 2 ^ U) (hC : C ≤ 2 * B) (hB : B ≤ 2000000) :
    Fl f (f.nearest s V (f.leastPlace - 1)) s (rndU f 1 V) ∧ rndU f 1 V ≤ B * 2 ^ U := by
  have h2 : V ≤ B * 2 ^ U * 2 ^ 1 := by
    refine Nat.le_trans hV (Nat.le_trans (Nat.mul_le_mul_right _ hC) ?_)
    rw [Nat.pow_one, Nat.mul_comm _ 2, ← Nat.mul_assoc]
    exact Nat.le_refl _
  exact ⟨fl_half s V (hlim (Nat.le_trans h2 (Nat.mul_le_mul_right _ (Nat.mul_le_mul_right _ hB)))), rnd_whole hF hB h2⟩
/-- '(y - x) / 2' and '(0 - x - y) / 2', each operation by itself -/
def DivOps (k : FloatKind) (two x y d n e r i : Nat) : Prop :=
  floatBits .sub k y x = some d ∧ floatBits .quo k d two = some r ∧ floatBits .sub k 0 x = some n ∧ floatBits .sub k n y = some e ∧ floatBits .quo k e two = some i
/-- a point: both parts are finite, of a size of at most B -/
def Pt (f : Format) (U B x y : Nat) : Prop := ∃ s V t W, Fl f x s V ∧ Fl f y t W ∧ V ≤ B * 2 ^ U ∧ W ≤ B * 2 ^ U
theorem divide_d {x y : Nat} {s t : Bool} {V W B C D : Nat} (hx : Fl double x s V) (hy : Fl double y t W) (hV : V ≤ B * 2 ^ un .f64) (hW : W ≤ C * 2 ^ un .f64) (hB : B + C ≤ 2 * D) (hD : D ≤ 1000000) :
    ∃ d n e r i, DivOps .f64 4611686018427387904 x y d n e r i ∧ Pt double (un .f64) D r i := by
  obtain ⟨d1, d2⟩ := fl_sumB (f := double) (s := t) (t := !s) (by decide) lim_d hW hV (by omega)
  obtain ⟨r1, r2⟩ := fl_halfB (f := double) (s := sumS t W (!s) V) (B := D) (by decide) lim_d d2 (by omega) (by omega)
  obtain ⟨n1, n2⟩ := fl_sumB (f := double) (s := false) (V := 0) (t := !s) (B := 0) (by decide) lim_d (by omega) hV (by omega)
  obtain ⟨e1, e2⟩ := fl_sumB (f := double) (s := sumS false 0 (!s) V) (t := !t) (by decide) lim_d n2 hW (by omega)
  obtain ⟨i1, i2⟩ := fl_halfB (f := double) (s := sumS (sumS false 0 (!s) V) (rndU double 0 (sumA false 0 (!s) V)) (!t) W) (B := D) (by decide) lim_d e2 (by omega) (by omega)
  exact ⟨_, _, _, _, _, ⟨fl_sub hy hx, fl_div2 d1 two_d, fl_sub fl0_d hx, fl_sub n1 hy, fl_div2 e1 two_d⟩, _, _, _, _, r1, i1, r2, i2⟩
/-- the same by way of the wider width -/
def WideOps (x y d e r i X Y N y' n' D E R I : Nat) : Prop :=
  floatToFloatBits .f32 x .f64 = some X ∧ floatToFloatBits .f32 y .f64 = some Y ∧ floatBits .sub .f64 0 X = some N ∧ floatToFloatBits .f64 Y .f32 = some y' ∧ floatToFloatBits .f64 N .f32 = some n' ∧
  floatBits .sub .f32 y' x = some d ∧ floatBits .sub .f32 n' y = some e ∧ floatToFloatBits .f32 d .f64 = some D ∧ floatToFloatBits .f32 e .f64 = some E ∧
  floatBits .quo .f64 D 4611686018427387904 = some R ∧ floatBits .quo .f64 E 4611686018427387904 = some I ∧ floatToFloatBits .f64 R .f32 = some r ∧ floatToFloatBits .f64 I .f32 = some i
theorem up_le {V B US : Nat} (h : V ≤ B * 2 ^ US) (hB : B ≤ 2000000) : V ≤ 2000000 * 2 ^ US := Nat.le_trans h (Nat.mul_le_mul_right _ hB)
/-- there and back -/
theorem updown {US T x : Nat} (hw : Wd US T) {s : Bool} {V : Nat} (h : Fl double x s (V * 2 ^ T)) (hr : Rep single V) (hV : V ≤ 2000000 * 2 ^ US) :
    ∃ x', floatToFloatBits .f64 x .f32 = some x' ∧ Fl single x' s V := by
  obtain ⟨c1, c2⟩ := conv_down hw h (up_mul hV)
  rw [rndU_exact hr] at c2
  exact ⟨_, c1, c2⟩
theorem half_route {US T x : Nat} (hw : Wd US T) {s : Bool} {V : Nat} (h : Fl single x s V) (hV : V ≤ 2000000 * 2 ^ US) :
    ∃ X R, floatToFloatBits .f32 x .f64 = some X ∧ floatBits .quo .f64 X 4611686018427387904 = some R ∧ floatToFloatBits .f64 R .f32 = some (single.nearest s V (single.leastPlace - 1)) := by
  obtain ⟨c1, c2⟩ := conv_up hw h hV
  have hm := up_mul (T := T) hV
  have hl : V * 2 ^ T ≤ 2000000 * 2 ^ (US + T) * 2 ^ 1 := by omega
  have hR := fl_half (f := double) s (V * 2 ^ T) (hw.limD hl)
  obtain ⟨T', hT⟩ : ∃ T', T = T' + 1 := ⟨T - 1, by have := hw.one; omega⟩
  have he : rndU double 1 (V * 2 ^ T) = V * 2 ^ T' := by
    have := rndU_exact (f := double) (u := 1) (rep_scale (rep_wide (fl_rep h)) T')
    rw [Nat.mul_assoc, ← Nat.pow_add] at this
    rw [hT]
    exact this
  rw [he] at hR
  have hm2 : V * 2 ^ T' ≤ V * 2 ^ T := Nat.mul_le_mul_left _ (Nat.pow_le_pow_right (by omega) (by omega))
  obtain ⟨g1, g2⟩ := conv_down hw hR (Nat.le_trans hm2 hm)
  refine ⟨_, _, c1, fl_div2 c2 two_d, ?_⟩
  refine g1.trans ?_
  have h := nearest_shift single s V T' (single.leastPlace - 1)
  have e : single.leastPlace - 1 - (T' : Int) = single.leastPlace - (T : Int) := by omega
  rw [e] at h
  rw [h]
theorem divide_s {US T x y : Nat} (hw : Wd US T) {s t : Bool} {V W B C D : Nat} (hx : Fl single x s V) (hy : Fl single y t W) (hV : V ≤ B * 2 ^ US) (hW : W ≤ C * 2 ^ US) (hB : B + C ≤ 2 * D) (hD : D ≤ 1000000) :
    ∃ d n e r i, DivOps .f32 1073741824 x y d n e r i ∧ Pt single US D r i ∧ ∃ X Y N y' n' D E R I, WideOps x y d e r i X Y N y' n' D E R I := by
  obtain ⟨d1, d2⟩ := fl_sumB (f := single) (s := t) (t := !s) (by decide) hw.limS hW hV (by omega)
  obtain ⟨r1, r2⟩ := fl_halfB (f := single) (s := sumS t W (!s) V) (B := D) (by decide) hw.limS d2 (by omega) (by omega)
  obtain ⟨n1, n2⟩ := fl_sumB (f := single) (s := false) (V := 0) (t := !s) (B := 0) (by decide) hw.limS (by omega) hV (by omega)
  rw [sumA_neg0, rnd_same (fl_rep hx)] at n1 n2
  obtain ⟨e1, e2⟩ := fl_sumB (f := single) (s := sumS false 0 (!s) V) (V := V) (t := !t) (B := B) (by decide) hw.limS hV hW (by omega)
  obtain ⟨i1, i2⟩ := fl_halfB (f := single) (s := sumS (sumS false 0 (!s) V) V (!t) W) (B := D) (by decide) hw.limS e2 (by omega) (by omega)
  obtain ⟨X, x1, x2⟩ : ∃ X, floatToFloatBits .f32 x .f64 = some X ∧ Fl double X s (V * 2 ^ T) := ⟨_, conv_up hw hx (up_le hV (by omega))⟩
  obtain ⟨Y, y1, y2⟩ : ∃ Y, floatToFloatBits .f32 y .f64 = some Y ∧ Fl double Y t (W * 2 ^ T) := ⟨_, conv_up hw hy (up_le hW (by omega))⟩
  have hX2 := up_mul (T := T) (up_le hV (by omega))
  have n3 := fl_sum (f := double) false 0 (!s) (V * 2 ^ T) (hw.limD (by rw [sumA_neg0, Nat.pow_zero, Nat.mul_one]; exact hX2))
  rw [sumA_neg0, rnd_same (fl_rep x2), sumS_neg0] at n3
  obtain ⟨y', p1, p2⟩ := updown hw y2 (fl_rep hy) (up_le hW (by omega))
  obtain ⟨n', q1, q2⟩ := updown hw n3 (fl_rep hx) (up_le hV (by omega))
  obtain ⟨D1, R, g1, g2, g3⟩ := half_route hw d1 (up_le d2 (by omega))
  obtain ⟨E1, I, k1, k2, k3⟩ := half_route hw e1 (up_le e2 (by omega))
  exact ⟨_, _, _, _, _, ⟨fl_sub hy hx, fl_div2 d1 two_s, fl_sub fl0_s hx, fl_sub n1 hy, fl_div2 e1 two_s⟩, ⟨_, _, _, _, r1, i1, r2, i2⟩,
    X, Y, _, y', n', D1, E1, R, I, x1, y1, fl_sub fl0_d x2, p1, q1, fl_sub p2 hx, fl_sub q2 hy, g1, k1, g2, k2, g3, k3⟩
/-- whole numbers -/
theorem fl_whole {f : Format} {U : Nat} (hF : 23 ≤ f.fractionBits) (hU : f.leastPlace = -(U : Int)) (hlim : ∀ {u V : Nat}, V ≤ 2000000 * 2 ^ U * 2 ^ u → dropU f u V - u + 2 < 2 ^ f.exponentBits - 1)
    (s : Bool) {m : Nat} (hm : m ≤ 2000000) : Fl f (f.nearest s m 0) s (m * 2 ^ U) := by
  have h := nearest_shift f s m U 0
  have e : (0 : Int) - (U : Int) = f.leastPlace := by omega
  rw [e] at h
  rw [← h]
  have hr : Rep f m := rep_small (by
    have : 2 ^ 24 ≤ 2 ^ (f.fractionBits + 1) := Nat.pow_le_pow_right (by omega) (by omega)
    have e : (2 : Nat) ^ 24 = 16777216 := by decide
    omega)
  have h2 := fl_nearest f s (m * 2 ^ U) 0 (p := f.leastPlace) (by omega) (hlim (by rw [Nat.pow_zero, Nat.mul_one]; exact Nat.mul_le_mul_right _ hm))
  rw [rnd_same (rep_scale hr U)] at h2
  exact h2
theorem whole_down {US T : Nat} (hw : Wd US T) (hU : double.leastPlace = -((US + T : Nat) : Int)) (s : Bool) {m : Nat} (hm : m ≤ 2000000) :
    floatToFloatBits .f64 (double.nearest s m 0) .f32 = some (single.nearest s m 0) := by
  obtain ⟨c1, _⟩ := conv_down hw (fl_whole (f := double) (by decide) hU hw.limD s hm) (Nat.mul_le_mul_right _ hm)
  refine c1.trans ?_
  have h := nearest_shift single s m (US + T) 0
  have e : (0 : Int) - ((US + T : Nat) : Int) = single.leastPlace - (T : Int) := by rw [hw.place, hU]; omega
  rw [e] at h
  rw [h]
end Go.Proofs.YtmdnfamjdogogaaGreatDoor

namespace Go.Proofs.YtmdnfamjdogogaaGreatDoor
set_option linter.unusedSimpArgs false
set_option linter.unusedVariables false
open Ieee
def two : FloatKind → Nat
  | .f32 => 1073741824
  | .f64 => 4611686018427387904
def one : FloatKind → Nat
  | .f32 => 1065353216
  | .f64 => 4607182418800017408
def gd (o : Option Nat) : Nat := o.getD 0
def divR (k : FloatKind) (x y : Nat) : Nat := gd (floatBits .quo k (gd (floatBits .sub k y x)) (two k))
def divI (k : FloatKind) (x y : Nat) : Nat := gd (floatBits .quo k (gd (floatBits .sub k (gd (floatBits .sub k 0 x)) y)) (two k))
theorem div_of {k : FloatKind} {x y d n e r i : Nat} (h : DivOps k (two k) x y d n e r i) : divR k x y = r ∧ divI k x y = i := by
  obtain ⟨h1, h2, h3, h4, h5⟩ := h
  constructor
  · simp [divR, gd, h1, h2]
  · simp [divI, gd, h3, h4, h5]
/-- 1 divided by the base so many times -/
def pw (k : FloatKind) : Nat → Nat × Nat
  | 0 => (one k, 0)
  | n + 1 => (divR k (pw k n).1 (pw k n).2, divI k (pw k n).1 (pw k n).2)
theorem fl_wholeK (k : FloatKind) (s : Bool) {m : Nat} (hm : m ≤ 2000000) : Fl k.format (k.format.nearest s m 0) s (m * 2 ^ un k) := by
  cases k
  · exact fl_whole (f := single) (U := un .f32) (by decide) (by decide) lim_s s hm
  · exact fl_whole (f := double) (U := un .f64) (by decide) (by decide) lim_d s hm
theorem one_word (k : FloatKind) : k.format.nearest false 1 0 = one k := by cases k <;> decide +kernel
theorem zero_word (k : FloatKind) : k.format.nearest false 0 0 = 0 := by cases k <;> decide +kernel
theorem fl_one (k : FloatKind) : Fl k.format (one k) false (1 * 2 ^ un k) := by rw [← one_word]; exact fl_wholeK k false (by omega)
theorem fl_nought (k : FloatKind) : Fl k.format 0 false (0 * 2 ^ un k) := by
  have := fl_wholeK k false (m := 0) (by omega)
  rw [zero_word] at this
  exact this
theorem sumB {k : FloatKind} {x y : Nat} {s t : Bool} {V W B C : Nat} (hx : Fl k.format x s V) (hy : Fl k.format y t W) (hV : V ≤ B * 2 ^ un k) (hW : W ≤ C * 2 ^ un k) (hB : B + C ≤ 2000000) :
    ∃ r S A, floatBits .add k x y = some r ∧ Fl k.format r S A ∧ A ≤ (B + C) * 2 ^ un k := by
  cases k
  · obtain ⟨h1, h2⟩ := fl_sumB (f := single) (s := s) (t := t) (by decide) lim_s hV hW hB
    exact ⟨_, _, _, fl_add hx hy, h1, h2⟩
  · obtain ⟨h1, h2⟩ := fl_sumB (f := double) (s := s) (t := t) (by decide) lim_d hV hW hB
    exact ⟨_, _, _, fl_add hx hy, h1, h2⟩
/-- the division of a point, with all that stands on the program's way -/
def Div (k : FloatKind) (x y r i : Nat) : Prop :=
  ∃ d n e, DivOps k (two k) x y d n e r i ∧ (k = .f32 → ∃ X Y N y' n' D E R I, WideOps x y d e r i X Y N y' n' D E R I)
theorem divK {k : FloatKind} {x y : Nat} {s t : Bool} {V W B C D : Nat} (hx : Fl k.format x s V) (hy : Fl k.format y t W) (hV : V ≤ B * 2 ^ un k) (hW : W ≤ C * 2 ^ un k) (hB : B + C ≤ 2 * D) (hD : D ≤ 1000000) :
    Div k x y (divR k x y) (divI k x y) ∧ Pt k.format (un k) D (divR k x y) (divI k x y) := by
  cases k
  · obtain ⟨d, n, e, r, i, h1, h2, h3⟩ := divide_s wd hx hy hV hW hB hD
    obtain ⟨e1, e2⟩ := div_of (k := .f32) h1
    rw [e1, e2]
    exact ⟨⟨d, n, e, h1, fun _ => h3⟩, h2⟩
  · obtain ⟨d, n, e, r, i, h1, h2⟩ := divide_d hx hy hV hW hB hD
    obtain ⟨e1, e2⟩ := div_of (k := .f64) h1
    rw [e1, e2]
    exact ⟨⟨d, n, e, h1, fun h => by cases h⟩, h2⟩
theorem pw_pt (k : FloatKind) : ∀ n, Pt k.format (un k) 1 (pw k n).1 (pw k n).2
  | 0 => ⟨_, _, _, _, fl_one k, fl_nought k, Nat.le_refl _, by omega⟩
  | n + 1 => by
    obtain ⟨s, V, t, W, h1, h2, h3, h4⟩ := pw_pt k n
    exact (divK h1 h2 h3 h4 (by omega) (by omega)).2
theorem pw_div (k : FloatKind) (n : Nat) : Div k (pw k n).1 (pw k n).2 (pw k (n + 1)).1 (pw k (n + 1)).2 := by
  obtain ⟨s, V, t, W, h1, h2, h3, h4⟩ := pw_pt k n
  exact (divK h1 h2 h3 h4 (D := 1) (by omega) (by omega)).1
/-- the word of a place -/
def bitW (k : FloatKind) (c : UInt8) : Nat := if c == 49 then one k else 0
theorem fl_bit (k : FloatKind) (c : UInt8) : ∃ V, Fl k.format (bitW k c) false V ∧ V ≤ 1 * 2 ^ un k := by
  unfold bitW
  split
  · exact ⟨_, fl_one k, Nat.le_refl _⟩
  · exact ⟨_, fl_nought k, by omega⟩
/-- with a place added -/
def plR (k : FloatKind) (z : Nat × Nat) (c : UInt8) : Nat := gd (floatBits .add k z.1 (bitW k c))
def plI (k : FloatKind) (z : Nat × Nat) : Nat := gd (floatBits .add k z.2 0)
/-- the point of places, from the last one on -/
def pv (k : FloatKind) : List UInt8 → Nat × Nat
  | [] => (0, 0)
  | c :: l => (divR k (plR k (pv k l) c) (plI k (pv k l)), divI k (plR k (pv k l) c) (plI k (pv k l)))
theorem pv_step {k : FloatKind} {l : List UInt8} {c : UInt8} {B : Nat} (hB : B ≤ 999999) (h : Pt k.format (un k) B (pv k l).1 (pv k l).2) :
    floatBits .add k (pv k l).1 (bitW k c) = some (plR k (pv k l) c) ∧ floatBits .add k (pv k l).2 0 = some (plI k (pv k l)) ∧
    Div k (plR k (pv k l) c) (plI k (pv k l)) (pv k (c :: l)).1 (pv k (c :: l)).2 ∧ Pt k.format (un k) (B + 1) (pv k (c :: l)).1 (pv k (c :: l)).2 := by
  obtain ⟨s, V, t, W, h1, h2, h3, h4⟩ := h
  obtain ⟨b, b1, b2⟩ := fl_bit k c
  obtain ⟨r, S, A, r1, r2, r3⟩ := sumB h1 b1 h3 b2 (by omega)
  obtain ⟨i, S', A', i1, i2, i3⟩ := sumB h2 (fl_nought k) h4 (Nat.le_refl _) (by omega)
  have er : plR k (pv k l) c = r := by simp [plR, gd, r1]
  have ei : plI k (pv k l) = i := by simp [plI, gd, i1]
  have h := divK (D := B + 1) r2 i2 r3 i3 (by omega) (by omega)
  have ep : pv k (c :: l) = (divR k (plR k (pv k l) c) (plI k (pv k l)), divI k (plR k (pv k l) c) (plI k (pv k l))) := rfl
  rw [ep, er, ei]
  exact ⟨r1, i1, h.1, h.2⟩
theorem pv_pt (k : FloatKind) : ∀ l : List UInt8, l.length ≤ 999999 → Pt k.format (un k) l.length (pv k l).1 (pv k l).2
  | [], _ => ⟨_, _, _, _, fl_nought k, fl_nought k, by simp, by simp⟩
  | c :: l, h => by
    simp only [List.length_cons] at h
    exact (pv_step (by omega) (pv_pt k l (by omega))).2.2.2
/-- with the whole number added -/
def whR (k : FloatKind) (z : Nat × Nat) (x : Int) : Nat := gd (floatBits .add k z.1 (floatOfInt k x))
def whI (k : FloatKind) (z : Nat × Nat) (y : Int) : Nat := gd (floatBits .add k z.2 (floatOfInt k y))
theorem fl_int (k : FloatKind) {x : Int} (h : -1000000 ≤ x ∧ x ≤ 1000000) : ∃ s V, Fl k.format (floatOfInt k x) s V ∧ V ≤ 1000000 * 2 ^ un k := by
  refine ⟨_, _, fl_wholeK k (decide (x < 0)) (m := x.natAbs) (by omega), Nat.mul_le_mul_right _ (by omega)⟩
theorem wh_ops {k : FloatKind} {z : Nat × Nat} {x y : Int} (hz : Pt k.format (un k) 1000 z.1 z.2) (hx : -1000000 ≤ x ∧ x ≤ 1000000) (hy : -1000000 ≤ y ∧ y ≤ 1000000) :
    floatBits .add k z.1 (floatOfInt k x) = some (whR k z x) ∧ floatBits .add k z.2 (floatOfInt k y) = some (whI k z y) ∧ Pt k.format (un k) 1001000 (whR k z x) (whI k z y) := by
  obtain ⟨s, V, t, W, h1, h2, h3, h4⟩ := hz
  obtain ⟨_, _, x1, x2⟩ := fl_int k hx
  obtain ⟨_, _, y1, y2⟩ := fl_int k hy
  obtain ⟨r, S, A, r1, r2, r3⟩ := sumB h1 x1 h3 x2 (by omega)
  obtain ⟨i, S', A', i1, i2, i3⟩ := sumB h2 y1 h4 y2 (by omega)
  have er : whR k z x = r := by simp [whR, gd, r1]
  have ei : whI k z y = i := by simp [whI, gd, i1]
  rw [er, ei]
  exact ⟨r1, i1, _, _, _, _, r2, i2, r3, i3⟩
theorem Pt.mono {f : Format} {U B C x y : Nat} (h : Pt f U B x y) (hB : B ≤ C) : Pt f U C x y := by
  obtain ⟨s, V, t, W, h1, h2, h3, h4⟩ := h
  exact ⟨s, V, t, W, h1, h2, Nat.le_trans h3 (Nat.mul_le_mul_right _ hB), Nat.le_trans h4 (Nat.mul_le_mul_right _ hB)⟩
/-- a whole number's word in the narrower width comes of its word in the wider one -/
theorem int_down {x : Int} (h : -1000000 ≤ x ∧ x ≤ 1000000) : floatToFloatBits .f64 (floatOfInt .f64 x) .f32 = some (floatOfInt .f32 x) :=
  whole_down wd (by decide) (decide (x < 0)) (m := x.natAbs) (by omega)
/-- a single point in the wider width -/
theorem pt_up {B x y : Nat} (h : Pt single (un .f32) B x y) (hB : B ≤ 2000000) : ∃ X Y, floatToFloatBits .f32 x .f64 = some X ∧ floatToFloatBits .f32 y .f64 = some Y := by
  obtain ⟨s, V, t, W, h1, h2, h3, h4⟩ := h
  exact ⟨_, _, (conv_up wd h1 (up_le h3 hB)).1, (conv_up wd h2 (up_le h4 hB)).1⟩
end Go.Proofs.YtmdnfamjdogogaaGreatDoor

namespace Go.Proofs.YtmdnfamjdogogaaGreatDoor
set_option linter.unusedSimpArgs false
set_option linter.unusedVariables false
open Ieee
/-- a word that stands for v units -/
def Vl (k : FloatKind) (x : Nat) (v : Int) : Prop := ∃ s V, Fl k.format x s V ∧ sg s V = v
/-- exact, and not too great -/
def Okv (k : FloatKind) (v : Int) : Prop := Rep k.format v.natAbs ∧ v.natAbs ≤ 2000000 * 2 ^ un k
theorem limK (k : FloatKind) {u V : Nat} (h : V ≤ 2000000 * 2 ^ un k * 2 ^ u) : dropU k.format u V - u + 2 < 2 ^ k.format.exponentBits - 1 := by
  cases k
  · exact lim_s h
  · exact lim_d h
theorem vl_sum {k : FloatKind} {s t : Bool} {V W : Nat} (h : Okv k (sg s V + sg t W)) : Vl k (sumW k.format s V t W) (sg s V + sg t W) := by
  have hr : Rep k.format (sumA s V t W) := h.1
  have hl : sumA s V t W ≤ 2000000 * 2 ^ un k := h.2
  have h1 := fl_sum (f := k.format) s V t W (limK k (by rw [Nat.pow_zero, Nat.mul_one]; exact hl))
  rw [rnd_same hr] at h1
  refine ⟨_, _, h1, ?_⟩
  unfold sumS sumA
  generalize sg s V + sg t W = T
  split
  · rename_i h; rw [h]; unfold sg; split <;> rfl
  · unfold sg
    by_cases c : T < 0
    · simp [c]; omega
    · simp [c]; omega
theorem vl_add {k : FloatKind} {x y : Nat} {a b : Int} (hx : Vl k x a) (hy : Vl k y b) (h : Okv k (a + b)) : ∃ r, floatBits .add k x y = some r ∧ Vl k r (a + b) := by
  obtain ⟨s, V, h1, rfl⟩ := hx
  obtain ⟨t, W, h2, rfl⟩ := hy
  exact ⟨_, fl_add h1 h2, vl_sum h⟩
theorem vl_sub {k : FloatKind} {x y : Nat} {a b : Int} (hx : Vl k x a) (hy : Vl k y b) (h : Okv k (a - b)) : ∃ r, floatBits .sub k x y = some r ∧ Vl k r (a - b) := by
  obtain ⟨s, V, h1, rfl⟩ := hx
  obtain ⟨t, W, h2, rfl⟩ := hy
  have e : sg s V - sg t W = sg s V + sg (!t) W := by rw [sg_neg]; omega
  rw [e] at h ⊢
  exact ⟨_, fl_sub h1 h2, vl_sum h⟩
theorem scale_cmp (a b : Int) (t : Nat) : compare (a * 2 ^ t) (b * 2 ^ t) = compare a b := by
  have hp : (0 : Int) < 2 ^ t := by exact_mod_cast Nat.two_pow_pos t
  rcases Int.lt_trichotomy a b with h | h | h
  · rw [Int.compare_eq_lt.2 h, Int.compare_eq_lt.2 ((Int.mul_lt_mul_right hp).2 h)]
  · rw [h]; rw [Int.compare_eq_eq.2 rfl, Int.compare_eq_eq.2 rfl]
  · rw [Int.compare_eq_gt.2 h, Int.compare_eq_gt.2 ((Int.mul_lt_mul_right hp).2 h)]
theorem vl_order {k : FloatKind} {x y : Nat} {a b : Int} (hx : Vl k x a) (hy : Vl k y b) : k.format.order x y = some (compare a b) := by
  obtain ⟨s, V, ⟨m, i, h1, rfl, _⟩, rfl⟩ := hx
  obtain ⟨t, W, ⟨n, j, h2, rfl, _⟩, rfl⟩ := hy
  unfold Format.order
  rw [h1, h2]
  unfold Datum.order
  have hb : min (k.format.leastPlace + (i : Int)) (k.format.leastPlace + (j : Int)) = k.format.leastPlace + ((min i j : Nat) : Int) := by omega
  simp only [hb, signed_sg]
  rw [show (k.format.leastPlace + (i : Int) - (k.format.leastPlace + ((min i j : Nat) : Int))).toNat = i - min i j by omega, show (k.format.leastPlace + (j : Int) - (k.format.leastPlace + ((min i j : Nat) : Int))).toNat = j - min i j by omega]
  have e1 : sg s (m * 2 ^ i) = sg s (m * 2 ^ (i - min i j)) * 2 ^ min i j := by
    rw [← sg_scale, Nat.mul_assoc, ← Nat.pow_add, show i - min i j + min i j = i by omega]
  have e2 : sg t (n * 2 ^ j) = sg t (n * 2 ^ (j - min i j)) * 2 ^ min i j := by
    rw [← sg_scale, Nat.mul_assoc, ← Nat.pow_add, show j - min i j + min i j = j by omega]
  rw [e1, e2, scale_cmp]
theorem vl_same {k : FloatKind} {x y : Nat} {a : Int} (hx : Vl k x a) (hy : Vl k y a) : k.format.order x y = some .eq := by
  rw [vl_order hx hy, Int.compare_eq_eq.2 rfl]
/-- the sign bit turned -/
theorem xor_top {x w : Nat} (h : x < 2 ^ (w + 1)) : x ^^^ 2 ^ w = if x < 2 ^ w then 2 ^ w + x else x - 2 ^ w := by
  have hp := Nat.two_pow_pos w
  by_cases c : x < 2 ^ w
  · rw [if_pos c, Nat.xor_comm, Nat.add_comm]
    have := Nat.two_pow_add_eq_or_of_lt (i := w) c 1
    apply Nat.eq_of_testBit_eq
    intro i
    rw [Nat.testBit_xor, Nat.testBit_two_pow]
    rcases Nat.lt_trichotomy i w with h1 | h1 | h1
    · rw [Nat.add_comm, Nat.testBit_two_pow_add_gt h1]
      simp [show w ≠ i by omega]
    · subst h1
      rw [Nat.add_comm, Nat.testBit_two_pow_add_eq]
      simp
    · have e1 : x.testBit i = false := Nat.testBit_lt_two_pow (Nat.lt_of_lt_of_le c (Nat.pow_le_pow_right (by omega) (by omega)))
      have e2 : (x + 2 ^ w).testBit i = false := Nat.testBit_lt_two_pow (Nat.lt_of_lt_of_le (show x + 2 ^ w < 2 ^ (w + 1) by rw [Nat.pow_succ]; omega) (Nat.pow_le_pow_right (by omega) (by omega)))
      rw [e1, e2]
      simp [show w ≠ i by omega]
  · rw [if_neg c]
    obtain ⟨y, rfl⟩ : ∃ y, x = 2 ^ w + y := ⟨x - 2 ^ w, by omega⟩
    rw [Nat.pow_succ] at h
    have hy : y < 2 ^ w := by omega
    rw [Nat.add_sub_cancel_left]
    apply Nat.eq_of_testBit_eq
    intro i
    rw [Nat.testBit_xor, Nat.testBit_two_pow]
    rcases Nat.lt_trichotomy i w with h1 | h1 | h1
    · rw [Nat.testBit_two_pow_add_gt h1]
      simp [show w ≠ i by omega]
    · subst h1
      rw [Nat.testBit_two_pow_add_eq]
      have : y.testBit i = false := Nat.testBit_lt_two_pow hy
      simp [this]
    · have e1 : y.testBit i = false := Nat.testBit_lt_two_pow (Nat.lt_of_lt_of_le hy (Nat.pow_le_pow_right (by omega) (by omega)))
      have e2 : (2 ^ w + y).testBit i = false := Nat.testBit_lt_two_pow (Nat.lt_of_lt_of_le (show 2 ^ w + y < 2 ^ (w + 1) by rw [Nat.pow_succ]; omega) (Nat.pow_le_pow_right (by omega) (by omega)))
      rw [e1, e2]
      simp [show w ≠ i by omega]
theorem vl_neg {k : FloatKind} {x : Nat} {a : Int} (hx : Vl k x a) (hl : x < 2 ^ k.format.width) : Vl k (Op.negFloat k x) (-a) := by
  obtain ⟨s, V, ⟨m, i, h1, h2, h3⟩, rfl⟩ := hx
  refine ⟨!s, V, ⟨m, i, ?_, h2, h3⟩, sg_neg s V⟩
  have hw : k.format.width = (k.format.exponentBits + k.format.fractionBits) + 1 := by unfold Format.width; omega
  rw [hw] at hl
  unfold Op.negFloat
  rw [xor_top hl]
  have hp := Nat.two_pow_pos (k.format.exponentBits + k.format.fractionBits)
  have hsw : k.format.signWeight = 2 ^ (k.format.exponentBits + k.format.fractionBits) := rfl
  unfold Format.read at h1 ⊢
  rw [hsw] at h1 ⊢
  rw [Nat.pow_succ] at hl
  generalize 2 ^ (k.format.exponentBits + k.format.fractionBits) = S at *
  by_cases c : x < S
  · rw [if_pos c]
    have e1 : (S + x) % S = x % S := Nat.add_mod_left _ _
    have e2 : x / S = 0 := Nat.div_eq_of_lt c
    have e3 : (S + x) / S = 1 := by rw [Nat.add_div_left _ hp, e2]
    simp only [e1, e2, e3] at h1 ⊢
    revert h1
    repeat' split
    all_goals first | (intro h1; cases h1; done) | (intro h1; injection h1 with a1 a2 a3; subst a1 a2; first | (rw [a3]; simp; done) | (simp; exact a3))
  · rw [if_neg c]
    obtain ⟨y, rfl⟩ : ∃ y, x = S + y := ⟨x - S, by omega⟩
    rw [Nat.add_sub_cancel_left]
    have hy : y < S := by omega
    have e1 : (S + y) % S = y % S := Nat.add_mod_left _ _
    have e2 : y / S = 0 := Nat.div_eq_of_lt hy
    have e3 : (S + y) / S = 1 := by rw [Nat.add_div_left _ hp, e2]
    simp only [e1, e2, e3] at h1 ⊢
    revert h1
    repeat' split
    all_goals first | (intro h1; cases h1; done) | (intro h1; injection h1 with a1 a2 a3; subst a1 a2; first | (rw [a3]; simp; done) | (simp; exact a3))
end Go.Proofs.YtmdnfamjdogogaaGreatDoor

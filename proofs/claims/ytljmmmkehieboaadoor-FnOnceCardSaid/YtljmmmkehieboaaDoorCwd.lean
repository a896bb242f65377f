/- Chapter 5: CurveWord, of both sides. No law is stated here. -/
import Derived.Test.YtljmmmkehieboaaDoorPm
import Derived.Test.YtljmmmkehieboaaDoorWb
namespace Go.Proofs.YtljmmmkehieboaaDoor
set_option linter.unusedSimpArgs false
set_option linter.unusedVariables false
open Go.RowKit Ieee

/-- the letter of a turn: from the step a to the step b -/
def ltr (a b : Int × Int) : Option UInt8 := if b = (-a.2, a.1) then some 108 else if b = (a.2, -a.1) then some 114 else none
/-- the step behind the point k -/
def stpZ (Z : List (Int × Int)) (k : Nat) : Int × Int := subP (Z[k + 1]?.getD (0, 0)) (Z[k]?.getD (0, 0))
/-- the letters of a list's turns, as far as they go -/
def ltrs (Z : List (Int × Int)) (k : Nat) : Option (List UInt8) := (List.range k).foldl (fun o j => match o, ltr (stpZ Z j) (stpZ Z (j + 1)) with | some l, some c => some (l ++ [c]) | _, _ => none) (some [])
theorem ltrs_zero (Z : List (Int × Int)) : ltrs Z 0 = some [] := rfl
theorem ltrs_succ (Z : List (Int × Int)) (k : Nat) : ltrs Z (k + 1) = match ltrs Z k, ltr (stpZ Z k) (stpZ Z (k + 1)) with | some l, some c => some (l ++ [c]) | _, _ => none := by
  unfold ltrs; rw [List.range_succ, List.foldl_append]; rfl
theorem ltrs_some {Z : List (Int × Int)} {k : Nat} {l : List UInt8} {c : UInt8} (h : ltrs Z k = some l) (h1 : ltr (stpZ Z k) (stpZ Z (k + 1)) = some c) : ltrs Z (k + 1) = some (l ++ [c]) := by rw [ltrs_succ, h, h1]
theorem ltrs_none {Z : List (Int × Int)} {k : Nat} (h1 : ltr (stpZ Z k) (stpZ Z (k + 1)) = none) : ltrs Z (k + 1) = none := by
  rw [ltrs_succ, h1]; cases ltrs Z k <;> rfl
theorem ltrs_stuck {Z : List (Int × Int)} {k : Nat} (h : ltrs Z k = none) : ∀ n, k ≤ n → ltrs Z n = none := by
  intro n hn
  induction n with
  | zero => obtain rfl : k = 0 := by omega
            exact h
  | succ n ih =>
    rcases Nat.lt_or_eq_of_le hn with h1 | h1
    · rw [ltrs_succ, ih (by omega)]
    · rw [← h1]; exact h
theorem ltrs_len {Z : List (Int × Int)} : ∀ {k : Nat} {l : List UInt8}, ltrs Z k = some l → l.length = k := by
  intro k
  induction k with
  | zero => intro l h; rw [ltrs_zero] at h; cases h; rfl
  | succ k ih =>
    intro l h
    rw [ltrs_succ] at h
    cases h1 : ltrs Z k with
    | none => rw [h1] at h; cases h
    | some l' =>
      cases h2 : ltr (stpZ Z k) (stpZ Z (k + 1)) with
      | none => rw [h1, h2] at h; cases h
      | some c =>
        rw [h1, h2] at h
        cases h
        rw [List.length_append, ih h1]; rfl
/-- what CurveWord says -/
noncomputable def cwO (L : List SZ) : Option (List UInt8) := if pathZ L = true ∧ 2 ≤ L.length then ltrs (L.map val) (L.length - 2) else none
theorem cwO_no {L : List SZ} (h : pathZ L = false) : cwO L = none := by unfold cwO; rw [if_neg (fun e => by rw [h] at e; cases e.1)]
theorem cwO_short {L : List SZ} (h : L.length < 2) : cwO L = none := by unfold cwO; rw [if_neg (fun e => by omega)]
theorem cwO_yes {L : List SZ} (h : pathZ L = true) (h2 : 2 ≤ L.length) : cwO L = ltrs (L.map val) (L.length - 2) := by unfold cwO; rw [if_pos ⟨h, h2⟩]
def cwV (o : Option (List UInt8)) : Value := match o with | some l => .tuple #[.string (bs l), .bool true] | none => .tuple #[.string ⟨#[]⟩, .bool false]
theorem cwV_some (l : List UInt8) : cwV (some l) = .tuple #[.string (bs l), .bool true] := rfl
theorem cwV_none : cwV none = .tuple #[.string ⟨#[]⟩, .bool false] := rfl
theorem stp_get {Z : List (Int × Int)} {k : Nat} (h : k + 1 < Z.length) : stpZ Z k = subP Z[k + 1] Z[k] := by
  unfold stpZ
  rw [List.getElem?_eq_getElem h, List.getElem?_eq_getElem (by omega)]; rfl
theorem stp_unit {Z : List (Int × Int)} (h : PathP Z) {k : Nat} (hk : k + 1 < Z.length) : sqN (stpZ Z k) = 1 := by
  have h1 := h.2.2 k _ _ (List.getElem?_eq_getElem (by omega)) (List.getElem?_eq_getElem hk)
  rw [stp_get hk]
  unfold nbr at h1
  exact of_decide_eq_true h1
theorem unit_bp {d : Int × Int} (h : sqN d = 1) : Bp 1 d := by
  rcases unit_cases.1 h with rfl | rfl | rfl | rfl <;> (unfold Bp; decide)

/-! ### turns, the program's -/
section
variable {P : Program} (w : World)
theorem own_q (z : Int × Int) : encP z = encZ (canQ z) := rfl
theorem can_in1 {z : Int × Int} (h : Bp 1 z) : (canQ z).1.2 ≤ 1 ∧ (canQ z).2.2 ≤ 1 := h
theorem run_ceqZ (t : TypeId) {b : Int × Int} {q : SZ} (hb : Bp 1 b) (hq : q.1.2 ≤ 1 ∧ q.2.2 ≤ 1) : (binOp .eql t (encP b) (encZ q)).run P w = .ok (.bool (eqP b (val q))) w := by
  have e := run_ceqS (P := P) w (k := .f32) t (decide (b.1 < 0)) (decide (b.2 < 0)) q.1.1 q.2.1 (a := b.1.natAbs) (b := b.2.natAbs) (c := q.1.2) (d := q.2.2) (Nat.le_trans hb.1 (by omega)) (Nat.le_trans hb.2 (by omega)) (by omega) (by omega)
  rw [own_sg, own_sg] at e
  exact e
end
def turnV2 (o : Option UInt8) : Value := match o with | some c => .tuple #[.int .u8 (c.toNat : Int), .bool true] | none => .tuple #[.int .u8 0, .bool false]
end Go.Proofs.YtljmmmkehieboaaDoor

/- Chapter 5: CurveWord, of both sides. No law is stated here. -/
import Derived.Test.YtljmmmkehieboaaPm
import Derived.Test.YtljmmmkehieboaaWb
namespace Go.Proofs.Ytljmmmkehieboaa
set_option linter.unusedSimpArgs false
set_option linter.unusedVariables false
open Go.RowKit Ieee

/-- the letter of a turn: from the step a to the step b -/
def ltr (a b : Int × Int) : Option UInt8 := if b = (-a.2, a.1) then some 108 else if b = (a.2, -a.1) then some 114 else none
/-- the step behind the point k -/
def stpZ (Z : List (Int × Int)) (k : Nat) : Int × Int := subP (Z[k + 1]?.getD (0, 0)) (Z[k]?.getD (0, 0))
/-- the letters of a list's turns, as far as they go -/
def ltrs (Z : List (Int × Int)) (k : Nat) : Option (List UInt8) := (List.range k).foldl (fun o j => match o, ltr (stpZ Z j) (stpZ Z (j + 1)) with | some l, some c => some (l ++ [c]) | _, _ => none) (some [])
theorem ltrs_zero (Z : List (Int × Int)) : ltrs Z 0 = some [] := rfl
theorem ltrs_succ (Z : List (Int × Int)) (k : Nat) : ltrs Z (k + 1) = match ltrs Z k, ltr (stpZ Z k) (stpZ Z (k + 1)) with | some l, some c => some (l ++ [c]) | _, _ => none := by
  unfold ltrs; rw [List.range_succ, List.foldl_append]; rfl
theorem ltrs_some {Z : List (Int × Int)} {k : Nat} {l : List UInt8} {c : UInt8} (h : ltrs Z k = some l) (h1 : ltr (stpZ Z k) (stpZ Z (k + 1)) = some c) : ltrs Z (k + 1) = some (l ++ [c]) := by rw [ltrs_succ, h, h1]
theorem ltrs_none {Z : List (Int × Int)} {k : Nat} (h1 : ltr (stpZ Z k) (stpZ Z (k + 1)) = none) : ltrs Z (k + 1) = none := by
  rw [ltrs_succ, h1]; cases ltrs Z k <;> rfl
theorem ltrs_stuck {Z : List (Int × Int)} {k : Nat} (h : ltrs Z k = none) : ∀ n, k ≤ n → ltrs Z n = none := by
  intro n hn
  induction n with
  | zero => obtain rfl : k = 0 := by omega
            exact h
  | succ n ih =>
    rcases Nat.lt_or_eq_of_le hn with h1 | h1
    · rw [ltrs_succ, ih (by omega)]
    · rw [← h1]; exact h
theorem ltrs_len {Z : List (Int × Int)} : ∀ {k : Nat} {l : List UInt8}, ltrs Z k = some l → l.length = k := by
  intro k
  induction k with
  | zero => intro l h; rw [ltrs_zero] at h; cases h; rfl
  | succ k ih =>
    intro l h
    rw [ltrs_succ] at h
    cases h1 : ltrs Z k with
    | none => rw [h1] at h; cases h
    | some l' =>
      cases h2 : ltr (stpZ Z k) (stpZ Z (k + 1)) with
      | none => rw [h1, h2] at h; cases h
      | some c =>
        rw [h1, h2] at h
        cases h
        rw [List.length_append, ih h1]; rfl
/-- what CurveWord says -/
noncomputable def cwO (L : List SZ) : Option (List UInt8) := if pathZ L = true ∧ 2 ≤ L.length then ltrs (L.map val) (L.length - 2) else none
theorem cwO_no {L : List SZ} (h : pathZ L = false) : cwO L = none := by unfold cwO; rw [if_neg (fun e => by rw [h] at e; cases e.1)]
theorem cwO_short {L : List SZ} (h : L.length < 2) : cwO L = none := by unfold cwO; rw [if_neg (fun e => by omega)]
theorem cwO_yes {L : List SZ} (h : pathZ L = true) (h2 : 2 ≤ L.length) : cwO L = ltrs (L.map val) (L.length - 2) := by unfold cwO; rw [if_pos ⟨h, h2⟩]
def cwV (o : Option (List UInt8)) : Value := match o with | some l => .tuple #[.string (bs l), .bool true] | none => .tuple #[.string ⟨#[]⟩, .bool false]
theorem cwV_some (l : List UInt8) : cwV (some l) = .tuple #[.string (bs l), .bool true] := rfl
theorem cwV_none : cwV none = .tuple #[.string ⟨#[]⟩, .bool false] := rfl
theorem stp_get {Z : List (Int × Int)} {k : Nat} (h : k + 1 < Z.length) : stpZ Z k = subP Z[k + 1] Z[k] := by
  unfold stpZ
  rw [List.getElem?_eq_getElem h, List.getElem?_eq_getElem (by omega)]; rfl
theorem stp_unit {Z : List (Int × Int)} (h : PathP Z) {k : Nat} (hk : k + 1 < Z.length) : sqN (stpZ Z k) = 1 := by
  have h1 := h.2.2 k _ _ (List.getElem?_eq_getElem (by omega)) (List.getElem?_eq_getElem hk)
  rw [stp_get hk]
  unfold nbr at h1
  exact of_decide_eq_true h1
theorem unit_bp {d : Int × Int} (h : sqN d = 1) : Bp 1 d := by
  rcases unit_cases.1 h with rfl | rfl | rfl | rfl <;> (unfold Bp; decide)

/-! ### turns, the program's -/
section
variable {P : Program} (w : World)
theorem own_q (z : Int × Int) : encP z = encZ (canQ z) := rfl
theorem can_in1 {z : Int × Int} (h : Bp 1 z) : (canQ z).1.2 ≤ 1 ∧ (canQ z).2.2 ≤ 1 := h
theorem run_ceqZ (t : TypeId) {b : Int × Int} {q : SZ} (hb : Bp 1 b) (hq : q.1.2 ≤ 1 ∧ q.2.2 ≤ 1) : (binOp .eql t (encP b) (encZ q)).run P w = .ok (.bool (eqP b (val q))) w := by
  have e := run_ceqS (P := P) w (k := .f32) t (decide (b.1 < 0)) (decide (b.2 < 0)) q.1.1 q.2.1 (a := b.1.natAbs) (b := b.2.natAbs) (c := q.1.2) (d := q.2.2) (Nat.le_trans hb.1 (by omega)) (Nat.le_trans hb.2 (by omega)) (by omega) (by omega)
  rw [own_sg, own_sg] at e
  exact e
end
def turnV2 (o : Option UInt8) : Value := match o with | some c => .tuple #[.int .u8 (c.toNat : Int), .bool true] | none => .tuple #[.int .u8 0, .bool false]
set_option maxRecDepth 100000 in
set_option maxHeartbeats 4000000 in
theorem turnIn_c (g o c : Nat) (x y z : Int × Int) (w : World) (h0 : w.cell? ⟨g, o, none⟩ = some (encP x)) (h1 : w.cell? ⟨g, o + 1, none⟩ = some (encP y)) (h2 : w.cell? ⟨g, o + 2, none⟩ = some (encP z))
    (hx : Bp 400 x) (hy : Bp 400 y) (hz : Bp 400 z) (u1 : sqN (subP y x) = 1) (u2 : sqN (subP z y) = 1) :
    Calls Try.prog 42 #[.slice (some ⟨g, o, none⟩) 3 c] w fun e w' => e = .returned (turnV2 (ltr (subP y x) (subP z y))) ∧ Below w.heap.size w w' := by
  have Sx : Sm x := ⟨Nat.le_trans hx.1 (by omega), Nat.le_trans hx.2 (by omega)⟩
  have Sy : Sm y := ⟨Nat.le_trans hy.1 (by omega), Nat.le_trans hy.2 (by omega)⟩
  have Sz : Sm z := ⟨Nat.le_trans hz.1 (by omega), Nat.le_trans hz.2 (by omega)⟩
  have f1 := fun w t => run_psub (P := Try.prog) w t Sy Sx
  have f2 := fun w t => run_psub (P := Try.prog) w t Sz Sy
  generalize subP y x = s at *
  generalize subP z y = t at *
  have bs1 := unit_bp u1
  have bt1 := unit_bp u2
  have m1 := fun w T => run_left (P := Try.prog) w T (can_in1 bs1)
  have m2 := fun w T => run_right (P := Try.prog) w T (can_in1 bs1)
  have q1 := fun w T => run_ceqZ (P := Try.prog) w T bt1 (mulq_in false (can_in1 bs1))
  have q2 := fun w T => run_ceqZ (P := Try.prog) w T bt1 (mulq_in true (can_in1 bs1))
  rw [val_mulq, val_can] at q1 q2
  change ∀ w T, (binOp .mul T (encP s) _).run _ w = _ at m1
  change ∀ w T, (binOp .mul T (encP s) _).run _ w = _ at m2
  have Lg : g < w.heap.size := World.block_lt_of_cell? w _ h0
  generalize mulq false (canQ s) = ql at *
  generalize mulq true (canQ s) = qr at *
  have hd : Below w.heap.size w w.drew := (Below.refl _ _).drew
  have HL : (ltr s t = some 108 ∧ eqP t (-s.2, s.1) = true) ∨ (ltr s t = some 114 ∧ eqP t (-s.2, s.1) = false ∧ eqP t (s.2, -s.1) = true) ∨ (ltr s t = none ∧ eqP t (-s.2, s.1) = false ∧ eqP t (s.2, -s.1) = false) := by
    unfold ltr
    by_cases e1 : t = (-s.2, s.1)
    · left; rw [if_pos e1]; exact ⟨rfl, eqP_iff.2 e1⟩
    · have e1' : eqP t (-s.2, s.1) = false := by rw [← Bool.not_eq_true, eqP_iff]; exact e1
      by_cases e2 : t = (s.2, -s.1)
      · right; left; rw [if_neg e1, if_pos e2]; exact ⟨rfl, e1', eqP_iff.2 e2⟩
      · right; right; rw [if_neg e1, if_neg e2]; exact ⟨rfl, e1', by rw [← Bool.not_eq_true, eqP_iff]; exact e2⟩
  simp only [if_true, if_false, Bool.false_eq_true] at q1 q2
  clear Sx Sy Sz hx hy hz u1 u2 bs1 bt1 hd
  go_enter Try.func42, Try.ntmps42
  go_wp2_with fail
  refine region_slots (fun _ => True) [] [(5, .is (.slice (some ⟨g, o, none⟩) 3 c)), (6, .is (.pointer (some ⟨g, o + 1, none⟩))), (7, .is (encP y)), (8, .is (.slice (some ⟨g, o, none⟩) 3 c)), (9, .is (.pointer (some ⟨g, o, none⟩))), (10, .is (encP x)), (11, .is (encP s))] (by kernel_rfl) (by kernel_rfl) (by kernel_rfl) (fun _ _ => trivial) (fun _ _ _ _ _ _ h => h) ?_
  simp only [Steps, List.contains_cons, List.contains_nil, Nat.reduceBEq, Nat.reduceAdd, Bool.or_false, Bool.false_or, Bool.or_true, Bool.true_or, Bool.false_eq_true, if_false, if_true]
  refine ⟨?_, ?_, ?_, ?_, ?_, ?_, ?_, ?_⟩
  · intro u w2 hH hd K hK
    simp only [setU, upd, List.map_cons, List.map_nil, List.contains_cons, List.contains_nil, Nat.reduceBEq, Nat.reduceAdd, Bool.or_false, Bool.false_or, Bool.or_true, Bool.true_or, Bool.false_eq_true, if_false, if_true, ite_true, ite_false, Nat.reduceEqDiff, beq_self_eq_true] at hK ⊢
    go_wp2_with (fail)
    exact hK _ _ (by (repeat' (first | assumption | exact Below.refl _ _ | apply Blw.alloc | apply Blw.drew | apply Blw.drewN | (refine Blw.after ?_ (by assumption)) | (refine Blw.set ?_ (by first | (dsimp only; omega) | (simp; done) | (simp; omega)) _)))) rfl
  · intro u w2 hH hd K hK
    have f5 : u 5 = (.slice (some ⟨g, o, none⟩) 3 c) := hd 5 (by kernel_rfl)
    simp only [setU, upd, List.map_cons, List.map_nil, List.contains_cons, List.contains_nil, Nat.reduceBEq, Nat.reduceAdd, Bool.or_false, Bool.false_or, Bool.or_true, Bool.true_or, Bool.false_eq_true, if_false, if_true, ite_true, ite_false, Nat.reduceEqDiff, beq_self_eq_true] at hK ⊢
    rw [f5] at hK ⊢
    clear f5
    go_wp2_with (fail)
    exact hK _ _ (by (repeat' (first | assumption | exact Below.refl _ _ | apply Blw.alloc | apply Blw.drew | apply Blw.drewN | (refine Blw.after ?_ (by assumption)) | (refine Blw.set ?_ (by first | (dsimp only; omega) | (simp; done) | (simp; omega)) _)))) rfl
  · intro u w2 hH hd K hK
    have f6 : u 6 = (.pointer (some ⟨g, o + 1, none⟩)) := hd 6 (by kernel_rfl)
    simp only [setU, upd, List.map_cons, List.map_nil, List.contains_cons, List.contains_nil, Nat.reduceBEq, Nat.reduceAdd, Bool.or_false, Bool.false_or, Bool.or_true, Bool.true_or, Bool.false_eq_true, if_false, if_true, ite_true, ite_false, Nat.reduceEqDiff, beq_self_eq_true] at hK ⊢
    rw [f6] at hK ⊢
    clear f6
    go_wp2_with (fail)
    exact hK _ _ (by (repeat' (first | assumption | exact Below.refl _ _ | apply Blw.alloc | apply Blw.drew | apply Blw.drewN | (refine Blw.after ?_ (by assumption)) | (refine Blw.set ?_ (by first | (dsimp only; omega) | (simp; done) | (simp; omega)) _)))) rfl
  · intro u w2 hH hd K hK
    simp only [setU, upd, List.map_cons, List.map_nil, List.contains_cons, List.contains_nil, Nat.reduceBEq, Nat.reduceAdd, Bool.or_false, Bool.false_or, Bool.or_true, Bool.true_or, Bool.false_eq_true, if_false, if_true, ite_true, ite_false, Nat.reduceEqDiff, beq_self_eq_true] at hK ⊢
    go_wp2_with (fail)
    exact hK _ _ (by (repeat' (first | assumption | exact Below.refl _ _ | apply Blw.alloc | apply Blw.drew | apply Blw.drewN | (refine Blw.after ?_ (by assumption)) | (refine Blw.set ?_ (by first | (dsimp only; omega) | (simp; done) | (simp; omega)) _)))) rfl
  · intro u w2 hH hd K hK
    have f8 : u 8 = (.slice (some ⟨g, o, none⟩) 3 c) := hd 8 (by kernel_rfl)
    simp only [setU, upd, List.map_cons, List.map_nil, List.contains_cons, List.contains_nil, Nat.reduceBEq, Nat.reduceAdd, Bool.or_false, Bool.false_or, Bool.or_true, Bool.true_or, Bool.false_eq_true, if_false, if_true, ite_true, ite_false, Nat.reduceEqDiff, beq_self_eq_true] at hK ⊢
    rw [f8] at hK ⊢
    clear f8
    go_wp2_with (fail)
    exact hK _ _ (by (repeat' (first | assumption | exact Below.refl _ _ | apply Blw.alloc | apply Blw.drew | apply Blw.drewN | (refine Blw.after ?_ (by assumption)) | (refine Blw.set ?_ (by first | (dsimp only; omega) | (simp; done) | (simp; omega)) _)))) rfl
  · intro u w2 hH hd K hK
    have f9 : u 9 = (.pointer (some ⟨g, o, none⟩)) := hd 9 (by kernel_rfl)
    simp only [setU, upd, List.map_cons, List.map_nil, List.contains_cons, List.contains_nil, Nat.reduceBEq, Nat.reduceAdd, Bool.or_false, Bool.false_or, Bool.or_true, Bool.true_or, Bool.false_eq_true, if_false, if_true, ite_true, ite_false, Nat.reduceEqDiff, beq_self_eq_true] at hK ⊢
    rw [f9] at hK ⊢
    clear f9
    go_wp2_with (fail)
    exact hK _ _ (by (repeat' (first | assumption | exact Below.refl _ _ | apply Blw.alloc | apply Blw.drew | apply Blw.drewN | (refine Blw.after ?_ (by assumption)) | (refine Blw.set ?_ (by first | (dsimp only; omega) | (simp; done) | (simp; omega)) _)))) rfl
  · intro u w2 hH hd K hK
    have f7 : u 7 = (encP y) := hd 7 (by kernel_rfl)
    have f10 : u 10 = (encP x) := hd 10 (by kernel_rfl)
    simp only [setU, upd, List.map_cons, List.map_nil, List.contains_cons, List.contains_nil, Nat.reduceBEq, Nat.reduceAdd, Bool.or_false, Bool.false_or, Bool.or_true, Bool.true_or, Bool.false_eq_true, if_false, if_true, ite_true, ite_false, Nat.reduceEqDiff, beq_self_eq_true] at hK ⊢
    rw [f7, f10] at hK ⊢
    clear f7 f10
    go_wp2_with (fail)
    exact hK _ _ (by (repeat' (first | assumption | exact Below.refl _ _ | apply Blw.alloc | apply Blw.drew | apply Blw.drewN | (refine Blw.after ?_ (by assumption)) | (refine Blw.set ?_ (by first | (dsimp only; omega) | (simp; done) | (simp; omega)) _)))) rfl
  intro u w2 hH hF hne
  have hH1 := hH.1
  have hH2 := hH.2.2.2
  simp only [allFacts, SlotFact.h] at hF
  obtain ⟨f5, f6, f7, f8, f9, f10, f11, -⟩ := hF
  simp only [setU, upd, List.map_cons, List.map_nil, List.contains_cons, List.contains_nil, Nat.reduceBEq, Nat.reduceAdd, Bool.or_false, Bool.false_or, Bool.or_true, Bool.true_or, Bool.false_eq_true, if_false, if_true, ite_true, ite_false, Nat.reduceEqDiff, beq_self_eq_true]
  rw [f5, f6, f7, f8, f9, f10, f11]
  clear f5 f6 f7 f8 f9 f10 f11 hne
  refine wpListS_true ?_
  go_wp2_with fail
  have hb2 : Below w.heap.size w w2 := by (repeat' (first | assumption | exact Below.refl _ _ | apply Blw.alloc | apply Blw.drew | apply Blw.drewN | (refine Blw.after ?_ (by assumption)) | (refine Blw.set ?_ (by first | (dsimp only; omega) | (simp; done) | (simp; omega)) _)))
  have k1 : w2.cell? ⟨g, o + 1, none⟩ = some (encP y) := keepcell hb2 h1
  have k2 : w2.cell? ⟨g, o + 2, none⟩ = some (encP z) := keepcell hb2 h2
  have Lg2 : g < w2.heap.size := World.block_lt_of_cell? w2 _ k1
  have HB2 := Lib.hid hb2
  clear h0 h1 h2 hb2 hH hH1 hH2
  generalize w2 = wx at *
  refine region_slots (fun _ => True) [] [(12, .is (.slice (some ⟨g, o, none⟩) 3 c)), (13, .is (.pointer (some ⟨g, o + 2, none⟩))), (14, .is (encP z)), (15, .is (.slice (some ⟨g, o, none⟩) 3 c)), (16, .is (.pointer (some ⟨g, o + 1, none⟩))), (17, .is (encP y)), (18, .is (encP t))] (by kernel_rfl) (by kernel_rfl) (by kernel_rfl) (fun _ _ => trivial) (fun _ _ _ _ _ _ h => h) ?_
  simp only [Steps, List.contains_cons, List.contains_nil, Nat.reduceBEq, Nat.reduceAdd, Bool.or_false, Bool.false_or, Bool.or_true, Bool.true_or, Bool.false_eq_true, if_false, if_true]
  refine ⟨?_, ?_, ?_, ?_, ?_, ?_, ?_, ?_⟩
  · intro u w2 hH hd K hK
    simp only [setU, upd, List.map_cons, List.map_nil, List.contains_cons, List.contains_nil, Nat.reduceBEq, Nat.reduceAdd, Bool.or_false, Bool.false_or, Bool.or_true, Bool.true_or, Bool.false_eq_true, if_false, if_true, ite_true, ite_false, Nat.reduceEqDiff, beq_self_eq_true] at hK ⊢
    go_wp2_with (fail)
    exact hK _ _ (by (repeat' (first | assumption | exact Below.refl _ _ | apply Blw.alloc | apply Blw.drew | apply Blw.drewN | (refine Blw.after ?_ (by assumption)) | (refine Blw.set ?_ (by first | (dsimp only; omega) | (simp; done) | (simp; omega)) _)))) rfl
  · intro u w2 hH hd K hK
    have f12 : u 12 = (.slice (some ⟨g, o, none⟩) 3 c) := hd 12 (by kernel_rfl)
    simp only [setU, upd, List.map_cons, List.map_nil, List.contains_cons, List.contains_nil, Nat.reduceBEq, Nat.reduceAdd, Bool.or_false, Bool.false_or, Bool.or_true, Bool.true_or, Bool.false_eq_true, if_false, if_true, ite_true, ite_false, Nat.reduceEqDiff, beq_self_eq_true] at hK ⊢
    rw [f12] at hK ⊢
    clear f12
    go_wp2_with (fail)
    exact hK _ _ (by (repeat' (first | assumption | exact Below.refl _ _ | apply Blw.alloc | apply Blw.drew | apply Blw.drewN | (refine Blw.after ?_ (by assumption)) | (refine Blw.set ?_ (by first | (dsimp only; omega) | (simp; done) | (simp; omega)) _)))) rfl
  · intro u w2 hH hd K hK
    have f13 : u 13 = (.pointer (some ⟨g, o + 2, none⟩)) := hd 13 (by kernel_rfl)
    simp only [setU, upd, List.map_cons, List.map_nil, List.contains_cons, List.contains_nil, Nat.reduceBEq, Nat.reduceAdd, Bool.or_false, Bool.false_or, Bool.or_true, Bool.true_or, Bool.false_eq_true, if_false, if_true, ite_true, ite_false, Nat.reduceEqDiff, beq_self_eq_true] at hK ⊢
    rw [f13] at hK ⊢
    clear f13
    go_wp2_with (fail)
    exact hK _ _ (by (repeat' (first | assumption | exact Below.refl _ _ | apply Blw.alloc | apply Blw.drew | apply Blw.drewN | (refine Blw.after ?_ (by assumption)) | (refine Blw.set ?_ (by first | (dsimp only; omega) | (simp; done) | (simp; omega)) _)))) rfl
  · intro u w2 hH hd K hK
    simp only [setU, upd, List.map_cons, List.map_nil, List.contains_cons, List.contains_nil, Nat.reduceBEq, Nat.reduceAdd, Bool.or_false, Bool.false_or, Bool.or_true, Bool.true_or, Bool.false_eq_true, if_false, if_true, ite_true, ite_false, Nat.reduceEqDiff, beq_self_eq_true] at hK ⊢
    go_wp2_with (fail)
    exact hK _ _ (by (repeat' (first | assumption | exact Below.refl _ _ | apply Blw.alloc | apply Blw.drew | apply Blw.drewN | (refine Blw.after ?_ (by assumption)) | (refine Blw.set ?_ (by first | (dsimp only; omega) | (simp; done) | (simp; omega)) _)))) rfl
  · intro u w2 hH hd K hK
    have f15 : u 15 = (.slice (some ⟨g, o, none⟩) 3 c) := hd 15 (by kernel_rfl)
    simp only [setU, upd, List.map_cons, List.map_nil, List.contains_cons, List.contains_nil, Nat.reduceBEq, Nat.reduceAdd, Bool.or_false, Bool.false_or, Bool.or_true, Bool.true_or, Bool.false_eq_true, if_false, if_true, ite_true, ite_false, Nat.reduceEqDiff, beq_self_eq_true] at hK ⊢
    rw [f15] at hK ⊢
    clear f15
    go_wp2_with (fail)
    exact hK _ _ (by (repeat' (first | assumption | exact Below.refl _ _ | apply Blw.alloc | apply Blw.drew | apply Blw.drewN | (refine Blw.after ?_ (by assumption)) | (refine Blw.set ?_ (by first | (dsimp only; omega) | (simp; done) | (simp; omega)) _)))) rfl
  · intro u w2 hH hd K hK
    have f16 : u 16 = (.pointer (some ⟨g, o + 1, none⟩)) := hd 16 (by kernel_rfl)
    simp only [setU, upd, List.map_cons, List.map_nil, List.contains_cons, List.contains_nil, Nat.reduceBEq, Nat.reduceAdd, Bool.or_false, Bool.false_or, Bool.or_true, Bool.true_or, Bool.false_eq_true, if_false, if_true, ite_true, ite_false, Nat.reduceEqDiff, beq_self_eq_true] at hK ⊢
    rw [f16] at hK ⊢
    clear f16
    go_wp2_with (fail)
    exact hK _ _ (by (repeat' (first | assumption | exact Below.refl _ _ | apply Blw.alloc | apply Blw.drew | apply Blw.drewN | (refine Blw.after ?_ (by assumption)) | (refine Blw.set ?_ (by first | (dsimp only; omega) | (simp; done) | (simp; omega)) _)))) rfl
  · intro u w2 hH hd K hK
    have f14 : u 14 = (encP z) := hd 14 (by kernel_rfl)
    have f17 : u 17 = (encP y) := hd 17 (by kernel_rfl)
    simp only [setU, upd, List.map_cons, List.map_nil, List.contains_cons, List.contains_nil, Nat.reduceBEq, Nat.reduceAdd, Bool.or_false, Bool.false_or, Bool.or_true, Bool.true_or, Bool.false_eq_true, if_false, if_true, ite_true, ite_false, Nat.reduceEqDiff, beq_self_eq_true] at hK ⊢
    rw [f14, f17] at hK ⊢
    clear f14 f17
    go_wp2_with (fail)
    exact hK _ _ (by (repeat' (first | assumption | exact Below.refl _ _ | apply Blw.alloc | apply Blw.drew | apply Blw.drewN | (refine Blw.after ?_ (by assumption)) | (refine Blw.set ?_ (by first | (dsimp only; omega) | (simp; done) | (simp; omega)) _)))) rfl
  intro u w2 hH hF hne
  have hH1 := hH.1
  have hH2 := hH.2.2.2
  simp only [allFacts, SlotFact.h] at hF
  obtain ⟨f12, f13, f14, f15, f16, f17, f18, -⟩ := hF
  simp only [setU, upd, List.map_cons, List.map_nil, List.contains_cons, List.contains_nil, Nat.reduceBEq, Nat.reduceAdd, Bool.or_false, Bool.false_or, Bool.or_true, Bool.true_or, Bool.false_eq_true, if_false, if_true, ite_true, ite_false, Nat.reduceEqDiff, beq_self_eq_true]
  rw [f12, f13, f14, f15, f16, f17, f18]
  clear f12 f13 f14 f15 f16 f17 f18 hne
  refine wpListS_true ?_
  have HB3 := Lib.hid (show Below w.heap.size w w2 from Blw.after HB2.out (by (repeat' (first | assumption | exact Below.refl _ _ | apply Blw.alloc | apply Blw.drew | apply Blw.drewN | (refine Blw.after ?_ (by assumption)) | (refine Blw.set ?_ (by first | (dsimp only; omega) | (simp; done) | (simp; omega)) _)))))
  rcases HL with ⟨hl, e1⟩ | ⟨hl, e1, e2⟩ | ⟨hl, e1, e2⟩
  all_goals
    have HLL := Lib.hid hl
    clear hl
    go_wp2_with fail
    go_ret2
    exact ⟨by rw [HLL.out]; rfl, HB3.out⟩
end Go.Proofs.Ytljmmmkehieboaa

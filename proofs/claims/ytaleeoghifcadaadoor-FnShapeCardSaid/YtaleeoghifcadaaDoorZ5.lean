/- Merged texts: Sg Th DVal Tk Ty Draw DrawB DrawY BaseP Sh Bo Tu Tr Te Tg. No law is stated here. -/
import Derived.Test.YtaleeoghifcadaaDoorRows
import Derived.WalkKit
import Derived.ProofKit
import Derived.WalkSpells
import Derived.WalkLawsBesides
import Derived.Lib.Hide
import Derived.Laws.ResultCell
import Derived.Deep.QuietTactic
import Derived.BigQuiet
import Derived.Outline
import Derived.ChangeSame
import Derived.JoinedOf
import Derived.JoinedAt
import Derived.RowKit3
import Derived.Lib.SmallJoins
import Derived.ChangeSlices
import Derived.Carry
import Derived.Test.YtaleeoghifcadaaDoorShelf
import Derived.Deep.AppendLies
import Derived.Deep.Cut
import Derived.Shelf.SlMaps.Clone
import Derived.Test.YtaleeoghifcadaaDoorZ4
namespace Go.Proofs.YtaleeoghifcadaaDoor
set_option linter.unusedSimpArgs false
set_option linter.unusedVariables false
open Go.RowKit

def EqGRel (l : List (Int × Int)) (w : World) (m : Nat) (i : Value) (wr : World) : Prop := ∃ k : Nat, k + m = l.length ∧ i = .int .i64 k ∧ Below w.heap.size w wr
set_option maxRecDepth 100000 in
set_option maxHeartbeats 4000000 in
theorem sameGauss_c (a a' : Option Addr) (c c' : Nat) (l : List (Int × Int)) (w : World) (hl : l.length ≤ 1000) (h : GSl a l w) (h' : GSl a' l w) : Calls Tryd.prog 24 #[.slice a l.length c, .slice a' l.length c'] w fun e w' => e = .returned (.bool true) ∧ Below w.heap.size w w' := by
  have H1 := Lib.hid h
  have H2 := Lib.hid h'
  clear h h'
  go_enter Tryd.func24, Tryd.ntmps24
  go_wp2_with fail
  go_loopg [5] l.length (fun m i wr => EqGRel l w m i wr)
  case atStart => exact ⟨0, by omega, rfl, Below.refl _ _⟩
  case round =>
    obtain ⟨k, hk, rfl, hB⟩ := hrel
    by_cases hlt : k < l.length
    · obtain ⟨x, y, hxy⟩ : ∃ x y, l[k]? = some (x, y) := ⟨l[k].1, l[k].2, by rw [List.getElem?_eq_getElem hlt]⟩
      have HG1 := H1.out.keep hB
      have HG2 := H2.out.keep hB
      rcases HG1 with h0 | ⟨g, rfl, hg⟩
      · subst h0; simp at hlt
      rcases HG2 with h0 | ⟨g', rfl, hg'⟩
      · subst h0; simp at hlt
      obtain ⟨c0, c1⟩ := hg k x y hxy
      obtain ⟨d0, d1⟩ := hg' k x y hxy
      have Lg : g < wr.heap.size := World.block_lt_of_cell? wr _ c0
      have Lg' : g' < wr.heap.size := World.block_lt_of_cell? wr _ d0
      clear hg hg' hxy
      go_wp2_with fail
      refine region_slots (fun _ => True) [] [(17, .is (.slice (some ⟨g, 0, none⟩) l.length c)), (18, .is (.int .i64 k)), (19, .is (.pointer (some ⟨g, k * 2, none⟩))), (20, .is (pr x y)), (21, .is (.slice (some ⟨g', 0, none⟩) l.length c')), (22, .is (.int .i64 k)), (23, .is (.pointer (some ⟨g', k * 2, none⟩))), (24, .is (pr x y)), (25, .is (.bool false))] (by kernel_rfl) (by kernel_rfl) (by kernel_rfl) (fun _ _ => trivial) (fun _ _ _ _ _ _ h => h) ?_
      simp only [Steps, List.contains_cons, List.contains_nil, Nat.reduceBEq, Nat.reduceAdd, Bool.or_false, Bool.false_or, Bool.or_true, Bool.true_or, Bool.false_eq_true, if_false, if_true]
      refine ⟨?_, ?_, ?_, ?_, ?_, ?_, ?_, ?_, ?_, ?_⟩
      · intro u w2 hH hd K hK
        simp only [setU, upd, List.map_cons, List.map_nil, List.contains_cons, List.contains_nil, Nat.reduceBEq, Nat.reduceAdd, Bool.or_false, Bool.false_or, Bool.or_true, Bool.true_or, Bool.false_eq_true, if_false, if_true, ite_true, ite_false, Nat.reduceEqDiff, beq_self_eq_true] at hK ⊢
        go_wp2_with (fail)
        exact hK _ _ (by (first | ((repeat' with_reducible first | assumption | exact Below.refl _ _ | apply Blw.alloc | apply Blw.drew | apply Blw.drewN | (refine Blw.after ?_ (by assumption)) | (refine Blw.set ?_ (by first | (dsimp only; omega) | (simp; omega)) _)); done) | (repeat' (first | assumption | exact Below.refl _ _ | apply Blw.alloc | apply Blw.drew | apply Blw.drewN | (refine Blw.after ?_ (by assumption)) | (refine Blw.set ?_ (by first | (dsimp only; omega) | (simp; done) | (simp; omega)) _))))) rfl
      · intro u w2 hH hd K hK
        simp only [setU, upd, List.map_cons, List.map_nil, List.contains_cons, List.contains_nil, Nat.reduceBEq, Nat.reduceAdd, Bool.or_false, Bool.false_or, Bool.or_true, Bool.true_or, Bool.false_eq_true, if_false, if_true, ite_true, ite_false, Nat.reduceEqDiff, beq_self_eq_true] at hK ⊢
        go_wp2_with (fail)
        exact hK _ _ (by (first | ((repeat' with_reducible first | assumption | exact Below.refl _ _ | apply Blw.alloc | apply Blw.drew | apply Blw.drewN | (refine Blw.after ?_ (by assumption)) | (refine Blw.set ?_ (by first | (dsimp only; omega) | (simp; omega)) _)); done) | (repeat' (first | assumption | exact Below.refl _ _ | apply Blw.alloc | apply Blw.drew | apply Blw.drewN | (refine Blw.after ?_ (by assumption)) | (refine Blw.set ?_ (by first | (dsimp only; omega) | (simp; done) | (simp; omega)) _))))) rfl
      · intro u w2 hH hd K hK
        have f17 : u 17 = (.slice (some ⟨g, 0, none⟩) l.length c) := hd 17 (by kernel_rfl)
        have f18 : u 18 = (.int .i64 k) := hd 18 (by kernel_rfl)
        simp only [setU, upd, List.map_cons, List.map_nil, List.contains_cons, List.contains_nil, Nat.reduceBEq, Nat.reduceAdd, Bool.or_false, Bool.false_or, Bool.or_true, Bool.true_or, Bool.false_eq_true, if_false, if_true, ite_true, ite_false, Nat.reduceEqDiff, beq_self_eq_true] at hK ⊢
        rw [f17, f18] at hK ⊢
        clear f17 f18
        go_wp2_with (fail)
        exact hK _ _ (by (first | ((repeat' with_reducible first | assumption | exact Below.refl _ _ | apply Blw.alloc | apply Blw.drew | apply Blw.drewN | (refine Blw.after ?_ (by assumption)) | (refine Blw.set ?_ (by first | (dsimp only; omega) | (simp; omega)) _)); done) | (repeat' (first | assumption | exact Below.refl _ _ | apply Blw.alloc | apply Blw.drew | apply Blw.drewN | (refine Blw.after ?_ (by assumption)) | (refine Blw.set ?_ (by first | (dsimp only; omega) | (simp; done) | (simp; omega)) _))))) rfl
      · intro u w2 hH hd K hK
        have f19 : u 19 = (.pointer (some ⟨g, k * 2, none⟩)) := hd 19 (by kernel_rfl)
        simp only [setU, upd, List.map_cons, List.map_nil, List.contains_cons, List.contains_nil, Nat.reduceBEq, Nat.reduceAdd, Bool.or_false, Bool.false_or, Bool.or_true, Bool.true_or, Bool.false_eq_true, if_false, if_true, ite_true, ite_false, Nat.reduceEqDiff, beq_self_eq_true] at hK ⊢
        rw [f19] at hK ⊢
        clear f19
        go_wp2_with (fail)
        exact hK _ _ (by (first | ((repeat' with_reducible first | assumption | exact Below.refl _ _ | apply Blw.alloc | apply Blw.drew | apply Blw.drewN | (refine Blw.after ?_ (by assumption)) | (refine Blw.set ?_ (by first | (dsimp only; omega) | (simp; omega)) _)); done) | (repeat' (first | assumption | exact Below.refl _ _ | apply Blw.alloc | apply Blw.drew | apply Blw.drewN | (refine Blw.after ?_ (by assumption)) | (refine Blw.set ?_ (by first | (dsimp only; omega) | (simp; done) | (simp; omega)) _))))) rfl
      · intro u w2 hH hd K hK
        simp only [setU, upd, List.map_cons, List.map_nil, List.contains_cons, List.contains_nil, Nat.reduceBEq, Nat.reduceAdd, Bool.or_false, Bool.false_or, Bool.or_true, Bool.true_or, Bool.false_eq_true, if_false, if_true, ite_true, ite_false, Nat.reduceEqDiff, beq_self_eq_true] at hK ⊢
        go_wp2_with (fail)
        exact hK _ _ (by (first | ((repeat' with_reducible first | assumption | exact Below.refl _ _ | apply Blw.alloc | apply Blw.drew | apply Blw.drewN | (refine Blw.after ?_ (by assumption)) | (refine Blw.set ?_ (by first | (dsimp only; omega) | (simp; omega)) _)); done) | (repeat' (first | assumption | exact Below.refl _ _ | apply Blw.alloc | apply Blw.drew | apply Blw.drewN | (refine Blw.after ?_ (by assumption)) | (refine Blw.set ?_ (by first | (dsimp only; omega) | (simp; done) | (simp; omega)) _))))) rfl
      · intro u w2 hH hd K hK
        simp only [setU, upd, List.map_cons, List.map_nil, List.contains_cons, List.contains_nil, Nat.reduceBEq, Nat.reduceAdd, Bool.or_false, Bool.false_or, Bool.or_true, Bool.true_or, Bool.false_eq_true, if_false, if_true, ite_true, ite_false, Nat.reduceEqDiff, beq_self_eq_true] at hK ⊢
        go_wp2_with (fail)
        exact hK _ _ (by (first | ((repeat' with_reducible first | assumption | exact Below.refl _ _ | apply Blw.alloc | apply Blw.drew | apply Blw.drewN | (refine Blw.after ?_ (by assumption)) | (refine Blw.set ?_ (by first | (dsimp only; omega) | (simp; omega)) _)); done) | (repeat' (first | assumption | exact Below.refl _ _ | apply Blw.alloc | apply Blw.drew | apply Blw.drewN | (refine Blw.after ?_ (by assumption)) | (refine Blw.set ?_ (by first | (dsimp only; omega) | (simp; done) | (simp; omega)) _))))) rfl
      · intro u w2 hH hd K hK
        have f21 : u 21 = (.slice (some ⟨g', 0, none⟩) l.length c') := hd 21 (by kernel_rfl)
        have f22 : u 22 = (.int .i64 k) := hd 22 (by kernel_rfl)
        simp only [setU, upd, List.map_cons, List.map_nil, List.contains_cons, List.contains_nil, Nat.reduceBEq, Nat.reduceAdd, Bool.or_false, Bool.false_or, Bool.or_true, Bool.true_or, Bool.false_eq_true, if_false, if_true, ite_true, ite_false, Nat.reduceEqDiff, beq_self_eq_true] at hK ⊢
        rw [f21, f22] at hK ⊢
        clear f21 f22
        go_wp2_with (fail)
        exact hK _ _ (by (first | ((repeat' with_reducible first | assumption | exact Below.refl _ _ | apply Blw.alloc | apply Blw.drew | apply Blw.drewN | (refine Blw.after ?_ (by assumption)) | (refine Blw.set ?_ (by first | (dsimp only; omega) | (simp; omega)) _)); done) | (repeat' (first | assumption | exact Below.refl _ _ | apply Blw.alloc | apply Blw.drew | apply Blw.drewN | (refine Blw.after ?_ (by assumption)) | (refine Blw.set ?_ (by first | (dsimp only; omega) | (simp; done) | (simp; omega)) _))))) rfl
      · intro u w2 hH hd K hK
        have f23 : u 23 = (.pointer (some ⟨g', k * 2, none⟩)) := hd 23 (by kernel_rfl)
        simp only [setU, upd, List.map_cons, List.map_nil, List.contains_cons, List.contains_nil, Nat.reduceBEq, Nat.reduceAdd, Bool.or_false, Bool.false_or, Bool.or_true, Bool.true_or, Bool.false_eq_true, if_false, if_true, ite_true, ite_false, Nat.reduceEqDiff, beq_self_eq_true] at hK ⊢
        rw [f23] at hK ⊢
        clear f23
        go_wp2_with (fail)
        exact hK _ _ (by (first | ((repeat' with_reducible first | assumption | exact Below.refl _ _ | apply Blw.alloc | apply Blw.drew | apply Blw.drewN | (refine Blw.after ?_ (by assumption)) | (refine Blw.set ?_ (by first | (dsimp only; omega) | (simp; omega)) _)); done) | (repeat' (first | assumption | exact Below.refl _ _ | apply Blw.alloc | apply Blw.drew | apply Blw.drewN | (refine Blw.after ?_ (by assumption)) | (refine Blw.set ?_ (by first | (dsimp only; omega) | (simp; done) | (simp; omega)) _))))) rfl
      · intro u w2 hH hd K hK
        have f20 : u 20 = (pr x y) := hd 20 (by kernel_rfl)
        have f24 : u 24 = (pr x y) := hd 24 (by kernel_rfl)
        simp only [setU, upd, List.map_cons, List.map_nil, List.contains_cons, List.contains_nil, Nat.reduceBEq, Nat.reduceAdd, Bool.or_false, Bool.false_or, Bool.or_true, Bool.true_or, Bool.false_eq_true, if_false, if_true, ite_true, ite_false, Nat.reduceEqDiff, beq_self_eq_true] at hK ⊢
        rw [f20, f24] at hK ⊢
        clear f20 f24
        go_wp2_with (fail)
        exact hK _ _ (by (first | ((repeat' with_reducible first | assumption | exact Below.refl _ _ | apply Blw.alloc | apply Blw.drew | apply Blw.drewN | (refine Blw.after ?_ (by assumption)) | (refine Blw.set ?_ (by first | (dsimp only; omega) | (simp; omega)) _)); done) | (repeat' (first | assumption | exact Below.refl _ _ | apply Blw.alloc | apply Blw.drew | apply Blw.drewN | (refine Blw.after ?_ (by assumption)) | (refine Blw.set ?_ (by first | (dsimp only; omega) | (simp; done) | (simp; omega)) _))))) rfl
      intro u w2 hH hF hne
      have hH1 := hH.1
      have hH2 := hH.2.2.2
      simp only [allFacts, SlotFact.h] at hF
      obtain ⟨f17, f18, f19, f20, f21, f22, f23, f24, f25, -⟩ := hF
      simp only [setU, upd, List.map_cons, List.map_nil, List.contains_cons, List.contains_nil, Nat.reduceBEq, Nat.reduceAdd, Bool.or_false, Bool.false_or, Bool.or_true, Bool.true_or, Bool.false_eq_true, if_false, if_true, ite_true, ite_false, Nat.reduceEqDiff, beq_self_eq_true]
      rw [f17, f18, f19, f20, f21, f22, f23, f24, f25]
      clear f17 f18 f19 f20 f21 f22 f23 f24 f25 hne
      refine wpListS_true ?_
      go_wp2
      go_roundg (gk - 1)
      case measure => omega
      case rel => exact ⟨k + 1, by omega, by go_num, by (first | ((repeat' with_reducible first | assumption | exact Below.refl _ _ | apply Blw.alloc | apply Blw.drew | apply Blw.drewN | (refine Blw.after ?_ (by assumption)) | (refine Blw.set ?_ (by first | (dsimp only; omega) | (simp; omega)) _)); done) | (repeat' (first | assumption | exact Below.refl _ _ | apply Blw.alloc | apply Blw.drew | apply Blw.drewN | (refine Blw.after ?_ (by assumption)) | (refine Blw.set ?_ (by first | (dsimp only; omega) | (simp; done) | (simp; omega)) _))))⟩
    · go_wp2
      go_ret
      exact ⟨rfl, hB⟩
end Go.Proofs.YtaleeoghifcadaaDoor

namespace Go.Proofs.YtaleeoghifcadaaDoor
set_option linter.unusedSimpArgs false
set_option linter.unusedVariables false
open Go.RowKit

theorem spV_shape (a x y : Int) : ∃ q1 q2 r1 r2 b, spV a x y = .tuple #[pr q1 q2, pr r1 r2, .bool b] ∧ hasT a x y = (b && (decide (q1 = 0) && decide (q2 = 0))) := by
  refine ⟨_, _, _, _, _, rfl, ?_⟩
  unfold hasT
  rcases Bool.eq_false_or_eq_true (okT a x y) with h | h
  · rw [h, Bool.true_and, Bool.true_and, Bool.eq_iff_iff, sel_t, sel_t]
    simp only [Bool.and_eq_true, decide_eq_true_eq]
    exact ⟨fun h => by rw [h]; exact ⟨rfl, rfl⟩, fun h => Prod.ext h.1 h.2⟩
  · rw [h]; rfl
set_option maxRecDepth 100000 in
set_option maxHeartbeats 2000000 in
theorem iTileHas_c (a x y : Int) (w : World) : Calls Tryd.prog 15 #[.int .i64 a, pr x y] w fun e w' => e = .returned (.bool (hasT a x y)) ∧ Below w.heap.size w w' := by
  obtain ⟨q1, q2, r1, r2, b, h1, h2⟩ := spV_shape a x y
  have HS := Lib.hid (fun w => iTileSplit_c a x y w)
  rw [h1] at HS
  have HV := Lib.hid h2
  clear h1 h2
  by_cases hX : q1 = 0
  all_goals by_cases hY : q2 = 0
  all_goals cases b
  all_goals
    (try subst hX)
    (try subst hY)
    go_enter Tryd.func15, Tryd.ntmps15
    go_wp2_with fail
    generalize hW : World.alloc _ _ = W0
    have kW0_1 : W0.cell? ⟨w.heap.size, 0, none⟩ = some (.int .i64 (x)) := by rw [← hW]; clear hW; first | (go_simp; done) | ((repeat refine keepcell ((Below.refl _ _).alloc (Nat.le_refl _) _) ?_); go_simp; done) | (simp only [frozen?_alloc_cells]; go_simp; done)
    have kW0_2 : W0.cell? ⟨w.heap.size, 1, none⟩ = some (.int .i64 (y)) := by rw [← hW]; clear hW; first | (go_simp; done) | ((repeat refine keepcell ((Below.refl _ _).alloc (Nat.le_refl _) _) ?_); go_simp; done) | (simp only [frozen?_alloc_cells]; go_simp; done)
    have : w.heap.size < W0.heap.size := World.block_lt_of_cell? W0 ⟨w.heap.size, 0, none⟩ (by assumption)
    have hBW0 : Below w.heap.size w W0 := by rw [← hW]; (first | ((repeat' with_reducible first | assumption | exact Below.refl _ _ | apply Blw.alloc | apply Blw.drew | apply Blw.drewN | (refine Blw.after ?_ (by assumption)) | (refine Blw.set ?_ (by first | (dsimp only; omega) | (simp; omega)) _)); done) | (repeat' (first | assumption | exact Below.refl _ _ | apply Blw.alloc | apply Blw.drew | apply Blw.drewN | (refine Blw.after ?_ (by assumption)) | (refine Blw.set ?_ (by first | (dsimp only; omega) | (simp; done) | (simp; omega)) _))))
    have hsW0 := hBW0.size
    clear hW
    go_wp2_with (fail)
    refine (HS.out _).mono ?_
    rintro e wA ⟨rfl, hbwA⟩
    have hkwA : Hld W0 wA := heldM (by (first | ((repeat' with_reducible first | assumption | exact Below.refl _ _ | apply Blw.alloc | apply Blw.drew | apply Blw.drewN | (refine Blw.after ?_ (by assumption)) | (refine Blw.set ?_ (by first | (dsimp only; omega) | (simp; omega)) _)); done) | (repeat' (first | assumption | exact Below.refl _ _ | apply Blw.alloc | apply Blw.drew | apply Blw.drewN | (refine Blw.after ?_ (by assumption)) | (refine Blw.set ?_ (by first | (dsimp only; omega) | (simp; done) | (simp; omega)) _)))))
    have hlwA := hkwA.1
    have hswA := hkwA.2.2.2
    try (have : w.heap.size < wA.heap.size := by omega)
    go_wp2_with fail
    go_ret
    exact ⟨by rw [HV.out]; simp [*], by (first | ((repeat' with_reducible first | assumption | exact Below.refl _ _ | apply Blw.alloc | apply Blw.drew | apply Blw.drewN | (refine Blw.after ?_ (by assumption)) | (refine Blw.set ?_ (by first | (dsimp only; omega) | (simp; omega)) _)); done) | (repeat' (first | assumption | exact Below.refl _ _ | apply Blw.alloc | apply Blw.drew | apply Blw.drewN | (refine Blw.after ?_ (by assumption)) | (refine Blw.set ?_ (by first | (dsimp only; omega) | (simp; done) | (simp; omega)) _))))⟩
end Go.Proofs.YtaleeoghifcadaaDoor

namespace Go.Proofs.YtaleeoghifcadaaDoor
set_option linter.unusedSimpArgs false
set_option linter.unusedVariables false

/-! ### powers of the base -/
def bX : Nat → Int × Int
  | 0 => (1, 0)
  | k + 1 => (-(bX k).1 - (bX k).2, (bX k).1 - (bX k).2)
def pX (k : Nat) : Int := (bX k).1
def pY (k : Nat) : Int := (bX k).2
theorem pX_zero : pX 0 = 1 := rfl
theorem pY_zero : pY 0 = 0 := rfl
theorem pX_succ (k : Nat) : pX (k + 1) = -pX k - pY k := rfl
theorem pY_succ (k : Nat) : pY (k + 1) = pX k - pY k := rfl
/-- one more digit ahead -/
theorem val_cons (d : UInt8) (l : List UInt8) : valX (d :: l) = valX l + pX l.length * dg d ∧ valY (d :: l) = valY l + pY l.length * dg d := by
  induction l using rev_ind with
  | h0 =>
    have e : (d :: [] : List UInt8) = [] ++ [d] := rfl
    rw [e, valX_snoc, valY_snoc, valX_nil, valY_nil]
    simp [pX_zero, pY_zero]
  | h1 l c ih =>
    have e : (d :: (l ++ [c]) : List UInt8) = (d :: l) ++ [c] := rfl
    rw [e, valX_snoc, valY_snoc, ih.1, ih.2, valX_snoc, valY_snoc, List.length_append, List.length_singleton, pX_succ, pY_succ]
    constructor <;> grind
/-- noughts behind -/
theorem val_zeros (l : List UInt8) (z : Nat) : valX (l ++ List.replicate z 48) = pX z * valX l - pY z * valY l ∧ valY (l ++ List.replicate z 48) = pX z * valY l + pY z * valX l := by
  induction z with
  | zero => simp [pX_zero, pY_zero]
  | succ z ih =>
    have e : l ++ List.replicate (z + 1) 48 = (l ++ List.replicate z 48) ++ [48] := by rw [List.replicate_succ', List.append_assoc]
    have h0 : dg 48 = 0 := rfl
    rw [e, valX_snoc, valY_snoc, ih.1, ih.2, pX_succ, pY_succ, h0]
    constructor <;> grind

/-! ### one expansion a value -/
theorem head_bit {l : List UInt8} (h : ∀ c ∈ l, bitC c = true) (hn : l ≠ []) (h48 : l.head? ≠ some 48) : l.head? = some 49 := by
  cases l with
  | nil => exact absurd rfl hn
  | cons a r =>
    have hc := (bitC_iff a).1 (h a (by simp))
    simp at h48 ⊢
    rcases hc with hc | hc
    · exact absurd (UInt8.toNat_inj.1 (by rw [hc]; rfl)) h48
    · exact UInt8.toNat_inj.1 (by rw [hc]; rfl)
theorem dgs_valV : ∀ (l : List UInt8), (∀ c ∈ l, bitC c = true) → (l = [] ∨ l.head? = some 49) → dgs (valX l) (valY l) = l.reverse := by
  intro l
  induction l using rev_ind with
  | h0 => intro _ _; rw [valX_nil, valY_nil, dgs_zero]; rfl
  | h1 l c ih =>
    intro hb hh
    have hc := dg_bit (hb c (by simp))
    have hbl : ∀ c ∈ l, bitC c = true := fun c hc => hb c (by simp [hc])
    have hhl : l = [] ∨ l.head? = some 49 := by
      cases l with
      | nil => exact Or.inl rfl
      | cons a r => right; rcases hh with h | h; simp at h; simpa using h
    have h := ih hbl hhl
    have hd : dg c = 0 ∨ dg c = 1 := by omega
    have hz : ¬ (valX (l ++ [c]) = 0 ∧ valY (l ++ [c]) = 0) := by
      rintro ⟨z1, z2⟩
      rw [valX_snoc] at z1
      rw [valY_snoc] at z2
      have e0 : valX l = 0 := by omega
      have e1 : valY l = 0 := by omega
      have e2 : dg c = 0 := by omega
      rw [e0, e1, dgs_zero] at h
      have hl : l = [] := by simpa using h.symm
      subst hl
      rcases hh with h | h
      · simp at h
      · simp at h; subst h; exact absurd e2 (by decide)
    rw [dgs_step hz, valX_snoc, valY_snoc, lastD_of _ _ _ hd, nX_of _ _ _ hd, nY_of _ _ _ hd, h, bitc_dg (hb c (by simp)), List.reverse_append]
    rfl
theorem valF_leadV (r : List UInt8) : valF (48 :: r) = valF r := by
  have h := val_cons 48 r
  have h0 : dg 48 = 0 := rfl
  rw [h0, Int.mul_zero, Int.add_zero, Int.mul_zero, Int.add_zero] at h
  exact Prod.ext h.1 h.2
theorem valF_stripV : ∀ l : List UInt8, valF (strip l) = valF l
  | [] => rfl
  | [c] => rfl
  | c :: d :: r => by
    unfold strip
    split
    · rename_i h; subst h; rw [valF_stripV (d :: r), valF_leadV]
    · rfl
/-- the expansion of a value -/
def expL (x y : Int) : List UInt8 := (dgs1 x y).reverse
theorem strip_val {l : List UInt8} (h : ∀ c ∈ l, bitC c = true) (hn : l ≠ []) : strip l = expL (valX l) (valY l) := by
  have e : valF (strip l) = valF l := valF_stripV l
  have ex : valX (strip l) = valX l := by unfold valX; rw [e]
  have ey : valY (strip l) = valY l := by unfold valY; rw [e]
  rw [← ex, ← ey]
  rcases strip_head (l := l) with h1 | h1
  · rw [h1]; decide
  · have hb := strip_bits h
    have hne := strip_ne hn
    have h2 := head_bit hb hne h1
    have h3 := dgs_valV (strip l) hb (Or.inr h2)
    unfold expL dgs1
    rw [if_neg (by
      rintro ⟨z1, z2⟩
      rw [z1, z2, dgs_zero] at h3
      exact hne (by simpa using h3.symm)), h3, List.reverse_reverse]
theorem strip_of_vld {l : List UInt8} (hv : vldL l = true) : strip l = l := by
  obtain ⟨l1, l2, l3, l4⟩ := (vldL_iff l).1 hv
  cases l with
  | nil => rfl
  | cons c r =>
    cases r with
    | nil => rfl
    | cons d r =>
      have : c ≠ 48 := by
        rcases l3 with h | h
        · simp at h
        · simpa using h
      simp [strip, this]
/-- a valid list is the expansion of its value -/
theorem vld_exp {l : List UInt8} (hv : vldL l = true) : l = expL (valX l) (valY l) := by
  obtain ⟨l1, l2, l3, l4⟩ := (vldL_iff l).1 hv
  rw [← strip_val l4 (by intro e; rw [e] at l1; simp at l1), strip_of_vld hv]
theorem vld_unique {l m : List UInt8} (h1 : vldL l = true) (h2 : vldL m = true) (hx : valX l = valX m) (hy : valY l = valY m) : l = m := by
  rw [vld_exp h1, vld_exp h2, hx, hy]

/-! ### sums -/
/-- the value of the last digits -/
def sX (s : ByteArray) : Nat → Int
  | 0 => 0
  | k + 1 => sX s k + pX k * (dR s k : Nat)
def sY (s : ByteArray) : Nat → Int
  | 0 => 0
  | k + 1 => sY s k + pY k * (dR s k : Nat)
theorem dR_get {s : ByteArray} (hv : vldB s = true) {k : Nat} (hk : k < s.size) : ((dR s k : Nat) : Int) = dg (s[s.size - 1 - k]) := by
  have := vldB_at hv (s.size - 1 - k) (by omega)
  unfold dR dg
  rw [dif_pos hk]; omega
theorem s_drop {s : ByteArray} (hv : vldB s = true) : ∀ k, k ≤ s.size → sX s k = valX ((toL s).drop (s.size - k)) ∧ sY s k = valY ((toL s).drop (s.size - k)) := by
  intro k
  induction k with
  | zero =>
    intro _
    rw [Nat.sub_zero, List.drop_of_length_le (by rw [toL_len]; omega)]
    exact ⟨rfl, rfl⟩
  | succ k ih =>
    intro hk
    obtain ⟨i1, i2⟩ := ih (by omega)
    have hlt : s.size - (k + 1) < (toL s).length := by rw [toL_len]; omega
    have e : (toL s).drop (s.size - (k + 1)) = s[s.size - 1 - k] :: (toL s).drop (s.size - k) := by
      rw [List.drop_eq_getElem_cons hlt, show s.size - (k + 1) + 1 = s.size - k by omega]
      congr 1
      have h1 := toL_get s (s.size - 1 - k) (by omega)
      have h2 := List.getElem?_eq_getElem hlt
      have h3 : (toL s)[s.size - (k + 1)]? = (toL s)[s.size - 1 - k]? := by congr 1; omega
      rw [h3, h1] at h2
      exact (Option.some.inj h2).symm
    have hl : ((toL s).drop (s.size - k)).length = k := by rw [List.length_drop, toL_len]; omega
    obtain ⟨v1, v2⟩ := val_cons (s[s.size - 1 - k]) ((toL s).drop (s.size - k))
    rw [hl] at v1 v2
    rw [e, v1, v2, ← i1, ← i2, ← dR_get hv (by omega)]
    exact ⟨rfl, rfl⟩
theorem s_all {s : ByteArray} (hv : vldB s = true) : ∀ j, sX s (s.size + j) = valX (toL s) ∧ sY s (s.size + j) = valY (toL s)
  | 0 => by
    have h := s_drop hv s.size (Nat.le_refl _)
    rw [Nat.sub_self, List.drop_zero] at h
    exact h
  | j + 1 => by
    have h := s_all hv j
    have h0 : dR s (s.size + j) = 0 := dR_beyond (by omega)
    show sX s (s.size + j) + pX (s.size + j) * (dR s (s.size + j) : Nat) = _ ∧ sY s (s.size + j) + pY (s.size + j) * (dR s (s.size + j) : Nat) = _
    rw [h0]
    exact ⟨by rw [h.1]; simp, by rw [h.2]; simp⟩
theorem s_ge {s : ByteArray} (hv : vldB s = true) {k : Nat} (h : s.size ≤ k) : sX s k = valX (toL s) ∧ sY s k = valY (toL s) := by
  obtain ⟨j, rfl⟩ : ∃ j, k = s.size + j := ⟨k - s.size, by omega⟩
  exact s_all hv j
variable {a b : ByteArray}
theorem out_val (ha : vldB a = true) (hb : vldB b = true) : ∀ k, sX a k + sX b k = valX (outA a b k).reverse + (pX k * rowX (stA a b k) - pY k * rowY (stA a b k)) ∧
    sY a k + sY b k = valY (outA a b k).reverse + (pX k * rowY (stA a b k) + pY k * rowX (stA a b k)) := by
  intro k
  induction k with
  | zero =>
    have rx : rowX 0 = 0 := rfl
    have ry : rowY 0 = 0 := rfl
    have e0 : stA a b 0 = 0 := rfl
    have e1 : outA a b 0 = [] := rfl
    have e2 : sX a 0 = 0 := rfl
    have e3 : sX b 0 = 0 := rfl
    have e4 : sY a 0 = 0 := rfl
    have e5 : sY b 0 = 0 := rfl
    rw [e0, e1, e2, e3, e4, e5, rx, ry, List.reverse_nil, valX_nil, valY_nil, pX_zero, pY_zero]
    decide
  | succ k ih =>
    obtain ⟨i1, i2⟩ := ih
    obtain ⟨r1, r2, r3, r4⟩ := row_step (stA_lt ha hb k) (sm_lt ha hb k)
    have bx := back_x (rowX (stA a b k) + (sm a b k : Nat)) (rowY (stA a b k))
    have by' := back_y (rowX (stA a b k) + (sm a b k : Nat)) (rowY (stA a b k))
    rw [r2, r3, r4] at bx
    rw [r3, r4] at by'
    have e1 : outA a b (k + 1) = outA a b k ++ [rowD (stA a b k) (sm a b k)] := rfl
    have e2 : stA a b (k + 1) = rowN (stA a b k) (sm a b k) := rfl
    have e3 : sX a (k + 1) = sX a k + pX k * (dR a k : Nat) := rfl
    have e4 : sX b (k + 1) = sX b k + pX k * (dR b k : Nat) := rfl
    have e5 : sY a (k + 1) = sY a k + pY k * (dR a k : Nat) := rfl
    have e6 : sY b (k + 1) = sY b k + pY k * (dR b k : Nat) := rfl
    obtain ⟨v1, v2⟩ := val_cons (rowD (stA a b k) (sm a b k)) (outA a b k).reverse
    rw [List.length_reverse, outA_len] at v1 v2
    have hs : ((sm a b k : Nat) : Int) = (dR a k : Nat) + (dR b k : Nat) := by unfold sm; omega
    rw [e1, e2, e3, e4, e5, e6, List.reverse_append, List.reverse_singleton, List.singleton_append, v1, v2, pX_succ, pY_succ]
    rw [hs] at bx
    generalize dg (rowD (stA a b k) (sm a b k)) = d at *
    generalize rowX (rowN (stA a b k) (sm a b k)) = X' at *
    generalize rowY (rowN (stA a b k) (sm a b k)) = Y' at *
    generalize rowX (stA a b k) = X at *
    generalize rowY (stA a b k) = Y at *
    generalize ((dR a k : Nat) : Int) = da at *
    generalize ((dR b k : Nat) : Int) = db at *
    generalize pX k = p at *
    generalize pY k = q at *
    clear e1 e2 e3 e4 e5 e6 r1 r2 r3 r4 v1 v2 hs
    have hX : X = -X' - Y' + d - da - db := by omega
    subst hX
    subst by'
    constructor
    · have : p * (-X' - Y' + d - da - db) - q * (X' - Y') + p * da + p * db = p * d + ((-p - q) * X' - (p - q) * Y') := by grind
      omega
    · have : p * (X' - Y') + q * (-X' - Y' + d - da - db) + q * da + q * db = q * d + ((-p - q) * Y' + (p - q) * X') := by grind
      omega
/-- the sum's digits have the sum of both values -/
theorem sum_val (ha : vldB a = true) (hb : vldB b = true) : valX (outA a b (stepsA a b)).reverse = valX (toL a) + valX (toL b) ∧ valY (outA a b (stepsA a b)).reverse = valY (toL a) + valY (toL b) := by
  obtain ⟨h1, h2⟩ := out_val ha hb (stepsA a b)
  obtain ⟨d1, d2⟩ := done_zero ha hb
  have hwa : a.size ≤ stepsA a b := Nat.le_trans (Nat.le_max_left _ _) d2
  have hwb : b.size ≤ stepsA a b := Nat.le_trans (Nat.le_max_right _ _) d2
  obtain ⟨a1, a2⟩ := s_ge ha hwa
  obtain ⟨b1, b2⟩ := s_ge hb hwb
  have rx : rowX 0 = 0 := rfl
  have ry : rowY 0 = 0 := rfl
  rw [d1, rx, ry] at h1 h2
  rw [a1, b1] at h1
  rw [a2, b2] at h2
  constructor
  · simpa using h1.symm
  · simpa using h2.symm
theorem out_strip (ha : vldB a = true) (hb : vldB b = true) : strip (outA a b (stepsA a b)).reverse = expL (valX (toL a) + valX (toL b)) (valY (toL a) + valY (toL b)) := by
  have hne : (outA a b (stepsA a b)).reverse ≠ [] := by
    intro e
    have h1 := outA_len (a := a) (b := b) (stepsA a b)
    have h2 := (steps_le ha hb).1
    have : outA a b (stepsA a b) = [] := by simpa using e
    rw [this] at h1; simp at h1; omega
  rw [strip_val (fun c hc => outA_bits (a := a) (b := b) _ c (by simpa using hc)) hne, (sum_val ha hb).1, (sum_val ha hb).2]
end Go.Proofs.YtaleeoghifcadaaDoor

namespace Go.Proofs.YtaleeoghifcadaaDoor
set_option linter.unusedSimpArgs false
set_option linter.unusedVariables false
open Go.RowKit

theorem qr_inj (n : Nat) : ∀ z z' : ZZ, qn n z = qn n z' → rn n z = rn n z' → z = z' := by
  induction n with
  | zero => intro z z' h _; exact h
  | succ n ih =>
    intro z z' h1 h2
    rw [rn_back, rn_back] at h2
    have e1 : ld z = ld z' := by
      have := congrArg ld h2
      rw [ld_sd _ (ld_01 z), ld_sd _ (ld_01 z')] at this; exact this
    have e2 : rn n (nx z) = rn n (nx z') := by
      have := congrArg nx h2
      rw [nx_sd _ (ld_01 z), nx_sd _ (ld_01 z')] at this; exact this
    rw [← qn_nx, ← qn_nx] at h1
    have e3 := ih _ _ h1 e2
    rw [← sd_nx z, ← sd_nx z', e1, e3]
theorem val_cat (a : List UInt8) : ∀ (b : List UInt8), (∀ c ∈ b, bitC c = true) → qn b.length (valF (a ++ b)) = valF a ∧ rn b.length (valF (a ++ b)) = valF b := by
  intro b
  induction b using rev_ind with
  | h0 => intro _; rw [List.append_nil]; exact ⟨rfl, rfl⟩
  | h1 l c ih =>
    intro hb
    obtain ⟨h1, h2⟩ := ih (fun d hd => hb d (by simp [hd]))
    have hc := dg_bit (hb c (by simp))
    have hd : dg c = 0 ∨ dg c = 1 := by omega
    rw [← List.append_assoc, valF_snoc, valF_snoc, List.length_append, List.length_singleton, ← qn_nx, rn_back, nx_sd _ hd, ld_sd _ hd, h1, h2]
    exact ⟨rfl, rfl⟩
theorem qn_rn (n : Nat) : ∀ z : ZZ, qn n (rn n z) = (0, 0) := by
  induction n with
  | zero => intro z; rfl
  | succ n ih => intro z; rw [← qn_nx, rn_back, nx_sd _ (ld_01 z)]; exact ih _
theorem val_zerosF (m : Nat) (l : List UInt8) : valF (List.replicate m 48 ++ l) = valF l := by
  induction m with
  | zero => rfl
  | succ m ih => rw [List.replicate_succ, List.cons_append, valF_leadV, ih]
theorem val_tx (x y : Int) : valF (txL x y) = (x, y) := by
  rw [txL_eq]
  split
  · rename_i h; rw [h]; decide
  · exact val_dgz _ _ rfl
theorem strip_tx {l : List UInt8} {x y : Int} (h : ∀ c ∈ l, bitC c = true) (hn : l ≠ []) (hv : valF l = (x, y)) : strip l = txL x y := by
  have := strip_val h hn
  rw [this]
  show (dgs1 _ _).reverse = _
  rw [show valX l = x from congrArg Prod.fst hv, show valY l = y from congrArg Prod.snd hv]; rfl
/-- the digits of q, and those of the rest filled up behind it -/
theorem join_tx {n : Nat} {x y : Int} {b : List UInt8} (hb : ∀ c ∈ b, bitC c = true) (hl : b.length = n) (hv : valF b = rn n (x, y)) : strip (txL (qn n (x, y)).1 (qn n (x, y)).2 ++ b) = txL x y := by
  have hq := val_tx (qn n (x, y)).1 (qn n (x, y)).2
  refine strip_tx ?_ (by intro e; exact txL_ne _ _ (List.append_eq_nil_iff.1 e).1) ?_
  · intro c hc
    rcases List.mem_append.1 hc with hc | hc
    · exact txL_bits _ _ c hc
    · exact hb c hc
  · obtain ⟨h1, h2⟩ := val_cat (txL (qn n (x, y)).1 (qn n (x, y)).2) b hb
    rw [hl] at h1 h2
    exact qr_inj n _ _ (by rw [h1, hq]) (by rw [h2, hv])
theorem rest_len {n : Nat} {x y : Int} (hn : 1 ≤ n) : (txL (rn n (x, y)).1 (rn n (x, y)).2).length ≤ n := by
  rw [txL_eq]
  split
  · simpa using hn
  · rw [List.length_reverse]; exact (dgz_len n _).2 (qn_rn n _)
theorem rest_small {n : Nat} {x y : Int} (hn : n ≤ 12) : inB 1000000 (rn n (x, y)).1 (rn n (x, y)).2 = true := by
  have := rn_in (x, y) n (by omega)
  simp only [inB, inR, Bool.and_eq_true, decide_eq_true_eq]; omega
theorem rest_has {n : Nat} {x y : Int} (hn : n ≤ 12) : hasT n (rn n (x, y)).1 (rn n (x, y)).2 = true := by
  simp only [hasT, okT, rest_small hn, Bool.and_eq_true, decide_eq_true_eq, Int.toNat_natCast]
  refine ⟨⟨?_, trivial⟩, qn_rn n _⟩
  simp only [inR, Bool.and_eq_true, decide_eq_true_eq]; omega
end Go.Proofs.YtaleeoghifcadaaDoor

namespace Go.Proofs.YtaleeoghifcadaaDoor
set_option linter.unusedSimpArgs false
set_option linter.unusedVariables false
open Go.RowKit

theorem tx_len_tp {n i : Nat} : (txL (tp n i).1 (tp n i).2).length ≤ max 1 n := by
  rw [txL_eq]
  split
  · simp; omega
  · rw [List.length_reverse]
    have := (dgz_len n (tp n i)).2 (qn_tp n i)
    exact Nat.le_trans this (by omega)
theorem idx_tx {n i : Nat} (hn : n ≤ 8) (hi : i < 2 ^ n) : idxF (txL (tp n i).1 (tp n i).2) = i := by
  have hb := txL_bits (tp n i).1 (tp n i).2
  have hv := val_tx (tp n i).1 (tp n i).2
  have hl := tx_len_tp (n := n) (i := i)
  have h1 := idx_le _ hb
  by_cases h0 : n = 0
  · subst h0
    have : i = 0 := by simpa using hi
    subst this
    decide
  · have h2 : 2 ^ (txL (tp n i).1 (tp n i).2).length ≤ 2 ^ n := Nat.pow_le_pow_right (by omega) (by omega)
    have h3 : idxF (txL (tp n i).1 (tp n i).2) < ((2 ^ n : Nat) : Int) := by omega
    have h4 := val_tp _ hb n h3
    rw [hv] at h4
    have h5 := tp_inj (n := n) hi (by omega) h4
    omega
theorem idxB_tx {n i : Nat} (hn : n ≤ 8) (hi : i < 2 ^ n) : idxV (txB (tp n i).1 (tp n i).2) = .tuple #[.int .i64 (i : Int), .bool true] := by
  have ht := tp_in hn hi
  have hs : inB 1000000 (tp n i).1 (tp n i).2 = true := by simp only [inB, inR, Bool.and_eq_true, decide_eq_true_eq]; omega
  have hl := tx_len_tp (n := n) (i := i)
  have h1 : idxB (txB (tp n i).1 (tp n i).2) = true := by
    unfold idxB
    rw [Bool.and_eq_true, decide_eq_true_eq]
    refine ⟨?_, ?_⟩
    · show vldL (toL (bs (txL _ _))) = true
      rw [toL_bs]; exact txL_vld hs
    · rw [show (txB (tp n i).1 (tp n i).2).size = (txL (tp n i).1 (tp n i).2).length from bs_sz _]; omega
  rw [idxV_yes h1, show toL (txB (tp n i).1 (tp n i).2) = txL (tp n i).1 (tp n i).2 from toL_bs _, idx_tx hn hi]
theorem has_tp {n i : Nat} (hn : n ≤ 8) (hi : i < 2 ^ n) : hasT n (tp n i).1 (tp n i).2 = true := by
  have ht := tp_in hn hi
  simp only [hasT, okT, Bool.and_eq_true, decide_eq_true_eq, Int.toNat_natCast]
  refine ⟨⟨?_, ?_⟩, qn_tp n i⟩
  · simp only [inR, Bool.and_eq_true, decide_eq_true_eq]; omega
  · simp only [inB, inR, Bool.and_eq_true, decide_eq_true_eq]; omega
end Go.Proofs.YtaleeoghifcadaaDoor

namespace Go.Proofs.YtaleeoghifcadaaDoor
set_option linter.unusedSimpArgs false
set_option linter.unusedVariables false
open Go.RowKit

/-- the bytes of a slice lie in w -/
def Bytes (sv : Value) (len : Nat) (w : World) : Prop :=
  ∃ a cap, sv = .slice a len cap ∧ (len = 0 ∨ ∃ b off, a = some ⟨b, off, none⟩ ∧ ∀ i, i < len → ∃ z : Int, w.cell? ⟨b, off + i, none⟩ = some (.int .u8 z) ∧ 0 ≤ z ∧ z ≤ 255)

/-- the reader in block rb stands at p -/
def Rd (rb : Nat) (sv : Value) (p : Int) (w : World) : Prop :=
  w.cell? ⟨rb, 0, none⟩ = some sv ∧ w.cell? ⟨rb, 1, none⟩ = some (.int .i64 p) ∧ w.frozen? ⟨rb, 0, none⟩ = false ∧ w.frozen? ⟨rb, 1, none⟩ = false

theorem xor_i64_nat (a b : Nat) (ha : a < 9223372036854775808) (hb : b < 9223372036854775808) : bits .xor .i64 (a : Int) (b : Int) = ((a ^^^ b : Nat) : Int) := by
  have hx : a ^^^ b < 2 ^ 63 := Nat.xor_lt_two_pow (by omega) (by omega)
  have h1 : (BitVec.ofInt 64 (a : Int)).toNat = a := by
    rw [BitVec.ofInt_natCast, BitVec.toNat_ofNat]; exact Nat.mod_eq_of_lt (by omega)
  have h2 : (BitVec.ofInt 64 (b : Int)).toNat = b := by
    rw [BitVec.ofInt_natCast, BitVec.toNat_ofNat]; exact Nat.mod_eq_of_lt (by omega)
  show IntKind.i64.wrap ((BitVec.ofInt 64 (a : Int) ^^^ BitVec.ofInt 64 (b : Int)).toNat : Int) = _
  rw [BitVec.toNat_xor, h1, h2, IntKind.wrap_i64]
  omega
theorem xor_i64_pos {a b : Int} (ha : 0 ≤ a ∧ a ≤ 1000000000000) (hb : 0 ≤ b ∧ b ≤ 1000000000000) : 0 ≤ bits .xor .i64 a b := by
  obtain ⟨x, rfl⟩ := Int.eq_ofNat_of_zero_le ha.1
  obtain ⟨y, rfl⟩ := Int.eq_ofNat_of_zero_le hb.1
  rw [xor_i64_nat x y (by omega) (by omega)]
  omega
theorem tmod_pick {x n : Int} (hx : 0 ≤ x) (hn : 1 ≤ n) : 0 ≤ x.tmod n ∧ x.tmod n < n := by
  rw [Int.tmod_eq_emod_of_nonneg hx]
  exact ⟨Int.emod_nonneg _ (by omega), Int.emod_lt_of_pos _ (by omega)⟩

/-- what a pick does: a number below n; block rb alone has changed, and there the place -/
def Picked (n : Int) (rb : Nat) (p : Int) (w : World) (e : Ending) (w' : World) : Prop :=
  ∃ (k : Int) (m : Nat), 0 ≤ k ∧ (k < n ∨ k = 0) ∧ e = .returned (.int .i64 k) ∧ w' = (w.setCell ⟨rb, 1, none⟩ (.int .i64 (p + 1))).drewN m

set_option maxHeartbeats 2000000 in
theorem pick_none (rb : Nat) (a : Option Addr) (cap : Nat) (p n : Int) (w : World) (h : Rd rb (.slice a 0 cap) p w) (hp : 0 ≤ p ∧ p ≤ 1000000) (hn : 1 ≤ n) :
    Calls Tryd.prog 46 #[.pointer (some ⟨rb, 0, none⟩), .int .i64 n] w (Picked n rb p w) := by
  obtain ⟨c0, c1, f0, f1⟩ := h
  obtain ⟨p1, p2⟩ := hp
  go_enter Tryd.func46, Tryd.ntmps46
  go_wp2
  go_ret
  exact ⟨0, 0, by omega, Or.inr rfl, rfl, rfl⟩

set_option maxHeartbeats 2000000 in
theorem pick_in (rb b off len cap : Nat) (p n z : Int) (w : World) (h : Rd rb (.slice (some ⟨b, off, none⟩) len cap) p w) (hp : 0 ≤ p ∧ p < len) (hl : len ≤ 2000) (hn : 1 ≤ n) (hn2 : n ≤ 1000000) (hb : b ≠ rb)
    (hz : w.cell? ⟨b, off + p.toNat, none⟩ = some (.int .u8 z)) (hz1 : 0 ≤ z) (hz2 : z ≤ 255) :
    Calls Tryd.prog 46 #[.pointer (some ⟨rb, 0, none⟩), .int .i64 n] w (Picked n rb p w) := by
  obtain ⟨c0, c1, f0, f1⟩ := h
  obtain ⟨p1, p2⟩ := hp
  have hlen : ((len : Int) == 0) = false := by simp; omega
  go_enter Tryd.func46, Tryd.ntmps46
  go_wp2
  go_ret
  have e1 := Int.emod_nonneg z (show n ≠ 0 by omega)
  have e2 := Int.emod_lt_of_pos z (show 0 < n by omega)
  exact ⟨z % n, 0, e1, Or.inl e2, rfl, rfl⟩

set_option maxHeartbeats 4000000 in
theorem pick_out (rb b off len cap : Nat) (p n z1 z2 : Int) (w : World) (h : Rd rb (.slice (some ⟨b, off, none⟩) len cap) p w) (hp : (len : Int) ≤ p ∧ p ≤ 1000000) (hl : len ≤ 2000) (hl0 : 1 ≤ len) (hn : 1 ≤ n) (hn2 : n ≤ 1000000) (hb : b ≠ rb)
    (hz : w.cell? ⟨b, off + (p % (len : Int)).toNat, none⟩ = some (.int .u8 z1)) (hz1 : 0 ≤ z1 ∧ z1 ≤ 255)
    (hy : w.cell? ⟨b, off + ((p * 7 + 3) % (len : Int)).toNat, none⟩ = some (.int .u8 z2)) (hy1 : 0 ≤ z2 ∧ z2 ≤ 255) :
    Calls Tryd.prog 46 #[.pointer (some ⟨rb, 0, none⟩), .int .i64 n] w (Picked n rb p w) := by
  obtain ⟨c0, c1, f0, f1⟩ := h
  obtain ⟨p1, p2⟩ := hp
  obtain ⟨y1, y2⟩ := hz1
  obtain ⟨y3, y4⟩ := hy1
  have hlen : ((len : Int) == 0) = false := by simp; omega
  have a1 := Int.emod_nonneg p (show (len : Int) ≠ 0 by omega)
  have a2 := Int.emod_lt_of_pos p (show 0 < (len : Int) by omega)
  have a3 := Int.emod_nonneg (p * 7 + 3) (show (len : Int) ≠ 0 by omega)
  have a4 := Int.emod_lt_of_pos (p * 7 + 3) (show 0 < (len : Int) by omega)
  have a5 : 0 ≤ p / (len : Int) := Int.ediv_nonneg (by omega) (by omega)
  have a6 : p / (len : Int) ≤ p := Int.ediv_le_self _ (by omega)
  go_enter Tryd.func46, Tryd.ntmps46
  go_wp2
  go_quiet (fail)
  go_wp2
  go_ret
  have t := tmod_pick (x := bits .xor .i64 (z1 * 131 + z2 * 1117 + p * 29 + p / (len : Int) * 53) ((z1 * 131 + z2 * 1117 + p * 29 + p / (len : Int) * 53) / 64)) (n := n) (xor_i64_pos ⟨by omega, by omega⟩ ⟨by omega, by omega⟩) hn
  exact ⟨_, _, t.1, Or.inl t.2, rfl, rfl⟩

/-- the bytes that the reader reads, in the world in which they lay; block rb is another -/
def Src (sv : Value) (rb : Nat) (w : World) : Prop :=
  ∃ (a : Option Addr) (len cap : Nat), sv = .slice a len cap ∧ len ≤ 2000 ∧ (len = 0 ∨ ∃ b off, a = some ⟨b, off, none⟩ ∧ b ≠ rb ∧ ∀ i, i < len → ∃ z : Int, w.cell? ⟨b, off + i, none⟩ = some (.int .u8 z) ∧ 0 ≤ z ∧ z ≤ 255)

theorem pick_c (rb : Nat) (sv : Value) (p n : Int) (w : World) (hs : Src sv rb w) (h : Rd rb sv p w) (hp : 0 ≤ p ∧ p ≤ 1000000) (hn : 1 ≤ n ∧ n ≤ 1000000) :
    Calls Tryd.prog 46 #[.pointer (some ⟨rb, 0, none⟩), .int .i64 n] w (Picked n rb p w) := by
  obtain ⟨a, len, cap, rfl, hl, hs⟩ := hs
  by_cases h0 : len = 0
  · subst h0
    exact pick_none rb a cap p n w h hp hn.1
  · have hpos : 0 < (len : Int) := Int.natCast_pos.2 (Nat.pos_of_ne_zero h0)
    have a0 : (len : Int) ≠ 0 := Int.ne_of_gt hpos
    have a1 := Int.emod_nonneg p a0
    have a2 := Int.emod_lt_of_pos p hpos
    have a3 := Int.emod_nonneg (p * 7 + 3) a0
    have a4 := Int.emod_lt_of_pos (p * 7 + 3) hpos
    have i1 : (p % (len : Int)).toNat < len := by clear hs; omega
    have i2 : ((p * 7 + 3) % (len : Int)).toNat < len := by clear hs; omega
    have i3 : 1 ≤ len := Nat.pos_of_ne_zero h0
    have i4 : p < len → p.toNat < len := by clear hs; intro h; omega
    obtain ⟨b, off, rfl, hb, hz⟩ := hs.resolve_left h0
    by_cases hlt : p < len
    · obtain ⟨z, z1, z2, z3⟩ := hz p.toNat (i4 hlt)
      exact pick_in rb b off len cap p n z w h ⟨hp.1, hlt⟩ hl hn.1 hn.2 hb z1 z2 z3
    · obtain ⟨z, z1, z2, z3⟩ := hz (p % (len : Int)).toNat i1
      obtain ⟨y, y1, y2, y3⟩ := hz ((p * 7 + 3) % (len : Int)).toNat i2
      exact pick_out rb b off len cap p n z y w h ⟨Int.not_lt.1 hlt, hp.2⟩ hl i3 hn.1 hn.2 hb z1 ⟨z2, z3⟩ y1 ⟨y2, y3⟩

/-- block rb alone may have changed, and new blocks may be there -/
def Moved (rb : Nat) (w w' : World) : Prop :=
  w.heap.size ≤ w'.heap.size ∧ (∀ b o, b < w.heap.size → b ≠ rb → w'.cell? ⟨b, o, none⟩ = w.cell? ⟨b, o, none⟩) ∧ (∀ b o, b < w.heap.size → b ≠ rb → w'.frozen? ⟨b, o, none⟩ = w.frozen? ⟨b, o, none⟩) ∧
    ∀ W0 : World, Below W0.heap.size W0 w → W0.heap.size ≤ rb → Below W0.heap.size W0 w'
theorem Moved.refl (rb : Nat) (w : World) : Moved rb w w := ⟨Nat.le_refl _, fun _ _ _ _ => rfl, fun _ _ _ _ => rfl, fun _ h _ => h⟩
theorem Moved.trans {rb : Nat} {w w1 w2 : World} (h : Moved rb w w1) (k : Moved rb w1 w2) : Moved rb w w2 :=
  ⟨Nat.le_trans h.1 k.1, fun b o hb hn => (k.2.1 b o (Nat.lt_of_lt_of_le hb h.1) hn).trans (h.2.1 b o hb hn), fun b o hb hn => (k.2.2.1 b o (Nat.lt_of_lt_of_le hb h.1) hn).trans (h.2.2.1 b o hb hn), fun W0 h0 hr => k.2.2.2 W0 (h.2.2.2 W0 h0 hr) hr⟩
theorem Moved.below {rb : Nat} {w w1 w2 : World} (h : Moved rb w w1) (k : Below w1.heap.size w1 w2) : Moved rb w w2 :=
  ⟨Nat.le_trans h.1 k.size, fun b o hb hn => (k.cell (p := ⟨b, o, none⟩) (Nat.lt_of_lt_of_le hb h.1)).trans (h.2.1 b o hb hn), fun b o hb hn => (k.frozen (p := ⟨b, o, none⟩) (Nat.lt_of_lt_of_le hb h.1)).trans (h.2.2.1 b o hb hn),
    fun W0 h0 hr => Blw.after (h.2.2.2 W0 h0 hr) k⟩
theorem Moved.set {rb : Nat} {w w1 : World} (h : Moved rb w w1) {a : Addr} (ha : w.heap.size ≤ a.block) (hr : rb < w.heap.size) (u : Value) : Moved rb w (w1.setCell a u) :=
  ⟨by simpa [World.setCell] using h.1, fun b o hb hn => (World.cell?_of_block (w := w1) (a := ⟨b, o, none⟩) (Below.heap_setCell _ _ _ _ (by show b ≠ a.block; omega))).trans (h.2.1 b o hb hn),
    fun b o hb hn => (World.frozen?_of_block (w := w1) (a := ⟨b, o, none⟩) (Below.heap_setCell _ _ _ _ (by show b ≠ a.block; omega))).trans (h.2.2.1 b o hb hn), fun W0 h0 hr0 => Blw.set (h.2.2.2 W0 h0 hr0) (by omega) u⟩
theorem Moved.alloc {rb : Nat} {w w1 : World} (h : Moved rb w w1) (o : Obj) : Moved rb w (w1.alloc o) := h.below ((Below.refl _ _).alloc (Nat.le_refl _) _)
theorem Moved.drewN {rb : Nat} {w w1 : World} (m : Nat) (h : Moved rb w w1) : Moved rb w (w1.drewN m) := h.below (Blw.drewN m (Below.refl _ _))
theorem Moved.drew {rb : Nat} {w w1 : World} (h : Moved rb w w1) : Moved rb w w1.drew := h.below (Below.refl _ _).drew

theorem Rd.keep {rb : Nat} {sv : Value} {p : Int} {w w' : World} (h : Rd rb sv p w) (hb : Below w.heap.size w w') : Rd rb sv p w' := by
  obtain ⟨c0, c1, f0, f1⟩ := h
  have hl := World.block_lt_of_cell? w _ c0
  exact ⟨keepcell hb c0, keepcell hb c1, ((bcell hb).2 _ _ hl).trans f0, ((bcell hb).2 _ _ hl).trans f1⟩
theorem Src.keep {rb : Nat} {sv : Value} {w w' : World} (h : Src sv rb w) (hb : Below w.heap.size w w') : Src sv rb w' := by
  obtain ⟨a, len, cap, rfl, hl, hs⟩ := h
  refine ⟨a, len, cap, rfl, hl, hs.imp id ?_⟩
  rintro ⟨b, off, rfl, hn, hz⟩
  refine ⟨b, off, rfl, hn, fun i hi => ?_⟩
  obtain ⟨z, z1, z2⟩ := hz i hi
  exact ⟨z, keepcell hb z1, z2⟩

/-- what a pick leaves: the reader one place on, and block rb alone changed -/
def Drawn (X : Value → Prop) (q : Int) (rb : Nat) (sv : Value) (p : Int) (w : World) (e : Ending) (w' : World) : Prop :=
  ∃ (v : Value) (p' : Int), X v ∧ e = .returned v ∧ p ≤ p' ∧ p' ≤ p + q ∧ Rd rb sv p' w' ∧ Src sv rb w' ∧ Moved rb w w'
def IntTo (n : Int) (v : Value) : Prop := ∃ k : Int, v = .int .i64 k ∧ 0 ≤ k ∧ (k < n ∨ k = 0)

theorem pick_d (rb : Nat) (sv : Value) (p n : Int) (w : World) (hs : Src sv rb w) (h : Rd rb sv p w) (hp : 0 ≤ p ∧ p ≤ 1000000) (hn : 1 ≤ n ∧ n ≤ 1000000) :
    Calls Tryd.prog 46 #[.pointer (some ⟨rb, 0, none⟩), .int .i64 n] w (Drawn (IntTo n) 1 rb sv p w) := by
  refine (pick_c rb sv p n w hs h hp hn).mono fun e w' hP => ?_
  obtain ⟨k, m, h1, h2, rfl, rfl⟩ := hP
  have hc : ∀ b o, b ≠ rb → ((w.setCell ⟨rb, 1, none⟩ (.int .i64 (p + 1))).drewN m).cell? ⟨b, o, none⟩ = w.cell? ⟨b, o, none⟩ := fun b o hb => World.cell?_of_block (w := w) (a := ⟨b, o, none⟩) (Below.heap_setCell _ _ _ _ hb)
  have hf : ∀ b o, b ≠ rb → ((w.setCell ⟨rb, 1, none⟩ (.int .i64 (p + 1))).drewN m).frozen? ⟨b, o, none⟩ = w.frozen? ⟨b, o, none⟩ := fun b o hb => World.frozen?_of_block (w := w) (a := ⟨b, o, none⟩) (Below.heap_setCell _ _ _ _ hb)
  obtain ⟨c0, c1, f0, f1⟩ := h
  refine ⟨_, p + 1, ⟨k, rfl, h1, h2⟩, rfl, by omega, by omega, ⟨by go_simp, by go_simp, by go_simp, by go_simp⟩, ?_, by simp [World.drewN, World.setCell], fun b o _ hb => hc b o hb, fun b o _ hb => hf b o hb, fun W0 hb h0 => Blw.drewN _ (Blw.set hb h0 _)⟩
  obtain ⟨a, len, cap, rfl, hl, hs⟩ := hs
  refine ⟨a, len, cap, rfl, hl, hs.imp id ?_⟩
  rintro ⟨b, off, rfl, hb, hz⟩
  exact ⟨b, off, rfl, hb, fun i hi => by rw [hc _ _ hb]; exact hz i hi⟩

/-- the law's argument: a list of bytes that lies in w -/
def Code (v : Value) (w : World) : Prop :=
  ∃ (a : Option Addr) (len cap : Nat), v = .slice a len cap ∧ len ≤ cap ∧ len ≤ 1048576 ∧ (len = 0 ∨ ∃ b off, a = some ⟨b, off, none⟩ ∧ ∀ i, i < len → ∃ z : Int, w.cell? ⟨b, off + i, none⟩ = some (.int .u8 z) ∧ 0 ≤ z ∧ z ≤ 255)
theorem Code.keep {v : Value} {w w' : World} (h : Code v w) (hb : Below w.heap.size w w') : Code v w' := by
  obtain ⟨a, len, cap, rfl, h1, h2, h3⟩ := h
  refine ⟨a, len, cap, rfl, h1, h2, h3.imp id ?_⟩
  rintro ⟨b, off, rfl, hz⟩
  refine ⟨b, off, rfl, fun i hi => ?_⟩
  obtain ⟨z, z1, z2⟩ := hz i hi
  exact ⟨z, keepcell hb z1, z2⟩
/-- what l6Open gives: a reader at the beginning, in a new block -/
def Opened (w : World) (e : Ending) (w' : World) : Prop :=
  ∃ sv, e = .returned (.pointer (some ⟨w.heap.size, 0, none⟩)) ∧ Rd w.heap.size sv 0 w' ∧ Src sv w.heap.size w' ∧ w'.heap.size = w.heap.size + 1 ∧ Below w.heap.size w w'
theorem l6Open_c (v : Value) (w : World) (h : Code v w) : Calls Tryd.prog 44 #[v] w (Opened w) := by
  obtain ⟨a, len, cap, rfl, h1, h2, h3⟩ := h
  by_cases h0 : len = 0
  · subst h0
    go_enter Tryd.func44, Tryd.ntmps44
    go_wp2
    go_ret
    refine ⟨.slice a 0 cap, rfl, ⟨by go_simp, by go_simp, by rw [frozen?_alloc_cells]; simp [World.frozen?], by rw [frozen?_alloc_cells]; simp [World.frozen?]⟩, ⟨a, 0, cap, rfl, by omega, Or.inl rfl⟩, by simp, (Below.refl _ _).alloc (Nat.le_refl _) _⟩
  · obtain ⟨b, off, rfl, hz⟩ := h3.resolve_left h0
    have hl : b < w.heap.size := by
      obtain ⟨z, z1, -⟩ := hz 0 (by omega)
      exact World.block_lt_of_cell? w _ z1
    have HZ := Lib.hid hz
    clear hz
    have key : ∀ n, n ≤ len → ∀ i, i < n → ∃ z : Int, (w.alloc (.cells #[.slice (some ⟨b, off, none⟩) n cap, .int .i64 0] 89)).cell? ⟨b, off + i, none⟩ = some (.int .u8 z) ∧ 0 ≤ z ∧ z ≤ 255 := by
      intro n hn i hi
      obtain ⟨z, z1, z2⟩ := HZ.out i (by omega)
      exact ⟨z, keepcell ((Below.refl _ _).alloc (Nat.le_refl _) _) z1, z2⟩
    by_cases hb : 2000 < len
    · go_enter Tryd.func44, Tryd.ntmps44
      go_wp2
      go_ret
      exact ⟨.slice (some ⟨b, off, none⟩) 2000 cap, rfl, ⟨by go_simp, by go_simp, by rw [frozen?_alloc_cells]; simp [World.frozen?], by rw [frozen?_alloc_cells]; simp [World.frozen?]⟩, ⟨_, 2000, cap, rfl, by omega, Or.inr ⟨b, off, rfl, by omega, key 2000 (by omega)⟩⟩, by simp, (Below.refl _ _).alloc (Nat.le_refl _) _⟩
    · go_enter Tryd.func44, Tryd.ntmps44
      go_wp2
      go_ret
      exact ⟨.slice (some ⟨b, off, none⟩) len cap, rfl, ⟨by go_simp, by go_simp, by rw [frozen?_alloc_cells]; simp [World.frozen?], by rw [frozen?_alloc_cells]; simp [World.frozen?]⟩, ⟨_, len, cap, rfl, by omega, Or.inr ⟨b, off, rfl, by omega, key len (by omega)⟩⟩, by simp, (Below.refl _ _).alloc (Nat.le_refl _) _⟩

theorem Moved.cell {rb : Nat} {w w' : World} (h : Moved rb w w') {b o : Nat} {v : Value} (hb : b < w.heap.size) (hn : b ≠ rb) (hv : w.cell? ⟨b, o, none⟩ = some v) : w'.cell? ⟨b, o, none⟩ = some v := (h.2.1 b o hb hn).trans hv
theorem Moved.froz {rb : Nat} {w w' : World} (h : Moved rb w w') {b o : Nat} {v : Bool} (hb : b < w.heap.size) (hn : b ≠ rb) (hv : w.frozen? ⟨b, o, none⟩ = v) : w'.frozen? ⟨b, o, none⟩ = v := (h.2.2.1 b o hb hn).trans hv
theorem Src.moved {sv : Value} {rb : Nat} {w w' : World} (h : Src sv rb w) (k : Moved rb w w') : Src sv rb w' := by
  obtain ⟨a, len, cap, rfl, hl, hs⟩ := h
  refine ⟨a, len, cap, rfl, hl, hs.imp id ?_⟩
  rintro ⟨b, off, rfl, hn, hz⟩
  refine ⟨b, off, rfl, hn, fun i hi => ?_⟩
  obtain ⟨z, z1, z2⟩ := hz i hi
  exact ⟨z, k.cell (World.block_lt_of_cell? w _ z1) hn z1, z2⟩
theorem Rd.set {rb : Nat} {sv : Value} {p : Int} {w : World} (h : Rd rb sv p w) {a : Addr} (ha : a.block ≠ rb) (u : Value) : Rd rb sv p (w.setCell a u) := by
  have hc : ∀ o, (w.setCell a u).cell? ⟨rb, o, none⟩ = w.cell? ⟨rb, o, none⟩ := fun o => World.cell?_of_block (w := w) (a := ⟨rb, o, none⟩) (Below.heap_setCell _ _ _ _ (Ne.symm ha))
  have hf : ∀ o, (w.setCell a u).frozen? ⟨rb, o, none⟩ = w.frozen? ⟨rb, o, none⟩ := fun o => World.frozen?_of_block (w := w) (a := ⟨rb, o, none⟩) (Below.heap_setCell _ _ _ _ (Ne.symm ha))
  exact ⟨(hc 0).trans h.1, (hc 1).trans h.2.1, (hf 0).trans h.2.2.1, (hf 1).trans h.2.2.2⟩

/-- some Gauss, a little wider than the model's bound -/
def GaussV (v : Value) : Prop := ∃ x y : Int, v = .agg #[.int .i64 x, .int .i64 y] ∧ (-1000001 ≤ x ∧ x ≤ 1000001) ∧ (-1000001 ≤ y ∧ y ≤ 1000001)
set_option maxHeartbeats 4000000 in
theorem l91Gauss_c (rb : Nat) (sv : Value) (p : Int) (w : World) (hs : Src sv rb w) (h : Rd rb sv p w) (hp : 0 ≤ p ∧ p ≤ 1000) :
    Calls Tryd.prog 47 #[.pointer (some ⟨rb, 0, none⟩)] w (Drawn GaussV 3 rb sv p w) := by
  have hrb : rb < w.heap.size := World.block_lt_of_cell? w _ h.1
  go_enter Tryd.func47, Tryd.ntmps47
  go_wp2_with fail
  generalize hW : World.alloc _ _ = W0
  have c0 : W0.cell? ⟨w.heap.size, 0, none⟩ = some (.int .i64 0) := by rw [← hW]; clear hW; go_simp
  have c1 : W0.cell? ⟨w.heap.size, 1, none⟩ = some (.int .i64 0) := by rw [← hW]; clear hW; go_simp
  have f0 : W0.frozen? ⟨w.heap.size, 0, none⟩ = false := by rw [← hW]; clear hW; go_simp
  have f1 : W0.frozen? ⟨w.heap.size, 1, none⟩ = false := by rw [← hW]; clear hW; go_simp
  have m0 : Moved rb w W0 := by rw [← hW]; exact (Moved.refl rb w).alloc _
  have h0 : Rd rb sv p W0 := by rw [← hW]; exact h.keep ((Below.refl _ _).alloc (Nat.le_refl _) _)
  have z0 : w.heap.size < W0.heap.size := World.block_lt_of_cell? W0 _ c0
  clear hW
  go_wp2_with fail
  refine (pick_d rb sv p 24 W0 (hs.moved m0) h0 ⟨by omega, by omega⟩ ⟨by omega, by omega⟩).mono ?_
  rintro e W1 ⟨v, p1, ⟨k, rfl, k0, k1⟩, rfl, q0, q1, h1, -, m1⟩
  have d0 := m1.cell z0 (by omega) c0
  have d1 := m1.cell z0 (by omega) c1
  have e0 := m1.froz z0 (by omega) f0
  have e1 := m1.froz z0 (by omega) f1
  have z1 : w.heap.size < W1.heap.size := Nat.lt_of_lt_of_le z0 m1.1
  have M1 := m0.trans m1
  clear c0 c1 f0 f1 h0 z0 m0 m1
  have fin : ∀ (e : Ending) (w' : World) (x y : Int) (p' : Int), e = .returned (.agg #[.int .i64 x, .int .i64 y]) → (-1000001 ≤ x ∧ x ≤ 1000001) → (-1000001 ≤ y ∧ y ≤ 1000001) → p ≤ p' → p' ≤ p + 3 → Rd rb sv p' w' → Moved rb w w' → Drawn GaussV 3 rb sv p w e w' :=
    fun e w' x y p' he hx hy hp1 hp2 hr hm => ⟨_, p', ⟨x, y, rfl, hx, hy⟩, he, hp1, hp2, hr, hs.moved hm, hm⟩
  by_cases k2 : k = 0
  · subst k2
    go_wp2_with fail
    exact bodyPost_ret (v := .agg #[.int .i64 (1000001), .int .i64 (0)]) (by simp [results, Tryd.results47, go_sem, *]) rfl (fin _ _ (1000001) (0) p1 rfl ⟨by omega, by omega⟩ ⟨by omega, by omega⟩ q0 (by omega) (by repeat (first | assumption | refine Rd.set ?_ (by dsimp only; omega) _)) (by repeat (first | assumption | refine Moved.set ?_ (by dsimp only; omega) hrb _)))
  by_cases k3 : k = 1
  · subst k3
    go_wp2_with fail
    exact bodyPost_ret (v := .agg #[.int .i64 (-1000000), .int .i64 (1000000)]) (by simp [results, Tryd.results47, go_sem, *]) rfl (fin _ _ (-1000000) (1000000) p1 rfl ⟨by omega, by omega⟩ ⟨by omega, by omega⟩ q0 (by omega) (by repeat (first | assumption | refine Rd.set ?_ (by dsimp only; omega) _)) (by repeat (first | assumption | refine Moved.set ?_ (by dsimp only; omega) hrb _)))
  by_cases k4 : k = 2
  · subst k4
    go_wp2_with fail
    exact bodyPost_ret (v := .agg #[.int .i64 (0), .int .i64 (0)]) (by simp [results, Tryd.results47, go_sem, *]) rfl (fin _ _ (0) (0) p1 rfl ⟨by omega, by omega⟩ ⟨by omega, by omega⟩ q0 (by omega) (by repeat (first | assumption | refine Rd.set ?_ (by dsimp only; omega) _)) (by repeat (first | assumption | refine Moved.set ?_ (by dsimp only; omega) hrb _)))
  by_cases k5 : k = 3
  · subst k5
    go_wp2_with fail
    refine (pick_d rb sv p1 250 W1 (hs.moved M1) h1 ⟨by omega, by omega⟩ ⟨by omega, by omega⟩).mono ?_
    rintro e W2 ⟨v, p2, ⟨x, rfl, x0, x1⟩, rfl, r0, r1, h2, -, m2⟩
    have c0 := m2.cell z1 (by omega) d0
    have c1 := m2.cell z1 (by omega) d1
    have f0 := m2.froz z1 (by omega) e0
    have f1 := m2.froz z1 (by omega) e1
    have z2 : w.heap.size < W2.heap.size := Nat.lt_of_lt_of_le z1 m2.1
    have M2 := M1.trans m2
    clear d0 d1 e0 e1 h1 z1 m2 M1
    go_wp2_with fail
    refine (pick_d rb sv p2 250 W2 (hs.moved M2) h2 ⟨by omega, by omega⟩ ⟨by omega, by omega⟩).mono ?_
    rintro e W3 ⟨v, p3, ⟨y, rfl, y0, y1⟩, rfl, s0, s1, h3, -, m3⟩
    have d0 := m3.cell z2 (by omega) c0
    have d1 := m3.cell z2 (by omega) c1
    have e0 := m3.froz z2 (by omega) f0
    have e1 := m3.froz z2 (by omega) f1
    have z3 : w.heap.size < W3.heap.size := Nat.lt_of_lt_of_le z2 m3.1
    have M3 := M2.trans m3
    clear c0 c1 f0 f1 h2 z2 m3 M2
    go_wp2_with fail
    exact bodyPost_ret (v := .agg #[.int .i64 (x * 1000), .int .i64 (-(y * 1000))]) (by simp [results, Tryd.results47, go_sem, *]) rfl (fin _ _ (x * 1000) (-(y * 1000)) p3 rfl ⟨by omega, by omega⟩ ⟨by omega, by omega⟩ (by omega) (by omega) (by repeat (first | assumption | refine Rd.set ?_ (by dsimp only; omega) _)) (by repeat (first | assumption | refine Moved.set ?_ (by dsimp only; omega) hrb _)))
  · go_wp2_with fail
    refine (pick_d rb sv p1 41 W1 (hs.moved M1) h1 ⟨by omega, by omega⟩ ⟨by omega, by omega⟩).mono ?_
    rintro e W2 ⟨v, p2, ⟨x, rfl, x0, x1⟩, rfl, r0, r1, h2, -, m2⟩
    have c0 := m2.cell z1 (by omega) d0
    have c1 := m2.cell z1 (by omega) d1
    have f0 := m2.froz z1 (by omega) e0
    have f1 := m2.froz z1 (by omega) e1
    have z2 : w.heap.size < W2.heap.size := Nat.lt_of_lt_of_le z1 m2.1
    have M2 := M1.trans m2
    clear d0 d1 e0 e1 h1 z1 m2 M1
    go_wp2_with fail
    refine (pick_d rb sv p2 41 W2 (hs.moved M2) h2 ⟨by omega, by omega⟩ ⟨by omega, by omega⟩).mono ?_
    rintro e W3 ⟨v, p3, ⟨y, rfl, y0, y1⟩, rfl, s0, s1, h3, -, m3⟩
    have d0 := m3.cell z2 (by omega) c0
    have d1 := m3.cell z2 (by omega) c1
    have e0 := m3.froz z2 (by omega) f0
    have e1 := m3.froz z2 (by omega) f1
    have z3 : w.heap.size < W3.heap.size := Nat.lt_of_lt_of_le z2 m3.1
    have M3 := M2.trans m3
    clear c0 c1 f0 f1 h2 z2 m3 M2
    go_wp2_with fail
    exact bodyPost_ret (v := .agg #[.int .i64 (x - 20), .int .i64 (y - 20)]) (by simp [results, Tryd.results47, go_sem, *]) rfl (fin _ _ (x - 20) (y - 20) p3 rfl ⟨by omega, by omega⟩ ⟨by omega, by omega⟩ (by omega) (by omega) (by repeat (first | assumption | refine Rd.set ?_ (by dsimp only; omega) _)) (by repeat (first | assumption | refine Moved.set ?_ (by dsimp only; omega) hrb _)))
end Go.Proofs.YtaleeoghifcadaaDoor

namespace Go.Proofs.YtaleeoghifcadaaDoor
set_option linter.unusedSimpArgs false
set_option linter.unusedVariables false
open Go.RowKit

/-- what a draw of one Gauss leaves -/
def One (w : World) (e : Ending) (w' : World) : Prop :=
  ∃ x y : Int, e = .returned (.agg #[.int .i64 x, .int .i64 y]) ∧ (-1000001 ≤ x ∧ x ≤ 1000001) ∧ (-1000001 ≤ y ∧ y ≤ 1000001) ∧ Below w.heap.size w w'

end Go.Proofs.YtaleeoghifcadaaDoor

namespace Go.Proofs.YtaleeoghifcadaaDoor
set_option linter.unusedSimpArgs false
set_option linter.unusedVariables false
open Go.RowKit

theorem Own2.moved {rb : Nat} {w w' : World} {b : Nat} {x y : Int} (h : Own2 w b x y) (m : Moved rb w w') (hn : b ≠ rb) : Own2 w' b x y :=
  ⟨m.cell h.lt hn h.c0, m.cell h.lt hn h.c1, m.froz h.lt hn h.f0, m.froz h.lt hn h.f1⟩
def LevV (v : Value) : Prop := ∃ k : Int, v = .int .i64 k ∧ (-8 ≤ k ∧ k ≤ 13)
set_option maxHeartbeats 2000000 in
theorem l92Level_c (rb : Nat) (sv : Value) (p : Int) (w : World) (hs : Src sv rb w) (h : Rd rb sv p w) (hp : 0 ≤ p ∧ p ≤ 1000) :
    Calls Tryd.prog 45 #[.pointer (some ⟨rb, 0, none⟩)] w (Drawn LevV 3 rb sv p w) := by
  have hrb : rb < w.heap.size := World.block_lt_of_cell? w _ h.1
  go_enter Tryd.func45, Tryd.ntmps45
  go_wp2_with fail
  refine (pick_d rb sv p 7 w hs h ⟨by omega, by omega⟩ ⟨by omega, by omega⟩).mono ?_
  rintro e W1 ⟨v, p1, ⟨a, rfl, a0, a1⟩, rfl, r0, r1, h1, hs1, m1⟩
  have M1 := Lib.hid m1
  go_wp2_with fail
  refine (pick_d rb sv p1 20 W1 hs1 h1 ⟨by omega, by omega⟩ ⟨by omega, by omega⟩).mono ?_
  rintro e W2 ⟨v, p2, ⟨b, rfl, b0, b1⟩, rfl, s0, s1, h2, hs2, m2⟩
  have M2 := Lib.hid m2
  have hq : b.tdiv 19 = 0 ∨ b.tdiv 19 = 1 := by rw [Int.tdiv_eq_ediv_of_nonneg b0]; omega
  have H1 := Lib.hid h1
  clear hs h m1 m2 hs1 h1
  rcases hq with hq | hq
  all_goals
    have hw : IntKind.i64.wrap (b.tdiv 19) = b.tdiv 19 := IntWalk.i64_in _ (by omega)
    go_wp2_with fail
    refine (pick_d rb sv p2 20 W2 hs2 h2 ⟨by omega, by omega⟩ ⟨by omega, by omega⟩).mono ?_
    rintro e W3 ⟨v, p3, ⟨c, rfl, c0, c1⟩, rfl, t0, t1, h3, hs3, m3⟩
    have HF := Lib.hid (And.intro h3 (And.intro hs3 (M1.out.trans (M2.out.trans m3))))
    have hr : c.tdiv 19 = 0 ∨ c.tdiv 19 = 1 := by rw [Int.tdiv_eq_ediv_of_nonneg c0]; omega
    clear hs2 h2 h3 hs3 m3
    rcases hr with hr | hr
    all_goals
      go_wp2_with fail
      go_ret
      exact ⟨_, p3, ⟨_, rfl, by omega⟩, rfl, by omega, by omega, HF.out.1, HF.out.2.1, HF.out.2.2⟩
/-- what a draw of a level leaves -/
def OneLev (w : World) (e : Ending) (w' : World) : Prop := ∃ k : Int, e = .returned (.int .i64 k) ∧ (-8 ≤ k ∧ k ≤ 13) ∧ Below w.heap.size w w'
theorem drawTilePoints_c (v : Value) (w : World) (h : Code v w) : Calls Tryd.prog 21 #[v] w (OneLev w) := by
  go_enter Tryd.func21, Tryd.ntmps21
  go_wp2_with fail
  refine (l6Open_c v w h).mono ?_
  rintro e W1 ⟨sv, rfl, hr, hs, hz, hb⟩
  go_wp2_with fail
  refine (l92Level_c w.heap.size sv 0 W1 hs hr ⟨by omega, by omega⟩).mono ?_
  rintro e W2 ⟨v', p', ⟨k, rfl, hk⟩, rfl, -, -, -, -, m⟩
  have hB2 : Below w.heap.size w W2 := m.2.2.2 w hb (Nat.le_refl _)
  go_wp2_with fail
  go_ret
  exact ⟨k, rfl, hk, hB2⟩
theorem drawTileEdges_c (v : Value) (w : World) (h : Code v w) : Calls Tryd.prog 26 #[v] w (OneLev w) := by
  go_enter Tryd.func26, Tryd.ntmps26
  go_wp2_with fail
  refine (l6Open_c v w h).mono ?_
  rintro e W1 ⟨sv, rfl, hr, hs, hz, hb⟩
  go_wp2_with fail
  refine (l92Level_c w.heap.size sv 0 W1 hs hr ⟨by omega, by omega⟩).mono ?_
  rintro e W2 ⟨v', p', ⟨k, rfl, hk⟩, rfl, -, -, -, -, m⟩
  have hB2 : Below w.heap.size w W2 := m.2.2.2 w hb (Nat.le_refl _)
  go_wp2_with fail
  go_ret
  exact ⟨k, rfl, hk, hB2⟩
theorem drawTileShape_c (v : Value) (w : World) (h : Code v w) : Calls Tryd.prog 29 #[v] w (OneLev w) := by
  go_enter Tryd.func29, Tryd.ntmps29
  go_wp2_with fail
  refine (l6Open_c v w h).mono ?_
  rintro e W1 ⟨sv, rfl, hr, hs, hz, hb⟩
  go_wp2_with fail
  refine (l92Level_c w.heap.size sv 0 W1 hs hr ⟨by omega, by omega⟩).mono ?_
  rintro e W2 ⟨v', p', ⟨k, rfl, hk⟩, rfl, -, -, -, -, m⟩
  have hB2 : Below w.heap.size w W2 := m.2.2.2 w hb (Nat.le_refl _)
  go_wp2_with fail
  go_ret
  exact ⟨k, rfl, hk, hB2⟩
theorem drawTileBox_c (v : Value) (w : World) (h : Code v w) : Calls Tryd.prog 34 #[v] w (OneLev w) := by
  go_enter Tryd.func34, Tryd.ntmps34
  go_wp2_with fail
  refine (l6Open_c v w h).mono ?_
  rintro e W1 ⟨sv, rfl, hr, hs, hz, hb⟩
  go_wp2_with fail
  refine (l92Level_c w.heap.size sv 0 W1 hs hr ⟨by omega, by omega⟩).mono ?_
  rintro e W2 ⟨v', p', ⟨k, rfl, hk⟩, rfl, -, -, -, -, m⟩
  have hB2 : Below w.heap.size w W2 := m.2.2.2 w hb (Nat.le_refl _)
  go_wp2_with fail
  go_ret
  exact ⟨k, rfl, hk, hB2⟩
/-- what a draw of a level and a Gauss leaves -/
def LevG (w : World) (e : Ending) (w' : World) : Prop :=
  ∃ k x y : Int, e = .returned (.tuple #[.int .i64 k, .agg #[.int .i64 x, .int .i64 y]]) ∧ (-8 ≤ k ∧ k ≤ 13) ∧ (-1000001 ≤ x ∧ x ≤ 1000001) ∧ (-1000001 ≤ y ∧ y ≤ 1000001) ∧ Below w.heap.size w w'
set_option maxHeartbeats 2000000 in
theorem drawTileSplit_c (v : Value) (w : World) (h : Code v w) : Calls Tryd.prog 18 #[v] w (LevG w) := by
  go_enter Tryd.func18, Tryd.ntmps18
  go_wp2_with fail
  generalize hW : World.alloc _ _ = W0
  have o0 : Own2 W0 w.heap.size 0 0 := by rw [← hW]; exact Own2.fresh w 0 0 _
  have hB : Below w.heap.size w W0 := by rw [← hW]; (first | ((repeat' with_reducible first | assumption | exact Below.refl _ _ | apply Blw.alloc | apply Blw.drew | apply Blw.drewN | (refine Blw.after ?_ (by assumption)) | (refine Blw.set ?_ (by first | (dsimp only; omega) | (simp; omega)) _)); done) | (repeat' (first | assumption | exact Below.refl _ _ | apply Blw.alloc | apply Blw.drew | apply Blw.drewN | (refine Blw.after ?_ (by assumption)) | (refine Blw.set ?_ (by first | (dsimp only; omega) | (simp; done) | (simp; omega)) _))))
  have h0 : Code v W0 := by rw [← hW]; exact h.keep ((Below.refl _ _).alloc (Nat.le_refl _) _)
  have z0 : w.heap.size < W0.heap.size := o0.lt
  clear hW
  go_wp2_with fail
  refine (l6Open_c v W0 h0).mono ?_
  rintro e W1 ⟨sv, rfl, hr, hs, hz, hb⟩
  have o1 := o0.below hb z0
  go_wp2_with fail
  refine (l92Level_c W0.heap.size sv 0 W1 hs hr ⟨by omega, by omega⟩).mono ?_
  rintro e W2 ⟨v', p2, ⟨k, rfl, hk⟩, rfl, g0, g1, h2, hs2, m⟩
  have o2 := o1.moved m (by omega)
  have hB2 : Below w.heap.size w W2 := m.2.2.2 w (Blw.after hB hb) (by omega)
  have z2 : w.heap.size < W2.heap.size := o2.lt
  clear o0 o1 hr hs hb m
  go_wp2_with fail
  refine (l91Gauss_c W0.heap.size sv p2 W2 hs2 h2 ⟨by omega, by omega⟩).mono ?_
  rintro e W3 ⟨v', p3, ⟨x, y, rfl, hx, hy⟩, rfl, -, -, -, -, m3⟩
  have o3 := o2.moved m3 (by omega)
  have hB3 : Below w.heap.size w W3 := m3.2.2.2 w hB2 (by omega)
  obtain ⟨d0, d1, e0, e1⟩ := o3
  clear o2 h2 hs2 m3
  go_wp2_with fail
  exact bodyPost_ret (v := .tuple #[.int .i64 k, .agg #[.int .i64 x, .int .i64 y]]) (by simp [results, Tryd.results18, go_sem, *]) rfl ⟨k, x, y, rfl, hk, hx, hy, by (first | ((repeat' with_reducible first | assumption | exact Below.refl _ _ | apply Blw.alloc | apply Blw.drew | apply Blw.drewN | (refine Blw.after ?_ (by assumption)) | (refine Blw.set ?_ (by first | (dsimp only; omega) | (simp; omega)) _)); done) | (repeat' (first | assumption | exact Below.refl _ _ | apply Blw.alloc | apply Blw.drew | apply Blw.drewN | (refine Blw.after ?_ (by assumption)) | (refine Blw.set ?_ (by first | (dsimp only; omega) | (simp; done) | (simp; omega)) _))))⟩
set_option maxHeartbeats 2000000 in
theorem drawTileHas_c (v : Value) (w : World) (h : Code v w) : Calls Tryd.prog 14 #[v] w (LevG w) := by
  go_enter Tryd.func14, Tryd.ntmps14
  go_wp2_with fail
  generalize hW : World.alloc _ _ = W0
  have o0 : Own2 W0 w.heap.size 0 0 := by rw [← hW]; exact Own2.fresh w 0 0 _
  have hB : Below w.heap.size w W0 := by rw [← hW]; (first | ((repeat' with_reducible first | assumption | exact Below.refl _ _ | apply Blw.alloc | apply Blw.drew | apply Blw.drewN | (refine Blw.after ?_ (by assumption)) | (refine Blw.set ?_ (by first | (dsimp only; omega) | (simp; omega)) _)); done) | (repeat' (first | assumption | exact Below.refl _ _ | apply Blw.alloc | apply Blw.drew | apply Blw.drewN | (refine Blw.after ?_ (by assumption)) | (refine Blw.set ?_ (by first | (dsimp only; omega) | (simp; done) | (simp; omega)) _))))
  have h0 : Code v W0 := by rw [← hW]; exact h.keep ((Below.refl _ _).alloc (Nat.le_refl _) _)
  have z0 : w.heap.size < W0.heap.size := o0.lt
  clear hW
  go_wp2_with fail
  refine (l6Open_c v W0 h0).mono ?_
  rintro e W1 ⟨sv, rfl, hr, hs, hz, hb⟩
  have o1 := o0.below hb z0
  go_wp2_with fail
  refine (l92Level_c W0.heap.size sv 0 W1 hs hr ⟨by omega, by omega⟩).mono ?_
  rintro e W2 ⟨v', p2, ⟨k, rfl, hk⟩, rfl, g0, g1, h2, hs2, m⟩
  have o2 := o1.moved m (by omega)
  have hB2 : Below w.heap.size w W2 := m.2.2.2 w (Blw.after hB hb) (by omega)
  have z2 : w.heap.size < W2.heap.size := o2.lt
  clear o0 o1 hr hs hb m
  go_wp2_with fail
  refine (pick_d W0.heap.size sv p2 2 W2 hs2 h2 ⟨by omega, by omega⟩ ⟨by omega, by omega⟩).mono ?_
  rintro e W3 ⟨v', p3, ⟨c, rfl, c0, c1⟩, rfl, g2, g3, h3, hs3, m3⟩
  have o3 := o2.moved m3 (by omega)
  have hB3 : Below w.heap.size w W3 := m3.2.2.2 w hB2 (by omega)
  have z3 : w.heap.size < W3.heap.size := o3.lt
  clear o2 h2 hs2 m3
  by_cases hc : c = 0
  · subst hc
    go_wp2_with fail
    refine (pick_d W0.heap.size sv p3 9 W3 hs3 h3 ⟨by omega, by omega⟩ ⟨by omega, by omega⟩).mono ?_
    rintro e W4 ⟨v', p4, ⟨x, rfl, x0, x1⟩, rfl, g4, g5, h4, hs4, m4⟩
    have o4 := o3.moved m4 (by omega)
    have hB4 : Below w.heap.size w W4 := m4.2.2.2 w hB3 (by omega)
    have z4 : w.heap.size < W4.heap.size := o4.lt
    clear o3 h3 hs3 m4
    go_wp2_with fail
    refine (pick_d W0.heap.size sv p4 9 W4 hs4 h4 ⟨by omega, by omega⟩ ⟨by omega, by omega⟩).mono ?_
    rintro e W5 ⟨v', p5, ⟨y, rfl, y0, y1⟩, rfl, -, -, -, -, m5⟩
    have o5 := o4.moved m5 (by omega)
    have hB5 : Below w.heap.size w W5 := m5.2.2.2 w hB4 (by omega)
    obtain ⟨d0, d1, e0, e1⟩ := o5
    clear o4 h4 hs4 m5
    go_wp2_with fail
    exact bodyPost_ret (v := .tuple #[.int .i64 k, .agg #[.int .i64 (x - 4), .int .i64 (y - 4)]]) (by simp [results, Tryd.results14, go_sem, *]) rfl ⟨k, x - 4, y - 4, rfl, hk, by omega, by omega, by (first | ((repeat' with_reducible first | assumption | exact Below.refl _ _ | apply Blw.alloc | apply Blw.drew | apply Blw.drewN | (refine Blw.after ?_ (by assumption)) | (refine Blw.set ?_ (by first | (dsimp only; omega) | (simp; omega)) _)); done) | (repeat' (first | assumption | exact Below.refl _ _ | apply Blw.alloc | apply Blw.drew | apply Blw.drewN | (refine Blw.after ?_ (by assumption)) | (refine Blw.set ?_ (by first | (dsimp only; omega) | (simp; done) | (simp; omega)) _))))⟩
  · go_wp2_with fail
    refine (l91Gauss_c W0.heap.size sv p3 W3 hs3 h3 ⟨by omega, by omega⟩).mono ?_
    rintro e W4 ⟨v', p4, ⟨x, y, rfl, hx, hy⟩, rfl, -, -, -, -, m4⟩
    have o4 := o3.moved m4 (by omega)
    have hB4 : Below w.heap.size w W4 := m4.2.2.2 w hB3 (by omega)
    obtain ⟨d0, d1, e0, e1⟩ := o4
    clear o3 h3 hs3 m4
    go_wp2_with fail
    exact bodyPost_ret (v := .tuple #[.int .i64 k, .agg #[.int .i64 x, .int .i64 y]]) (by simp [results, Tryd.results14, go_sem, *]) rfl ⟨k, x, y, rfl, hk, hx, hy, by (first | ((repeat' with_reducible first | assumption | exact Below.refl _ _ | apply Blw.alloc | apply Blw.drew | apply Blw.drewN | (refine Blw.after ?_ (by assumption)) | (refine Blw.set ?_ (by first | (dsimp only; omega) | (simp; omega)) _)); done) | (repeat' (first | assumption | exact Below.refl _ _ | apply Blw.alloc | apply Blw.drew | apply Blw.drewN | (refine Blw.after ?_ (by assumption)) | (refine Blw.set ?_ (by first | (dsimp only; omega) | (simp; done) | (simp; omega)) _))))⟩
end Go.Proofs.YtaleeoghifcadaaDoor

namespace Go.Proofs.YtaleeoghifcadaaDoor
set_option linter.unusedSimpArgs false
set_option linter.unusedVariables false
open Go.ChangeShapes Go.WideShapes Go.ChangeAt Go.RowKit Go.Joins

theorem laidOut : laidOutB Tryd.prog = true := by kernel_rfl
theorem cellsB : Tryd.prog.cellsOf 5 = 1 := by kernel_rfl

theorem code_of {H : Type} {enc : TypeId × Value → H} {W : World} {a : Option Addr} {len cap : Nat} {d : DataW H} {p : List MemPlace}
    (h : DataW.Trod enc Tryd.prog W 0 (fun _ => true) true 22 (.slice a len cap) d p) (hl : len ≤ 1048576) : Code (.slice a len cap) W := by
  obtain ⟨fuel, hf⟩ := h
  rcases open_ints Tryd.underlying22 Tryd.underlying5 cellsB hf with ⟨hcs, hx⟩ | ⟨a', len', cap', zs, hcs, _, h1, h2, hz, hx, hcell, hwz⟩
  · simp [Value.cells] at hcs
    obtain ⟨rfl, rfl, rfl⟩ := hcs
    exact ⟨none, 0, 0, rfl, Nat.le_refl _, by omega, Or.inl rfl⟩
  · simp [Value.cells] at hcs
    obtain ⟨rfl, rfl, rfl⟩ := hcs
    simp only [if_true] at hz
    refine ⟨_, _, _, rfl, h1, hl, ?_⟩
    by_cases h0 : len = 0
    · exact Or.inl h0
    right
    obtain ⟨b, off, s⟩ := a'
    obtain rfl : s = none := by simpa [Addr.add] using World.cell?_spot (hcell 0 (by omega))
    refine ⟨b, off, rfl, fun i hi => ⟨zs.getD i 0, ?_, ?_⟩⟩
    · have h := hcell i (by omega)
      rwa [add_plain] at h
    · have hm : zs.getD i 0 ∈ zs := by
        have : zs.getD i 0 = zs[i]'(by omega) := by simp [List.getD, show i < zs.length by omega]
        rw [this]; exact List.getElem_mem _
      have hw := hwz _ hm
      have e1 : IntKind.u8.min = 0 := rfl
      have e2 : IntKind.u8.max = 255 := rfl
      simp only [Lit.wf, Bool.and_eq_true, decide_eq_true_eq] at hw
      omega
end Go.Proofs.YtaleeoghifcadaaDoor

namespace Go.Proofs.YtaleeoghifcadaaDoor
set_option linter.unusedSimpArgs false
set_option linter.unusedVariables false
open Go.RowKit

theorem repeat_noughts (z : Nat) : (Lib.repeatL [48] z : List UInt8) = List.replicate z 48 := by
  induction z with
  | zero => rfl
  | succ z ih => simp [Lib.repeatL, List.replicate_succ, ih]
def oneB (z : Nat) : ByteArray := bs (49 :: List.replicate z 48)
theorem shiftOne_c (z : Nat) (w : World) (hz : z ≤ 50) : Calls Tryd.prog 68 #[.string ⟨#[49]⟩, .int .i64 z] w fun e w' => e = .returned (.string (oneB z)) ∧ Below w.heap.size w w' := by
  have H := Lib.hid (show oneB z = (⟨#[49]⟩ : ByteArray) ++ bs (List.replicate z 48) by
    unfold oneB; apply toL_ext; rw [toL_bs]; simp [toL, bs, ByteArray.data_append])
  have hR := Tryd.strings_Repeat ⟨#[48]⟩ z w (by omega) (by show 1 * z ≤ _; omega)
  have HR := Lib.hid (show Calls Tryd.prog 83 #[.string ⟨#[48]⟩, .int .i64 z] w fun e w' => e = .returned (.string (bs (List.replicate z 48))) ∧ Below w.heap.size w w' from hR.mono fun e w' h => ⟨by rw [h.1, repeat_noughts]; rfl, h.2⟩)
  clear hR
  have hsz : (bs (List.replicate z 48)).size = z := by rw [← toL_len, toL_bs, List.length_replicate]
  go_enter Tryd.func68, Tryd.ntmps68
  go_wp2_with fail
  refine HR.out.mono ?_
  rintro e w1 ⟨rfl, hb⟩
  go_wp2
  go_ret
  exact ⟨by rw [H.out]; rfl, by (first | ((repeat' with_reducible first | assumption | exact Below.refl _ _ | apply Blw.alloc | apply Blw.drew | apply Blw.drewN | (refine Blw.after ?_ (by assumption)) | (refine Blw.set ?_ (by first | (dsimp only; omega) | (simp; omega)) _)); done) | (repeat' (first | assumption | exact Below.refl _ _ | apply Blw.alloc | apply Blw.drew | apply Blw.drewN | (refine Blw.after ?_ (by assumption)) | (refine Blw.set ?_ (by first | (dsimp only; omega) | (simp; done) | (simp; omega)) _))))⟩
end Go.Proofs.YtaleeoghifcadaaDoor

namespace Go.Proofs.YtaleeoghifcadaaDoor
set_option linter.unusedSimpArgs false
set_option linter.unusedVariables false
open Go.RowKit

def loT : Nat → ZZ
  | 0 => (0, 0)
  | n + 1 => ((loT n).1 + min 0 (bpw n).1, (loT n).2 + min 0 (bpw n).2)
def hiT : Nat → ZZ
  | 0 => (0, 0)
  | n + 1 => ((hiT n).1 + max 0 (bpw n).1, (hiT n).2 + max 0 (bpw n).2)
def boxV (a : Int) : Value := .tuple #[pr (sel (inR 0 12 a) (loT a.toNat).1) (sel (inR 0 12 a) (loT a.toNat).2), pr (sel (inR 0 12 a) (hiT a.toNat).1) (sel (inR 0 12 a) (hiT a.toNat).2), .bool (inR 0 12 a)]
theorem boxV_yes {a : Int} (h : inR 0 12 a = true) : boxV a = .tuple #[pr (loT a.toNat).1 (loT a.toNat).2, pr (hiT a.toNat).1 (hiT a.toNat).2, .bool true] := by
  unfold boxV; rw [h]; rfl
theorem boxV_no {a : Int} (h : inR 0 12 a = false) : boxV a = .tuple #[pr 0 0, pr 0 0, .bool false] := by
  unfold boxV; rw [h]; rfl
theorem box_in : ∀ n ∈ List.range 14, ((loT n).1.natAbs ≤ 20000 ∧ (loT n).2.natAbs ≤ 20000) ∧ ((hiT n).1.natAbs ≤ 20000 ∧ (hiT n).2.natAbs ≤ 20000) := by decide +kernel
theorem inR_leB {l u n : Int} (h : inR l u n = true) : l ≤ n ∧ n ≤ u := by
  simp only [inR, Bool.and_eq_true, decide_eq_true_eq] at h; exact h
def SBoxRel (n : Nat) (w : World) (m : Nat) (i : Value) (wr : World) : Prop :=
  ∃ k : Nat, k + m = n ∧ i = .int .i64 k ∧ Below w.heap.size w wr ∧ Own2 wr w.heap.size 0 0 ∧ Own2 wr (w.heap.size + 1) 0 0 ∧ Own2 wr (w.heap.size + 2) (loT k).1 (loT k).2 ∧ Own2 wr (w.heap.size + 3) (hiT k).1 (hiT k).2 ∧ Own2 wr (w.heap.size + 4) (bpw k).1 (bpw k).2
def IBoxRel (n : Nat) (w : World) (m : Nat) (i : Value) (wr : World) : Prop :=
  ∃ k : Nat, k + m = n ∧ i = .int .i64 k ∧ Below w.heap.size w wr ∧ Own2 wr w.heap.size 0 0 ∧ Own2 wr (w.heap.size + 1) 0 0 ∧ Own2 wr (w.heap.size + 2) (loT k).1 (loT k).2 ∧ Own2 wr (w.heap.size + 3) (hiT k).1 (hiT k).2
set_option maxRecDepth 100000 in
set_option maxHeartbeats 4000000 in
theorem sTileBox_c (a : Int) (w : World) : Calls Tryd.prog 35 #[.int .i64 a] w fun e w' => e = .returned (boxV a) ∧ Below w.heap.size w w' := by
  rcases Bool.eq_false_or_eq_true (inR 0 12 a) with h1 | h1
  · have HV := Lib.hid (boxV_yes h1)
    have H1 := inR_leB h1
    obtain ⟨n, rfl⟩ : ∃ n : Nat, a = (n : Int) := ⟨a.toNat, by omega⟩
    rw [Int.toNat_natCast] at HV
    go_enter Tryd.func35, Tryd.ntmps35
    go_wp2_with (first | (go_at_call 48; refine (l6In_c _ _ _ _).mono ?_; rintro e w1 ⟨rfl, rfl⟩))
    generalize hW : World.alloc _ _ = W0
    have kW0_1 : W0.cell? ⟨w.heap.size, 0, none⟩ = some (.int .i64 (0)) := by rw [← hW]; clear hW; first | (go_simp; done) | ((repeat refine keepcell ((Below.refl _ _).alloc (Nat.le_refl _) _) ?_); go_simp; done) | (simp only [frozen?_alloc_cells]; go_simp; done)
    have zW0_1 : W0.frozen? ⟨w.heap.size, 0, none⟩ = false := by rw [← hW]; clear hW; first | (go_simp; done) | ((repeat refine keepcell ((Below.refl _ _).alloc (Nat.le_refl _) _) ?_); go_simp; done) | (simp only [frozen?_alloc_cells]; go_simp; done)
    have kW0_2 : W0.cell? ⟨w.heap.size, 1, none⟩ = some (.int .i64 (0)) := by rw [← hW]; clear hW; first | (go_simp; done) | ((repeat refine keepcell ((Below.refl _ _).alloc (Nat.le_refl _) _) ?_); go_simp; done) | (simp only [frozen?_alloc_cells]; go_simp; done)
    have zW0_2 : W0.frozen? ⟨w.heap.size, 1, none⟩ = false := by rw [← hW]; clear hW; first | (go_simp; done) | ((repeat refine keepcell ((Below.refl _ _).alloc (Nat.le_refl _) _) ?_); go_simp; done) | (simp only [frozen?_alloc_cells]; go_simp; done)
    have : w.heap.size < W0.heap.size := World.block_lt_of_cell? W0 ⟨w.heap.size, 0, none⟩ (by assumption)
    have kW0_3 : W0.cell? ⟨w.heap.size + 1, 0, none⟩ = some (.int .i64 (0)) := by rw [← hW]; clear hW; first | (go_simp; done) | ((repeat refine keepcell ((Below.refl _ _).alloc (Nat.le_refl _) _) ?_); go_simp; done) | (simp only [frozen?_alloc_cells]; go_simp; done)
    have zW0_3 : W0.frozen? ⟨w.heap.size + 1, 0, none⟩ = false := by rw [← hW]; clear hW; first | (go_simp; done) | ((repeat refine keepcell ((Below.refl _ _).alloc (Nat.le_refl _) _) ?_); go_simp; done) | (simp only [frozen?_alloc_cells]; go_simp; done)
    have kW0_4 : W0.cell? ⟨w.heap.size + 1, 1, none⟩ = some (.int .i64 (0)) := by rw [← hW]; clear hW; first | (go_simp; done) | ((repeat refine keepcell ((Below.refl _ _).alloc (Nat.le_refl _) _) ?_); go_simp; done) | (simp only [frozen?_alloc_cells]; go_simp; done)
    have zW0_4 : W0.frozen? ⟨w.heap.size + 1, 1, none⟩ = false := by rw [← hW]; clear hW; first | (go_simp; done) | ((repeat refine keepcell ((Below.refl _ _).alloc (Nat.le_refl _) _) ?_); go_simp; done) | (simp only [frozen?_alloc_cells]; go_simp; done)
    have : w.heap.size + 1 < W0.heap.size := World.block_lt_of_cell? W0 ⟨w.heap.size + 1, 0, none⟩ (by assumption)
    have kW0_5 : W0.cell? ⟨w.heap.size + 2, 0, none⟩ = some (.int .i64 (0)) := by rw [← hW]; clear hW; first | (go_simp; done) | ((repeat refine keepcell ((Below.refl _ _).alloc (Nat.le_refl _) _) ?_); go_simp; done) | (simp only [frozen?_alloc_cells]; go_simp; done)
    have zW0_5 : W0.frozen? ⟨w.heap.size + 2, 0, none⟩ = false := by rw [← hW]; clear hW; first | (go_simp; done) | ((repeat refine keepcell ((Below.refl _ _).alloc (Nat.le_refl _) _) ?_); go_simp; done) | (simp only [frozen?_alloc_cells]; go_simp; done)
    have kW0_6 : W0.cell? ⟨w.heap.size + 2, 1, none⟩ = some (.int .i64 (0)) := by rw [← hW]; clear hW; first | (go_simp; done) | ((repeat refine keepcell ((Below.refl _ _).alloc (Nat.le_refl _) _) ?_); go_simp; done) | (simp only [frozen?_alloc_cells]; go_simp; done)
    have zW0_6 : W0.frozen? ⟨w.heap.size + 2, 1, none⟩ = false := by rw [← hW]; clear hW; first | (go_simp; done) | ((repeat refine keepcell ((Below.refl _ _).alloc (Nat.le_refl _) _) ?_); go_simp; done) | (simp only [frozen?_alloc_cells]; go_simp; done)
    have : w.heap.size + 2 < W0.heap.size := World.block_lt_of_cell? W0 ⟨w.heap.size + 2, 0, none⟩ (by assumption)
    have kW0_7 : W0.cell? ⟨w.heap.size + 3, 0, none⟩ = some (.int .i64 (0)) := by rw [← hW]; clear hW; first | (go_simp; done) | ((repeat refine keepcell ((Below.refl _ _).alloc (Nat.le_refl _) _) ?_); go_simp; done) | (simp only [frozen?_alloc_cells]; go_simp; done)
    have zW0_7 : W0.frozen? ⟨w.heap.size + 3, 0, none⟩ = false := by rw [← hW]; clear hW; first | (go_simp; done) | ((repeat refine keepcell ((Below.refl _ _).alloc (Nat.le_refl _) _) ?_); go_simp; done) | (simp only [frozen?_alloc_cells]; go_simp; done)
    have kW0_8 : W0.cell? ⟨w.heap.size + 3, 1, none⟩ = some (.int .i64 (0)) := by rw [← hW]; clear hW; first | (go_simp; done) | ((repeat refine keepcell ((Below.refl _ _).alloc (Nat.le_refl _) _) ?_); go_simp; done) | (simp only [frozen?_alloc_cells]; go_simp; done)
    have zW0_8 : W0.frozen? ⟨w.heap.size + 3, 1, none⟩ = false := by rw [← hW]; clear hW; first | (go_simp; done) | ((repeat refine keepcell ((Below.refl _ _).alloc (Nat.le_refl _) _) ?_); go_simp; done) | (simp only [frozen?_alloc_cells]; go_simp; done)
    have : w.heap.size + 3 < W0.heap.size := World.block_lt_of_cell? W0 ⟨w.heap.size + 3, 0, none⟩ (by assumption)
    have kW0_9 : W0.cell? ⟨w.heap.size + 4, 0, none⟩ = some (.int .i64 (1)) := by rw [← hW]; clear hW; first | (go_simp; done) | ((repeat refine keepcell ((Below.refl _ _).alloc (Nat.le_refl _) _) ?_); go_simp; done) | (simp only [frozen?_alloc_cells]; go_simp; done)
    have zW0_9 : W0.frozen? ⟨w.heap.size + 4, 0, none⟩ = false := by rw [← hW]; clear hW; first | (go_simp; done) | ((repeat refine keepcell ((Below.refl _ _).alloc (Nat.le_refl _) _) ?_); go_simp; done) | (simp only [frozen?_alloc_cells]; go_simp; done)
    have kW0_10 : W0.cell? ⟨w.heap.size + 4, 1, none⟩ = some (.int .i64 (0)) := by rw [← hW]; clear hW; first | (go_simp; done) | ((repeat refine keepcell ((Below.refl _ _).alloc (Nat.le_refl _) _) ?_); go_simp; done) | (simp only [frozen?_alloc_cells]; go_simp; done)
    have zW0_10 : W0.frozen? ⟨w.heap.size + 4, 1, none⟩ = false := by rw [← hW]; clear hW; first | (go_simp; done) | ((repeat refine keepcell ((Below.refl _ _).alloc (Nat.le_refl _) _) ?_); go_simp; done) | (simp only [frozen?_alloc_cells]; go_simp; done)
    have : w.heap.size + 4 < W0.heap.size := World.block_lt_of_cell? W0 ⟨w.heap.size + 4, 0, none⟩ (by assumption)
    have hBW0 : Below w.heap.size w W0 := by rw [← hW]; (first | ((repeat' with_reducible first | assumption | exact Below.refl _ _ | apply Blw.alloc | apply Blw.drew | apply Blw.drewN | (refine Blw.after ?_ (by assumption)) | (refine Blw.set ?_ (by first | (dsimp only; omega) | (simp; omega)) _)); done) | (repeat' (first | assumption | exact Below.refl _ _ | apply Blw.alloc | apply Blw.drew | apply Blw.drewN | (refine Blw.after ?_ (by assumption)) | (refine Blw.set ?_ (by first | (dsimp only; omega) | (simp; done) | (simp; omega)) _))))
    have hsW0 := hBW0.size
    clear hW
    go_loopg [8] n (fun m i wr => SBoxRel n w m i wr)
    case atStart => exact ⟨0, by omega, rfl, hBW0, ⟨by assumption, by assumption, by assumption, by assumption⟩, ⟨by assumption, by assumption, by assumption, by assumption⟩, ⟨by assumption, by assumption, by assumption, by assumption⟩, ⟨by assumption, by assumption, by assumption, by assumption⟩, ⟨by assumption, by assumption, by assumption, by assumption⟩⟩
    case round =>
      try clear kW0_1; try clear zW0_1; try clear kW0_2; try clear zW0_2; try clear kW0_3; try clear zW0_3; try clear kW0_4; try clear zW0_4; try clear kW0_5; try clear zW0_5; try clear kW0_6; try clear zW0_6; try clear kW0_7; try clear zW0_7; try clear kW0_8; try clear zW0_8; try clear kW0_9; try clear zW0_9; try clear kW0_10; try clear zW0_10
      obtain ⟨k, hk, rfl, hBw, O0, O1, O2, O3, O4⟩ := hrel
      have L4 := O4.lt
      have L0 : w.heap.size < wr.heap.size := by omega
      have L1 : w.heap.size + 1 < wr.heap.size := by omega
      have L2 : w.heap.size + 2 < wr.heap.size := by omega
      have L3 : w.heap.size + 3 < wr.heap.size := by omega
      by_cases hlt : k < n
      · have hb := bpw_in (n := k) (by omega)
        obtain ⟨⟨x1, x2⟩, x3, x4⟩ := box_in k (by simp; omega)
        have hbn : bpw (k + 1) = (-(bpw k).1 - (bpw k).2, (bpw k).1 - (bpw k).2) := by show sd (bpw k) 0 = _; simp [sd]
        have HN := Lib.hid (And.intro hbn (And.intro (show loT (k + 1) = ((loT k).1 + min 0 (bpw k).1, (loT k).2 + min 0 (bpw k).2) from rfl) (show hiT (k + 1) = ((hiT k).1 + max 0 (bpw k).1, (hiT k).2 + max 0 (bpw k).2) from rfl)))
        clear hbn
        generalize (loT k).1 = X at *
        generalize (loT k).2 = Y at *
        generalize (hiT k).1 = R at *
        generalize (hiT k).2 = I at *
        generalize (bpw k).1 = A at *
        generalize (bpw k).2 = C at *
        have n1 : -4096 ≤ A ∧ A ≤ 4096 ∧ -4096 ≤ C ∧ C ≤ 4096 := by omega
        have n2 : -20000 ≤ X ∧ X ≤ 20000 ∧ -20000 ≤ Y ∧ Y ≤ 20000 ∧ -20000 ≤ R ∧ R ≤ 20000 ∧ -20000 ≤ I ∧ I ≤ 20000 := by omega
        clear hb x1 x2 x3 x4
        obtain ⟨q0, q1, f00, f01⟩ := id O2
        obtain ⟨r0, r1, f30, f31⟩ := id O3
        obtain ⟨p0, p1, f40, f41⟩ := id O4
        have HO := Lib.hid (And.intro O0 (And.intro O1 (And.intro O2 (And.intro O3 O4))))
        clear O0 O1 O2 O3 O4
        go_wp2
        go_roundg (gk - 1)
        case measure => omega
        case rel =>
          obtain ⟨hbn, hl, hh⟩ := HN.out
          obtain ⟨O0, O1, O2, O3, O4⟩ := HO.out
          refine ⟨k + 1, by omega, by go_num, by (first | ((repeat' with_reducible first | assumption | exact Below.refl _ _ | apply Blw.alloc | apply Blw.drew | apply Blw.drewN | (refine Blw.after ?_ (by assumption)) | (refine Blw.set ?_ (by first | (dsimp only; omega) | (simp; omega)) _)); done) | (repeat' (first | assumption | exact Below.refl _ _ | apply Blw.alloc | apply Blw.drew | apply Blw.drewN | (refine Blw.after ?_ (by assumption)) | (refine Blw.set ?_ (by first | (dsimp only; omega) | (simp; done) | (simp; omega)) _)))), ?_, ?_, ?_, ?_, ?_⟩
          · ((try simp only [Nat.add_assoc, Nat.reduceAdd]) <;> (repeat with_reducible first | assumption | exact Own2.x (by assumption) | apply Own2X.put | (refine Own2.set ?_ (by omega)) | (refine Own2.alloc ?_ _) | (refine Own2X.set ?_ (by omega)) | (refine Own2X.alloc ?_ _)))
          · ((try simp only [Nat.add_assoc, Nat.reduceAdd]) <;> (repeat with_reducible first | assumption | exact Own2.x (by assumption) | apply Own2X.put | (refine Own2.set ?_ (by omega)) | (refine Own2.alloc ?_ _) | (refine Own2X.set ?_ (by omega)) | (refine Own2X.alloc ?_ _)))
          · rw [hl]; dsimp only; ((try simp only [Nat.add_assoc, Nat.reduceAdd]) <;> (repeat with_reducible first | assumption | exact Own2.x (by assumption) | apply Own2X.put | (refine Own2.set ?_ (by omega)) | (refine Own2.alloc ?_ _) | (refine Own2X.set ?_ (by omega)) | (refine Own2X.alloc ?_ _)))
          · rw [hh]; dsimp only; ((try simp only [Nat.add_assoc, Nat.reduceAdd]) <;> (repeat with_reducible first | assumption | exact Own2.x (by assumption) | apply Own2X.put | (refine Own2.set ?_ (by omega)) | (refine Own2.alloc ?_ _) | (refine Own2X.set ?_ (by omega)) | (refine Own2X.alloc ?_ _)))
          · rw [hbn]; dsimp only; ((try simp only [Nat.add_assoc, Nat.reduceAdd]) <;> (repeat with_reducible first | assumption | exact Own2.x (by assumption) | apply Own2X.put | (refine Own2.set ?_ (by omega)) | (refine Own2.alloc ?_ _) | (refine Own2X.set ?_ (by omega)) | (refine Own2X.alloc ?_ _)))
      · obtain rfl : k = n := by omega
        obtain ⟨q0, q1, f00, f01⟩ := O2
        obtain ⟨r0, r1, f30, f31⟩ := O3
        obtain ⟨a0, a1, f10, f11⟩ := O0
        obtain ⟨b0, b1, f20, f21⟩ := O1
        clear O4
        go_wp2_with fail
        refine region_slots (fun w' => w'.cell? ⟨w.heap.size + 3, 0, none⟩ = some (.int .i64 ((hiT k).1)) ∧ w'.cell? ⟨w.heap.size + 3, 1, none⟩ = some (.int .i64 ((hiT k).2))) [1] [(60, .is (pr (loT k).1 (loT k).2)), (61, .is (pr (hiT k).1 (hiT k).2))] (by kernel_rfl) (by kernel_rfl) (by kernel_rfl) (fun w' hH => by go_simp) (fun _ _ _ _ _ _ h => h) ?_
        simp only [Steps, List.contains_cons, List.contains_nil, Nat.reduceBEq, Nat.reduceAdd, Bool.or_false, Bool.false_or, Bool.or_true, Bool.true_or, Bool.false_eq_true, if_false, if_true]
        refine ⟨?_, ?_, ?_⟩
        · intro u w2 hH hd K hK
          simp only [setU, upd, List.map_cons, List.map_nil, List.contains_cons, List.contains_nil, Nat.reduceBEq, Nat.reduceAdd, Bool.or_false, Bool.false_or, Bool.or_true, Bool.true_or, Bool.false_eq_true, if_false, if_true, ite_true, ite_false, Nat.reduceEqDiff, beq_self_eq_true] at hK ⊢
          go_wp2_with (fail)
          exact hK _ _ (by (first | ((repeat' with_reducible first | assumption | exact Below.refl _ _ | apply Blw.alloc | apply Blw.drew | apply Blw.drewN | (refine Blw.after ?_ (by assumption)) | (refine Blw.set ?_ (by first | (dsimp only; omega) | (simp; omega)) _)); done) | (repeat' (first | assumption | exact Below.refl _ _ | apply Blw.alloc | apply Blw.drew | apply Blw.drewN | (refine Blw.after ?_ (by assumption)) | (refine Blw.set ?_ (by first | (dsimp only; omega) | (simp; done) | (simp; omega)) _))))) rfl
        · intro u w2 hH hd
          simp only [setU, upd, List.map_cons, List.map_nil, List.contains_cons, List.contains_nil, Nat.reduceBEq, Nat.reduceAdd, Bool.or_false, Bool.false_or, Bool.or_true, Bool.true_or, Bool.false_eq_true, if_false, if_true, ite_true, ite_false, Nat.reduceEqDiff, beq_self_eq_true]
          refine ⟨(pr (hiT k).1 (hiT k).2), fun w hS => ?_, by first | rfl | trivial, by first | rfl | trivial, by first | rfl | trivial⟩
          first | (go_simp; done) | (go_simp; exact IntWalk.i64_in _ (by omega))
        intro u w2 hH hF hne
        have hH1 := hH.1
        have hH2 := hH.2.2.2
        simp only [allFacts, SlotFact.h] at hF
        obtain ⟨f60, f61, -⟩ := hF
        simp only [setU, upd, List.map_cons, List.map_nil, List.contains_cons, List.contains_nil, Nat.reduceBEq, Nat.reduceAdd, Bool.or_false, Bool.false_or, Bool.or_true, Bool.true_or, Bool.false_eq_true, if_false, if_true, ite_true, ite_false, Nat.reduceEqDiff, beq_self_eq_true]
        rw [f60, f61]
        clear f60 f61 hne
        refine wpListS_step fun K hK => ?_
        go_wp2_with (fail)
        refine hK _ _ (by go_simp) ?_
        clear hK
        refine wpListS_step fun K hK => ?_
        go_wp2_with (fail)
        refine hK _ _ (by go_simp) ?_
        clear hK
        refine wpListS_step fun K hK => ?_
        go_wp2_with (fail)
        refine hK _ _ (by go_simp) ?_
        clear hK
        refine wpListS_nil ?_
        go_wp2_with fail
        exact bodyPost_ret (v := .tuple #[pr (loT k).1 (loT k).2, pr (hiT k).1 (hiT k).2, .bool true]) (by simp [results, Tryd.results35, go_sem, *]) rfl ⟨by rw [HV.out], by (first | ((repeat' with_reducible first | assumption | exact Below.refl _ _ | apply Blw.alloc | apply Blw.drew | apply Blw.drewN | (refine Blw.after ?_ (by assumption)) | (refine Blw.set ?_ (by first | (dsimp only; omega) | (simp; omega)) _)); done) | (repeat' (first | assumption | exact Below.refl _ _ | apply Blw.alloc | apply Blw.drew | apply Blw.drewN | (refine Blw.after ?_ (by assumption)) | (refine Blw.set ?_ (by first | (dsimp only; omega) | (simp; done) | (simp; omega)) _))))⟩
  · have HV := Lib.hid (boxV_no h1)
    go_enter Tryd.func35, Tryd.ntmps35
    go_wp2_with (first | (go_at_call 48; refine (l6In_c _ _ _ _).mono ?_; rintro e w1 ⟨rfl, rfl⟩))
    generalize hW : World.alloc _ _ = W0
    have kW0_11 : W0.cell? ⟨w.heap.size, 0, none⟩ = some (.int .i64 (0)) := by rw [← hW]; clear hW; first | (go_simp; done) | ((repeat refine keepcell ((Below.refl _ _).alloc (Nat.le_refl _) _) ?_); go_simp; done) | (simp only [frozen?_alloc_cells]; go_simp; done)
    have zW0_11 : W0.frozen? ⟨w.heap.size, 0, none⟩ = false := by rw [← hW]; clear hW; first | (go_simp; done) | ((repeat refine keepcell ((Below.refl _ _).alloc (Nat.le_refl _) _) ?_); go_simp; done) | (simp only [frozen?_alloc_cells]; go_simp; done)
    have kW0_12 : W0.cell? ⟨w.heap.size, 1, none⟩ = some (.int .i64 (0)) := by rw [← hW]; clear hW; first | (go_simp; done) | ((repeat refine keepcell ((Below.refl _ _).alloc (Nat.le_refl _) _) ?_); go_simp; done) | (simp only [frozen?_alloc_cells]; go_simp; done)
    have zW0_12 : W0.frozen? ⟨w.heap.size, 1, none⟩ = false := by rw [← hW]; clear hW; first | (go_simp; done) | ((repeat refine keepcell ((Below.refl _ _).alloc (Nat.le_refl _) _) ?_); go_simp; done) | (simp only [frozen?_alloc_cells]; go_simp; done)
    have : w.heap.size < W0.heap.size := World.block_lt_of_cell? W0 ⟨w.heap.size, 0, none⟩ (by assumption)
    have kW0_13 : W0.cell? ⟨w.heap.size + 1, 0, none⟩ = some (.int .i64 (0)) := by rw [← hW]; clear hW; first | (go_simp; done) | ((repeat refine keepcell ((Below.refl _ _).alloc (Nat.le_refl _) _) ?_); go_simp; done) | (simp only [frozen?_alloc_cells]; go_simp; done)
    have zW0_13 : W0.frozen? ⟨w.heap.size + 1, 0, none⟩ = false := by rw [← hW]; clear hW; first | (go_simp; done) | ((repeat refine keepcell ((Below.refl _ _).alloc (Nat.le_refl _) _) ?_); go_simp; done) | (simp only [frozen?_alloc_cells]; go_simp; done)
    have kW0_14 : W0.cell? ⟨w.heap.size + 1, 1, none⟩ = some (.int .i64 (0)) := by rw [← hW]; clear hW; first | (go_simp; done) | ((repeat refine keepcell ((Below.refl _ _).alloc (Nat.le_refl _) _) ?_); go_simp; done) | (simp only [frozen?_alloc_cells]; go_simp; done)
    have zW0_14 : W0.frozen? ⟨w.heap.size + 1, 1, none⟩ = false := by rw [← hW]; clear hW; first | (go_simp; done) | ((repeat refine keepcell ((Below.refl _ _).alloc (Nat.le_refl _) _) ?_); go_simp; done) | (simp only [frozen?_alloc_cells]; go_simp; done)
    have : w.heap.size + 1 < W0.heap.size := World.block_lt_of_cell? W0 ⟨w.heap.size + 1, 0, none⟩ (by assumption)
    have kW0_15 : W0.cell? ⟨w.heap.size + 2, 0, none⟩ = some (.int .i64 (0)) := by rw [← hW]; clear hW; first | (go_simp; done) | ((repeat refine keepcell ((Below.refl _ _).alloc (Nat.le_refl _) _) ?_); go_simp; done) | (simp only [frozen?_alloc_cells]; go_simp; done)
    have zW0_15 : W0.frozen? ⟨w.heap.size + 2, 0, none⟩ = false := by rw [← hW]; clear hW; first | (go_simp; done) | ((repeat refine keepcell ((Below.refl _ _).alloc (Nat.le_refl _) _) ?_); go_simp; done) | (simp only [frozen?_alloc_cells]; go_simp; done)
    have kW0_16 : W0.cell? ⟨w.heap.size + 2, 1, none⟩ = some (.int .i64 (0)) := by rw [← hW]; clear hW; first | (go_simp; done) | ((repeat refine keepcell ((Below.refl _ _).alloc (Nat.le_refl _) _) ?_); go_simp; done) | (simp only [frozen?_alloc_cells]; go_simp; done)
    have zW0_16 : W0.frozen? ⟨w.heap.size + 2, 1, none⟩ = false := by rw [← hW]; clear hW; first | (go_simp; done) | ((repeat refine keepcell ((Below.refl _ _).alloc (Nat.le_refl _) _) ?_); go_simp; done) | (simp only [frozen?_alloc_cells]; go_simp; done)
    have : w.heap.size + 2 < W0.heap.size := World.block_lt_of_cell? W0 ⟨w.heap.size + 2, 0, none⟩ (by assumption)
    have kW0_17 : W0.cell? ⟨w.heap.size + 3, 0, none⟩ = some (.int .i64 (0)) := by rw [← hW]; clear hW; first | (go_simp; done) | ((repeat refine keepcell ((Below.refl _ _).alloc (Nat.le_refl _) _) ?_); go_simp; done) | (simp only [frozen?_alloc_cells]; go_simp; done)
    have zW0_17 : W0.frozen? ⟨w.heap.size + 3, 0, none⟩ = false := by rw [← hW]; clear hW; first | (go_simp; done) | ((repeat refine keepcell ((Below.refl _ _).alloc (Nat.le_refl _) _) ?_); go_simp; done) | (simp only [frozen?_alloc_cells]; go_simp; done)
    have kW0_18 : W0.cell? ⟨w.heap.size + 3, 1, none⟩ = some (.int .i64 (0)) := by rw [← hW]; clear hW; first | (go_simp; done) | ((repeat refine keepcell ((Below.refl _ _).alloc (Nat.le_refl _) _) ?_); go_simp; done) | (simp only [frozen?_alloc_cells]; go_simp; done)
    have zW0_18 : W0.frozen? ⟨w.heap.size + 3, 1, none⟩ = false := by rw [← hW]; clear hW; first | (go_simp; done) | ((repeat refine keepcell ((Below.refl _ _).alloc (Nat.le_refl _) _) ?_); go_simp; done) | (simp only [frozen?_alloc_cells]; go_simp; done)
    have : w.heap.size + 3 < W0.heap.size := World.block_lt_of_cell? W0 ⟨w.heap.size + 3, 0, none⟩ (by assumption)
    have hBW0 : Below w.heap.size w W0 := by rw [← hW]; (first | ((repeat' with_reducible first | assumption | exact Below.refl _ _ | apply Blw.alloc | apply Blw.drew | apply Blw.drewN | (refine Blw.after ?_ (by assumption)) | (refine Blw.set ?_ (by first | (dsimp only; omega) | (simp; omega)) _)); done) | (repeat' (first | assumption | exact Below.refl _ _ | apply Blw.alloc | apply Blw.drew | apply Blw.drewN | (refine Blw.after ?_ (by assumption)) | (refine Blw.set ?_ (by first | (dsimp only; omega) | (simp; done) | (simp; omega)) _))))
    have hsW0 := hBW0.size
    clear hW
    refine region_slots (fun w' => w'.cell? ⟨w.heap.size + 3, 0, none⟩ = some (.int .i64 (0)) ∧ w'.cell? ⟨w.heap.size + 3, 1, none⟩ = some (.int .i64 (0))) [1] [(14, .is (pr 0 0)), (15, .is (pr 0 0))] (by kernel_rfl) (by kernel_rfl) (by kernel_rfl) (fun w' hH => by go_simp) (fun _ _ _ _ _ _ h => h) ?_
    simp only [Steps, List.contains_cons, List.contains_nil, Nat.reduceBEq, Nat.reduceAdd, Bool.or_false, Bool.false_or, Bool.or_true, Bool.true_or, Bool.false_eq_true, if_false, if_true]
    refine ⟨?_, ?_, ?_⟩
    · intro u w2 hH hd K hK
      simp only [setU, upd, List.map_cons, List.map_nil, List.contains_cons, List.contains_nil, Nat.reduceBEq, Nat.reduceAdd, Bool.or_false, Bool.false_or, Bool.or_true, Bool.true_or, Bool.false_eq_true, if_false, if_true, ite_true, ite_false, Nat.reduceEqDiff, beq_self_eq_true] at hK ⊢
      go_wp2_with (fail)
      exact hK _ _ (by (first | ((repeat' with_reducible first | assumption | exact Below.refl _ _ | apply Blw.alloc | apply Blw.drew | apply Blw.drewN | (refine Blw.after ?_ (by assumption)) | (refine Blw.set ?_ (by first | (dsimp only; omega) | (simp; omega)) _)); done) | (repeat' (first | assumption | exact Below.refl _ _ | apply Blw.alloc | apply Blw.drew | apply Blw.drewN | (refine Blw.after ?_ (by assumption)) | (refine Blw.set ?_ (by first | (dsimp only; omega) | (simp; done) | (simp; omega)) _))))) rfl
    · intro u w2 hH hd
      simp only [setU, upd, List.map_cons, List.map_nil, List.contains_cons, List.contains_nil, Nat.reduceBEq, Nat.reduceAdd, Bool.or_false, Bool.false_or, Bool.or_true, Bool.true_or, Bool.false_eq_true, if_false, if_true, ite_true, ite_false, Nat.reduceEqDiff, beq_self_eq_true]
      refine ⟨(pr 0 0), fun w hS => ?_, by first | rfl | trivial, by first | rfl | trivial, by first | rfl | trivial⟩
      first | (go_simp; done) | (go_simp; exact IntWalk.i64_in _ (by omega))
    intro u w2 hH hF hne
    have hH1 := hH.1
    have hH2 := hH.2.2.2
    simp only [allFacts, SlotFact.h] at hF
    obtain ⟨f14, f15, -⟩ := hF
    simp only [setU, upd, List.map_cons, List.map_nil, List.contains_cons, List.contains_nil, Nat.reduceBEq, Nat.reduceAdd, Bool.or_false, Bool.false_or, Bool.or_true, Bool.true_or, Bool.false_eq_true, if_false, if_true, ite_true, ite_false, Nat.reduceEqDiff, beq_self_eq_true]
    rw [f14, f15]
    clear f14 f15 hne
    refine wpListS_step fun K hK => ?_
    go_wp2_with (fail)
    refine hK _ _ (by go_simp) ?_
    clear hK
    refine wpListS_step fun K hK => ?_
    go_wp2_with (fail)
    refine hK _ _ (by go_simp) ?_
    clear hK
    refine wpListS_step fun K hK => ?_
    go_wp2_with (fail)
    refine hK _ _ (by go_simp) ?_
    clear hK
    refine wpListS_nil ?_
    go_wp2_with fail
    exact bodyPost_ret (v := .tuple #[pr 0 0, pr 0 0, .bool false]) (by simp [results, Tryd.results35, go_sem, *]) rfl ⟨by rw [HV.out], by (first | ((repeat' with_reducible first | assumption | exact Below.refl _ _ | apply Blw.alloc | apply Blw.drew | apply Blw.drewN | (refine Blw.after ?_ (by assumption)) | (refine Blw.set ?_ (by first | (dsimp only; omega) | (simp; omega)) _)); done) | (repeat' (first | assumption | exact Below.refl _ _ | apply Blw.alloc | apply Blw.drew | apply Blw.drewN | (refine Blw.after ?_ (by assumption)) | (refine Blw.set ?_ (by first | (dsimp only; omega) | (simp; done) | (simp; omega)) _))))⟩
set_option maxRecDepth 100000 in
set_option maxHeartbeats 4000000 in
theorem iTileBox_c (a : Int) (w : World) : Calls Tryd.prog 33 #[.int .i64 a] w fun e w' => e = .returned (boxV a) ∧ Below w.heap.size w w' := by
  rcases Bool.eq_false_or_eq_true (inR 0 12 a) with h1 | h1
  · have HV := Lib.hid (boxV_yes h1)
    have H1 := inR_leB h1
    obtain ⟨n, rfl⟩ : ∃ n : Nat, a = (n : Int) := ⟨a.toNat, by omega⟩
    rw [Int.toNat_natCast] at HV
    go_enter Tryd.func33, Tryd.ntmps33
    go_wp2
    generalize hW : World.alloc _ _ = W0
    have kW0_19 : W0.cell? ⟨w.heap.size, 0, none⟩ = some (.int .i64 (0)) := by rw [← hW]; clear hW; first | (go_simp; done) | ((repeat refine keepcell ((Below.refl _ _).alloc (Nat.le_refl _) _) ?_); go_simp; done) | (simp only [frozen?_alloc_cells]; go_simp; done)
    have zW0_19 : W0.frozen? ⟨w.heap.size, 0, none⟩ = false := by rw [← hW]; clear hW; first | (go_simp; done) | ((repeat refine keepcell ((Below.refl _ _).alloc (Nat.le_refl _) _) ?_); go_simp; done) | (simp only [frozen?_alloc_cells]; go_simp; done)
    have kW0_20 : W0.cell? ⟨w.heap.size, 1, none⟩ = some (.int .i64 (0)) := by rw [← hW]; clear hW; first | (go_simp; done) | ((repeat refine keepcell ((Below.refl _ _).alloc (Nat.le_refl _) _) ?_); go_simp; done) | (simp only [frozen?_alloc_cells]; go_simp; done)
    have zW0_20 : W0.frozen? ⟨w.heap.size, 1, none⟩ = false := by rw [← hW]; clear hW; first | (go_simp; done) | ((repeat refine keepcell ((Below.refl _ _).alloc (Nat.le_refl _) _) ?_); go_simp; done) | (simp only [frozen?_alloc_cells]; go_simp; done)
    have : w.heap.size < W0.heap.size := World.block_lt_of_cell? W0 ⟨w.heap.size, 0, none⟩ (by assumption)
    have kW0_21 : W0.cell? ⟨w.heap.size + 1, 0, none⟩ = some (.int .i64 (0)) := by rw [← hW]; clear hW; first | (go_simp; done) | ((repeat refine keepcell ((Below.refl _ _).alloc (Nat.le_refl _) _) ?_); go_simp; done) | (simp only [frozen?_alloc_cells]; go_simp; done)
    have zW0_21 : W0.frozen? ⟨w.heap.size + 1, 0, none⟩ = false := by rw [← hW]; clear hW; first | (go_simp; done) | ((repeat refine keepcell ((Below.refl _ _).alloc (Nat.le_refl _) _) ?_); go_simp; done) | (simp only [frozen?_alloc_cells]; go_simp; done)
    have kW0_22 : W0.cell? ⟨w.heap.size + 1, 1, none⟩ = some (.int .i64 (0)) := by rw [← hW]; clear hW; first | (go_simp; done) | ((repeat refine keepcell ((Below.refl _ _).alloc (Nat.le_refl _) _) ?_); go_simp; done) | (simp only [frozen?_alloc_cells]; go_simp; done)
    have zW0_22 : W0.frozen? ⟨w.heap.size + 1, 1, none⟩ = false := by rw [← hW]; clear hW; first | (go_simp; done) | ((repeat refine keepcell ((Below.refl _ _).alloc (Nat.le_refl _) _) ?_); go_simp; done) | (simp only [frozen?_alloc_cells]; go_simp; done)
    have : w.heap.size + 1 < W0.heap.size := World.block_lt_of_cell? W0 ⟨w.heap.size + 1, 0, none⟩ (by assumption)
    have kW0_23 : W0.cell? ⟨w.heap.size + 2, 0, none⟩ = some (.int .i64 (0)) := by rw [← hW]; clear hW; first | (go_simp; done) | ((repeat refine keepcell ((Below.refl _ _).alloc (Nat.le_refl _) _) ?_); go_simp; done) | (simp only [frozen?_alloc_cells]; go_simp; done)
    have zW0_23 : W0.frozen? ⟨w.heap.size + 2, 0, none⟩ = false := by rw [← hW]; clear hW; first | (go_simp; done) | ((repeat refine keepcell ((Below.refl _ _).alloc (Nat.le_refl _) _) ?_); go_simp; done) | (simp only [frozen?_alloc_cells]; go_simp; done)
    have kW0_24 : W0.cell? ⟨w.heap.size + 2, 1, none⟩ = some (.int .i64 (0)) := by rw [← hW]; clear hW; first | (go_simp; done) | ((repeat refine keepcell ((Below.refl _ _).alloc (Nat.le_refl _) _) ?_); go_simp; done) | (simp only [frozen?_alloc_cells]; go_simp; done)
    have zW0_24 : W0.frozen? ⟨w.heap.size + 2, 1, none⟩ = false := by rw [← hW]; clear hW; first | (go_simp; done) | ((repeat refine keepcell ((Below.refl _ _).alloc (Nat.le_refl _) _) ?_); go_simp; done) | (simp only [frozen?_alloc_cells]; go_simp; done)
    have : w.heap.size + 2 < W0.heap.size := World.block_lt_of_cell? W0 ⟨w.heap.size + 2, 0, none⟩ (by assumption)
    have kW0_25 : W0.cell? ⟨w.heap.size + 3, 0, none⟩ = some (.int .i64 (0)) := by rw [← hW]; clear hW; first | (go_simp; done) | ((repeat refine keepcell ((Below.refl _ _).alloc (Nat.le_refl _) _) ?_); go_simp; done) | (simp only [frozen?_alloc_cells]; go_simp; done)
    have zW0_25 : W0.frozen? ⟨w.heap.size + 3, 0, none⟩ = false := by rw [← hW]; clear hW; first | (go_simp; done) | ((repeat refine keepcell ((Below.refl _ _).alloc (Nat.le_refl _) _) ?_); go_simp; done) | (simp only [frozen?_alloc_cells]; go_simp; done)
    have kW0_26 : W0.cell? ⟨w.heap.size + 3, 1, none⟩ = some (.int .i64 (0)) := by rw [← hW]; clear hW; first | (go_simp; done) | ((repeat refine keepcell ((Below.refl _ _).alloc (Nat.le_refl _) _) ?_); go_simp; done) | (simp only [frozen?_alloc_cells]; go_simp; done)
    have zW0_26 : W0.frozen? ⟨w.heap.size + 3, 1, none⟩ = false := by rw [← hW]; clear hW; first | (go_simp; done) | ((repeat refine keepcell ((Below.refl _ _).alloc (Nat.le_refl _) _) ?_); go_simp; done) | (simp only [frozen?_alloc_cells]; go_simp; done)
    have : w.heap.size + 3 < W0.heap.size := World.block_lt_of_cell? W0 ⟨w.heap.size + 3, 0, none⟩ (by assumption)
    have hBW0 : Below w.heap.size w W0 := by rw [← hW]; (first | ((repeat' with_reducible first | assumption | exact Below.refl _ _ | apply Blw.alloc | apply Blw.drew | apply Blw.drewN | (refine Blw.after ?_ (by assumption)) | (refine Blw.set ?_ (by first | (dsimp only; omega) | (simp; omega)) _)); done) | (repeat' (first | assumption | exact Below.refl _ _ | apply Blw.alloc | apply Blw.drew | apply Blw.drewN | (refine Blw.after ?_ (by assumption)) | (refine Blw.set ?_ (by first | (dsimp only; omega) | (simp; done) | (simp; omega)) _))))
    have hsW0 := hBW0.size
    clear hW
    go_loopg [18] n (fun m i wr => IBoxRel n w m i wr)
    case atStart => exact ⟨0, by omega, rfl, hBW0, ⟨by assumption, by assumption, by assumption, by assumption⟩, ⟨by assumption, by assumption, by assumption, by assumption⟩, ⟨by assumption, by assumption, by assumption, by assumption⟩, ⟨by assumption, by assumption, by assumption, by assumption⟩⟩
    case round =>
      try clear kW0_19; try clear zW0_19; try clear kW0_20; try clear zW0_20; try clear kW0_21; try clear zW0_21; try clear kW0_22; try clear zW0_22; try clear kW0_23; try clear zW0_23; try clear kW0_24; try clear zW0_24; try clear kW0_25; try clear zW0_25; try clear kW0_26; try clear zW0_26
      obtain ⟨k, hk, rfl, hBw, O0, O1, O2, O3⟩ := hrel
      have L3 := O3.lt
      have L0 : w.heap.size < wr.heap.size := by omega
      have L1 : w.heap.size + 1 < wr.heap.size := by omega
      have L2 : w.heap.size + 2 < wr.heap.size := by omega
      by_cases hlt : k < n
      · have hb := bpw_in (n := k) (by omega)
        obtain ⟨⟨x1, x2⟩, x3, x4⟩ := box_in k (by simp; omega)
        have hP := fun w => digitsPair_c (oneB k) w (by rw [show toL (oneB k) = 49 :: List.replicate k 48 from toL_bs _]; intro c hc; rcases List.mem_cons.1 hc with rfl | hc; · rfl
                                                        · rw [(List.mem_replicate.1 hc).2]; rfl) (by rw [← toL_len, show toL (oneB k) = 49 :: List.replicate k 48 from toL_bs _]; simp; omega)
        have hv := val_one k
        rw [show toL (oneB k) = 49 :: List.replicate k 48 from toL_bs _, show valX (49 :: List.replicate k 48) = (bpw k).1 from congrArg Prod.fst hv, show valY (49 :: List.replicate k 48) = (bpw k).2 from congrArg Prod.snd hv] at hP
        have HP := Lib.hid hP
        have HS := Lib.hid (fun w => shiftOne_c k w (by omega))
        have HN := Lib.hid (And.intro (show loT (k + 1) = ((loT k).1 + min 0 (bpw k).1, (loT k).2 + min 0 (bpw k).2) from rfl) (show hiT (k + 1) = ((hiT k).1 + max 0 (bpw k).1, (hiT k).2 + max 0 (bpw k).2) from rfl))
        clear hP hv
        generalize oneB k = tk at *
        generalize (loT k).1 = X at *
        generalize (loT k).2 = Y at *
        generalize (hiT k).1 = R at *
        generalize (hiT k).2 = I at *
        generalize (bpw k).1 = A at *
        generalize (bpw k).2 = C at *
        have n1 : -4096 ≤ A ∧ A ≤ 4096 ∧ -4096 ≤ C ∧ C ≤ 4096 := by omega
        have n2 : -20000 ≤ X ∧ X ≤ 20000 ∧ -20000 ≤ Y ∧ Y ≤ 20000 ∧ -20000 ≤ R ∧ R ≤ 20000 ∧ -20000 ≤ I ∧ I ≤ 20000 := by omega
        clear hb x1 x2 x3 x4
        go_wp2_with fail
        refine (HS.out _).mono ?_
        rintro e wA ⟨rfl, hbwA⟩
        have LA := hbwA.size
        go_wp2_with fail
        refine (HP.out _).mono ?_
        rintro e wB ⟨rfl, hbwB⟩
        have LB := hbwB.size
        have hBB : Below w.heap.size w wB := Blw.after (Blw.after hBw hbwA) hbwB
        replace O0 := (O0.below hbwA L0).below hbwB (by omega)
        replace O1 := (O1.below hbwA L1).below hbwB (by omega)
        replace O2 := (O2.below hbwA L2).below hbwB (by omega)
        replace O3 := (O3.below hbwA L3).below hbwB (by omega)
        have M3 := O3.lt
        have M0 := O0.lt
        have M1 := O1.lt
        have M2 := O2.lt
        clear hBw hbwA hbwB
        obtain ⟨q0, q1, f00, f01⟩ := id O2
        obtain ⟨r0, r1, f30, f31⟩ := id O3
        have HO := Lib.hid (And.intro O0 (And.intro O1 (And.intro O2 O3)))
        clear O0 O1 O2 O3
        go_wp2
        go_roundg (gk - 1)
        case measure => omega
        case rel =>
          obtain ⟨hl, hh⟩ := HN.out
          obtain ⟨O0, O1, O2, O3⟩ := HO.out
          refine ⟨k + 1, by omega, by go_num, by (first | ((repeat' with_reducible first | assumption | exact Below.refl _ _ | apply Blw.alloc | apply Blw.drew | apply Blw.drewN | (refine Blw.after ?_ (by assumption)) | (refine Blw.set ?_ (by first | (dsimp only; omega) | (simp; omega)) _)); done) | (repeat' (first | assumption | exact Below.refl _ _ | apply Blw.alloc | apply Blw.drew | apply Blw.drewN | (refine Blw.after ?_ (by assumption)) | (refine Blw.set ?_ (by first | (dsimp only; omega) | (simp; done) | (simp; omega)) _)))), ?_, ?_, ?_, ?_⟩
          · ((try simp only [Nat.add_assoc, Nat.reduceAdd]) <;> (repeat with_reducible first | assumption | exact Own2.x (by assumption) | apply Own2X.put | (refine Own2.set ?_ (by omega)) | (refine Own2.alloc ?_ _) | (refine Own2X.set ?_ (by omega)) | (refine Own2X.alloc ?_ _)))
          · ((try simp only [Nat.add_assoc, Nat.reduceAdd]) <;> (repeat with_reducible first | assumption | exact Own2.x (by assumption) | apply Own2X.put | (refine Own2.set ?_ (by omega)) | (refine Own2.alloc ?_ _) | (refine Own2X.set ?_ (by omega)) | (refine Own2X.alloc ?_ _)))
          · rw [hl]; dsimp only; ((try simp only [Nat.add_assoc, Nat.reduceAdd]) <;> (repeat with_reducible first | assumption | exact Own2.x (by assumption) | apply Own2X.put | (refine Own2.set ?_ (by omega)) | (refine Own2.alloc ?_ _) | (refine Own2X.set ?_ (by omega)) | (refine Own2X.alloc ?_ _)))
          · rw [hh]; dsimp only; ((try simp only [Nat.add_assoc, Nat.reduceAdd]) <;> (repeat with_reducible first | assumption | exact Own2.x (by assumption) | apply Own2X.put | (refine Own2.set ?_ (by omega)) | (refine Own2.alloc ?_ _) | (refine Own2X.set ?_ (by omega)) | (refine Own2X.alloc ?_ _)))
      · obtain rfl : k = n := by omega
        obtain ⟨q0, q1, f00, f01⟩ := O2
        obtain ⟨r0, r1, f30, f31⟩ := O3
        obtain ⟨a0, a1, f10, f11⟩ := O0
        obtain ⟨b0, b1, f20, f21⟩ := O1
        go_wp2_with fail
        refine region_slots (fun w' => w'.cell? ⟨w.heap.size + 3, 0, none⟩ = some (.int .i64 ((hiT k).1)) ∧ w'.cell? ⟨w.heap.size + 3, 1, none⟩ = some (.int .i64 ((hiT k).2))) [1] [(53, .is (pr (loT k).1 (loT k).2)), (54, .is (pr (hiT k).1 (hiT k).2))] (by kernel_rfl) (by kernel_rfl) (by kernel_rfl) (fun w' hH => by go_simp) (fun _ _ _ _ _ _ h => h) ?_
        simp only [Steps, List.contains_cons, List.contains_nil, Nat.reduceBEq, Nat.reduceAdd, Bool.or_false, Bool.false_or, Bool.or_true, Bool.true_or, Bool.false_eq_true, if_false, if_true]
        refine ⟨?_, ?_, ?_⟩
        · intro u w2 hH hd K hK
          simp only [setU, upd, List.map_cons, List.map_nil, List.contains_cons, List.contains_nil, Nat.reduceBEq, Nat.reduceAdd, Bool.or_false, Bool.false_or, Bool.or_true, Bool.true_or, Bool.false_eq_true, if_false, if_true, ite_true, ite_false, Nat.reduceEqDiff, beq_self_eq_true] at hK ⊢
          go_wp2_with (fail)
          exact hK _ _ (by (first | ((repeat' with_reducible first | assumption | exact Below.refl _ _ | apply Blw.alloc | apply Blw.drew | apply Blw.drewN | (refine Blw.after ?_ (by assumption)) | (refine Blw.set ?_ (by first | (dsimp only; omega) | (simp; omega)) _)); done) | (repeat' (first | assumption | exact Below.refl _ _ | apply Blw.alloc | apply Blw.drew | apply Blw.drewN | (refine Blw.after ?_ (by assumption)) | (refine Blw.set ?_ (by first | (dsimp only; omega) | (simp; done) | (simp; omega)) _))))) rfl
        · intro u w2 hH hd
          simp only [setU, upd, List.map_cons, List.map_nil, List.contains_cons, List.contains_nil, Nat.reduceBEq, Nat.reduceAdd, Bool.or_false, Bool.false_or, Bool.or_true, Bool.true_or, Bool.false_eq_true, if_false, if_true, ite_true, ite_false, Nat.reduceEqDiff, beq_self_eq_true]
          refine ⟨(pr (hiT k).1 (hiT k).2), fun w hS => ?_, by first | rfl | trivial, by first | rfl | trivial, by first | rfl | trivial⟩
          first | (go_simp; done) | (go_simp; exact IntWalk.i64_in _ (by omega))
        intro u w2 hH hF hne
        have hH1 := hH.1
        have hH2 := hH.2.2.2
        simp only [allFacts, SlotFact.h] at hF
        obtain ⟨f53, f54, -⟩ := hF
        simp only [setU, upd, List.map_cons, List.map_nil, List.contains_cons, List.contains_nil, Nat.reduceBEq, Nat.reduceAdd, Bool.or_false, Bool.false_or, Bool.or_true, Bool.true_or, Bool.false_eq_true, if_false, if_true, ite_true, ite_false, Nat.reduceEqDiff, beq_self_eq_true]
        rw [f53, f54]
        clear f53 f54 hne
        refine wpListS_step fun K hK => ?_
        go_wp2_with (fail)
        refine hK _ _ (by go_simp) ?_
        clear hK
        refine wpListS_step fun K hK => ?_
        go_wp2_with (fail)
        refine hK _ _ (by go_simp) ?_
        clear hK
        refine wpListS_step fun K hK => ?_
        go_wp2_with (fail)
        refine hK _ _ (by go_simp) ?_
        clear hK
        refine wpListS_nil ?_
        go_wp2_with fail
        exact bodyPost_ret (v := .tuple #[pr (loT k).1 (loT k).2, pr (hiT k).1 (hiT k).2, .bool true]) (by simp [results, Tryd.results33, go_sem, *]) rfl ⟨by rw [HV.out], by (first | ((repeat' with_reducible first | assumption | exact Below.refl _ _ | apply Blw.alloc | apply Blw.drew | apply Blw.drewN | (refine Blw.after ?_ (by assumption)) | (refine Blw.set ?_ (by first | (dsimp only; omega) | (simp; omega)) _)); done) | (repeat' (first | assumption | exact Below.refl _ _ | apply Blw.alloc | apply Blw.drew | apply Blw.drewN | (refine Blw.after ?_ (by assumption)) | (refine Blw.set ?_ (by first | (dsimp only; omega) | (simp; done) | (simp; omega)) _))))⟩
  · have HV := Lib.hid (boxV_no h1)
    have H1 : a < 0 ∨ (0 ≤ a ∧ 12 < a) := by
      simp only [inR, Bool.and_eq_false_iff, decide_eq_false_iff_not] at h1; omega
    clear h1
    rcases H1 with H1 | ⟨H1, H2⟩
    all_goals
      go_enter Tryd.func33, Tryd.ntmps33
      go_wp2
      exact bodyPost_ret (v := .tuple #[pr 0 0, pr 0 0, .bool false]) (by simp [results, Tryd.results33, go_sem, *]) rfl ⟨by rw [HV.out], by (first | ((repeat' with_reducible first | assumption | exact Below.refl _ _ | apply Blw.alloc | apply Blw.drew | apply Blw.drewN | (refine Blw.after ?_ (by assumption)) | (refine Blw.set ?_ (by first | (dsimp only; omega) | (simp; omega)) _)); done) | (repeat' (first | assumption | exact Below.refl _ _ | apply Blw.alloc | apply Blw.drew | apply Blw.drewN | (refine Blw.after ?_ (by assumption)) | (refine Blw.set ?_ (by first | (dsimp only; omega) | (simp; done) | (simp; omega)) _))))⟩
end Go.Proofs.YtaleeoghifcadaaDoor

namespace Go.Proofs.YtaleeoghifcadaaDoor
set_option linter.unusedSimpArgs false
set_option linter.unusedVariables false
open Go.RowKit Ieee
open Go.ChangeMaps Go.MapKept

def nrT (z : ZZ) : List ZZ := [(z.1 + 1, z.2), (z.1, z.2 + 1), (z.1 - 1, z.2), (z.1, z.2 - 1)]
def outsN (n : Nat) (z : ZZ) (k : Nat) : List ZZ := ((nrT z).take k).filter fun p => !decide (qn n p = (0, 0))
def outs (n : Nat) (z : ZZ) : List ZZ := (nrT z).filter fun p => !decide (qn n p = (0, 0))
theorem infoC6 : (Tryd.prog.info? 75).map (fun i => (i.zero, i.size, i.bytes)) = some (some (.complex .f32 0 0), 1, 8) := by kernel_rfl
theorem encP_m1 : (Value.complex .f32 3212836864 0) = encP (-1, 0) := by unfold encP px py; rw [w0s, wm1s]
theorem encP_i : (Value.complex .f32 0 1065353216) = encP (0, 1) := by unfold encP px py; rw [w0s, w1s]
theorem encP_mi : (Value.complex .f32 0 3212836864) = encP (0, -1) := by unfold encP px py; rw [w0s, wm1s]
theorem zeroInt (w : World) : (zeroValue 3).run Tryd.prog w = .ok (.int .i64 0) w := by kernel_rfl
/-- one round: the step, the point it leads to, and what is told of it -/
def OtRel (n : Nat) (z : ZZ) (w : World) (m : Nat) (v i : Value) (wr : World) : Prop :=
  ∃ k : Nat, k + m = 4 ∧ i = .int .i64 k ∧ wr.ownsRow w.heap.size 75 1 v (outsN n z k).length ((outsN n z k).map encP) ∧ Below w.heap.size w wr
theorem outsN_len (n : Nat) (z : ZZ) (k : Nat) : (outsN n z k).length ≤ 4 := by
  unfold outsN
  refine Nat.le_trans (List.length_filter_le _ _) ?_
  rw [List.length_take]
  show min k 4 ≤ 4
  omega
theorem outsN_in {n : Nat} {z p : ZZ} {k : Nat} (h : (nrT z)[k]? = some p) (hp : qn n p = (0, 0)) : outsN n z (k + 1) = outsN n z k := by
  unfold outsN
  rw [List.take_add_one, h, List.filter_append]
  simp [hp]
theorem outsN_out {n : Nat} {z p : ZZ} {k : Nat} (h : (nrT z)[k]? = some p) (hp : ¬ qn n p = (0, 0)) : outsN n z (k + 1) = outsN n z k ++ [p] := by
  unfold outsN
  rw [List.take_add_one, h, List.filter_append]
  simp [hp]
theorem outsN_all (n : Nat) (z : ZZ) : outsN n z 4 = outs n z := rfl
theorem step_at0 (w : World) : (Instr.index 99 (.agg #[.complex .f32 1065353216 0, .complex .f32 0 1065353216, .complex .f32 3212836864 0, .complex .f32 0 3212836864]) (.int .i64 0)).run Tryd.prog w = .ok (.complex .f32 1065353216 0) w := by
  simp [Instr.index, go_sem, Tryd.underlying99, Tryd.underlying75]
theorem step_add0 {z : ZZ} (h : z.1.natAbs ≤ 1000 ∧ z.2.natAbs ≤ 1000) (t : TypeId) (w : World) : (binOp .add t (encP z) (.complex .f32 1065353216 0)).run Tryd.prog w = .ok (encP (z.1 + 1, z.2)) w := by
  have f := run_padd (P := Tryd.prog) w t (p := z) (q := (1, 0)) ⟨by omega, by omega⟩ (by unfold Sm; decide)
  rw [enc10] at f
  simpa [addP, Int.sub_eq_add_neg] using f
theorem step_at1 (w : World) : (Instr.index 99 (.agg #[.complex .f32 1065353216 0, .complex .f32 0 1065353216, .complex .f32 3212836864 0, .complex .f32 0 3212836864]) (.int .i64 1)).run Tryd.prog w = .ok (.complex .f32 0 1065353216) w := by
  simp [Instr.index, go_sem, Tryd.underlying99, Tryd.underlying75]
theorem step_add1 {z : ZZ} (h : z.1.natAbs ≤ 1000 ∧ z.2.natAbs ≤ 1000) (t : TypeId) (w : World) : (binOp .add t (encP z) (.complex .f32 0 1065353216)).run Tryd.prog w = .ok (encP (z.1, z.2 + 1)) w := by
  have f := run_padd (P := Tryd.prog) w t (p := z) (q := (0, 1)) ⟨by omega, by omega⟩ (by unfold Sm; decide)
  rw [← encP_i] at f
  simpa [addP, Int.sub_eq_add_neg] using f
theorem step_at2 (w : World) : (Instr.index 99 (.agg #[.complex .f32 1065353216 0, .complex .f32 0 1065353216, .complex .f32 3212836864 0, .complex .f32 0 3212836864]) (.int .i64 2)).run Tryd.prog w = .ok (.complex .f32 3212836864 0) w := by
  simp [Instr.index, go_sem, Tryd.underlying99, Tryd.underlying75]
theorem step_add2 {z : ZZ} (h : z.1.natAbs ≤ 1000 ∧ z.2.natAbs ≤ 1000) (t : TypeId) (w : World) : (binOp .add t (encP z) (.complex .f32 3212836864 0)).run Tryd.prog w = .ok (encP (z.1 - 1, z.2)) w := by
  have f := run_padd (P := Tryd.prog) w t (p := z) (q := (-1, 0)) ⟨by omega, by omega⟩ (by unfold Sm; decide)
  rw [← encP_m1] at f
  simpa [addP, Int.sub_eq_add_neg] using f
theorem step_at3 (w : World) : (Instr.index 99 (.agg #[.complex .f32 1065353216 0, .complex .f32 0 1065353216, .complex .f32 3212836864 0, .complex .f32 0 3212836864]) (.int .i64 3)).run Tryd.prog w = .ok (.complex .f32 0 3212836864) w := by
  simp [Instr.index, go_sem, Tryd.underlying99, Tryd.underlying75]
theorem step_add3 {z : ZZ} (h : z.1.natAbs ≤ 1000 ∧ z.2.natAbs ≤ 1000) (t : TypeId) (w : World) : (binOp .add t (encP z) (.complex .f32 0 3212836864)).run Tryd.prog w = .ok (encP (z.1, z.2 - 1)) w := by
  have f := run_padd (P := Tryd.prog) w t (p := z) (q := (0, -1)) ⟨by omega, by omega⟩ (by unfold Sm; decide)
  rw [← encP_mi] at f
  simpa [addP, Int.sub_eq_add_neg] using f
set_option maxRecDepth 100000 in
set_option maxHeartbeats 8000000 in
theorem outside_c (n : Nat) (b : Nat) (z : ZZ) (w : World) (hn : n ≤ 8) (hz : z.1.natAbs ≤ 1000 ∧ z.2.natAbs ≤ 1000) (hm : TileAt n w b) :
    Calls Tryd.prog 64 #[.map (some b), encP z] w fun e w' => ∃ v, e = .returned v ∧ w'.ownsRow w.heap.size 75 1 v (outs n z).length ((outs n z).map encP) ∧ Below w.heap.size w w' := by
  obtain ⟨i0, hi, hz0, hz1, hz2⟩ := info_parts infoC6
  have HM := Lib.hid hm
  have HZ := Lib.hid hz
  have Lb : b < w.heap.size := (Array.getElem?_eq_some_iff.1 hm).1
  clear hm
  go_enter Tryd.func64, Tryd.ntmps64
  go_wp2_with fail
  go_loopg [5, 11] 4 (fun m v i wr => OtRel n z w m v i wr)
  case atStart => exact ⟨0, by omega, rfl, by show w.ownsRow w.heap.size _ 1 (.slice none 0 0) 0 []; exact World.ownsRow_nil _ _ _ _, Below.refl _ _⟩
  case round =>
    obtain ⟨k, hk, rfl, hown, hB⟩ := hrel
    have HO := Lib.hid hown
    have HB := Lib.hid hB
    have hle := outsN_len n z k
    have HMr := Lib.hid (show TileAt n wr b from (hB.block b Lb).trans HM.out)
    have Lbr : b < wr.heap.size := Nat.lt_of_lt_of_le Lb hB.size
    clear hown hB
    by_cases hlt : k < 4
    · obtain rfl | rfl | rfl | rfl : k = 0 ∨ k = 1 ∨ k = 2 ∨ k = 3 := by omega
      · have h1 := step_at0
        have h2 := fun t w => step_add0 HZ.out t w
        have HQ := Lib.hid (show (nrT z)[0]? = some (z.1 + 1, z.2) from rfl)
        have hok : okP (z.1 + 1, z.2) := ⟨by dsimp only; omega, by dsimp only; omega⟩
        obtain ⟨v0, hl⟩ := lookE (zv := .int .i64 0) Tryd.underlying72 keyP wr (zeroInt wr) HMr.out hok (tlE_ok hn (Nat.le_refl _))
        rw [tlE_has] at hl
        generalize (z.1 + 1, z.2) = p at *
        clear hok
        by_cases hp : qn n p = (0, 0)
        · have HE := Lib.hid (outsN_in (n := n) HQ.out hp)
          rw [decide_eq_true hp] at hl
          clear hp
          go_wp2_with fail
          go_roundg (gk - 1)
          case measure => omega
          case rel => exact ⟨1, by omega, by go_num, by rw [HE.out]; exact HO.out, HB.out⟩
        · have HE := Lib.hid (outsN_out (n := n) HQ.out hp)
          rw [decide_eq_false hp] at hl
          clear hp
          have hs1 := HB.out.size
          go_wp2_with (at_builtin; refine wpList_append_own _ rfl _ _ 81 rfl w.heap.size 75 i0 (.complex .f32 0 0) 1 8 Tryd.underlying81 hi hz0 hz1 hz2 rfl (by decide) _ _ _ rfl (HO.out.alloc _) ⟨wr.heap.size, 0, none⟩ 1 1 [encP p] rfl rfl (cells1 _ _ _) (one1 _ rfl) (by unfold maxLen; omega) (by omega) (by simp; omega) ?_)
          intro v' W7 hown' hgrow _
          have HB7 := Lib.hid (show Below w.heap.size w W7 from Below.grown (by have := HB.out; (first | ((repeat' with_reducible first | assumption | exact Below.refl _ _ | apply Blw.alloc | apply Blw.drew | apply Blw.drewN | (refine Blw.after ?_ (by assumption)) | (refine Blw.set ?_ (by first | (dsimp only; omega) | (simp; omega)) _)); done) | (repeat' (first | assumption | exact Below.refl _ _ | apply Blw.alloc | apply Blw.drew | apply Blw.drewN | (refine Blw.after ?_ (by assumption)) | (refine Blw.set ?_ (by first | (dsimp only; omega) | (simp; done) | (simp; omega)) _))))) hgrow (by simp; omega) (fun k hk => (HO.out.lt k hk).1))
          have HO7 := Lib.hid hown'
          clear hown' hgrow
          go_wp2_with fail
          go_roundg (gk - 1)
          case measure => omega
          case rel => exact ⟨1, by omega, by go_num, by rw [HE.out, List.length_append, List.map_append]; exact HO7.out, HB7.out⟩
      · have h1 := step_at1
        have h2 := fun t w => step_add1 HZ.out t w
        have HQ := Lib.hid (show (nrT z)[1]? = some (z.1, z.2 + 1) from rfl)
        have hok : okP (z.1, z.2 + 1) := ⟨by dsimp only; omega, by dsimp only; omega⟩
        obtain ⟨v0, hl⟩ := lookE (zv := .int .i64 0) Tryd.underlying72 keyP wr (zeroInt wr) HMr.out hok (tlE_ok hn (Nat.le_refl _))
        rw [tlE_has] at hl
        generalize (z.1, z.2 + 1) = p at *
        clear hok
        by_cases hp : qn n p = (0, 0)
        · have HE := Lib.hid (outsN_in (n := n) HQ.out hp)
          rw [decide_eq_true hp] at hl
          clear hp
          go_wp2_with fail
          go_roundg (gk - 1)
          case measure => omega
          case rel => exact ⟨2, by omega, by go_num, by rw [HE.out]; exact HO.out, HB.out⟩
        · have HE := Lib.hid (outsN_out (n := n) HQ.out hp)
          rw [decide_eq_false hp] at hl
          clear hp
          have hs1 := HB.out.size
          go_wp2_with (at_builtin; refine wpList_append_own _ rfl _ _ 81 rfl w.heap.size 75 i0 (.complex .f32 0 0) 1 8 Tryd.underlying81 hi hz0 hz1 hz2 rfl (by decide) _ _ _ rfl (HO.out.alloc _) ⟨wr.heap.size, 0, none⟩ 1 1 [encP p] rfl rfl (cells1 _ _ _) (one1 _ rfl) (by unfold maxLen; omega) (by omega) (by simp; omega) ?_)
          intro v' W7 hown' hgrow _
          have HB7 := Lib.hid (show Below w.heap.size w W7 from Below.grown (by have := HB.out; (first | ((repeat' with_reducible first | assumption | exact Below.refl _ _ | apply Blw.alloc | apply Blw.drew | apply Blw.drewN | (refine Blw.after ?_ (by assumption)) | (refine Blw.set ?_ (by first | (dsimp only; omega) | (simp; omega)) _)); done) | (repeat' (first | assumption | exact Below.refl _ _ | apply Blw.alloc | apply Blw.drew | apply Blw.drewN | (refine Blw.after ?_ (by assumption)) | (refine Blw.set ?_ (by first | (dsimp only; omega) | (simp; done) | (simp; omega)) _))))) hgrow (by simp; omega) (fun k hk => (HO.out.lt k hk).1))
          have HO7 := Lib.hid hown'
          clear hown' hgrow
          go_wp2_with fail
          go_roundg (gk - 1)
          case measure => omega
          case rel => exact ⟨2, by omega, by go_num, by rw [HE.out, List.length_append, List.map_append]; exact HO7.out, HB7.out⟩
      · have h1 := step_at2
        have h2 := fun t w => step_add2 HZ.out t w
        have HQ := Lib.hid (show (nrT z)[2]? = some (z.1 - 1, z.2) from rfl)
        have hok : okP (z.1 - 1, z.2) := ⟨by dsimp only; omega, by dsimp only; omega⟩
        obtain ⟨v0, hl⟩ := lookE (zv := .int .i64 0) Tryd.underlying72 keyP wr (zeroInt wr) HMr.out hok (tlE_ok hn (Nat.le_refl _))
        rw [tlE_has] at hl
        generalize (z.1 - 1, z.2) = p at *
        clear hok
        by_cases hp : qn n p = (0, 0)
        · have HE := Lib.hid (outsN_in (n := n) HQ.out hp)
          rw [decide_eq_true hp] at hl
          clear hp
          go_wp2_with fail
          go_roundg (gk - 1)
          case measure => omega
          case rel => exact ⟨3, by omega, by go_num, by rw [HE.out]; exact HO.out, HB.out⟩
        · have HE := Lib.hid (outsN_out (n := n) HQ.out hp)
          rw [decide_eq_false hp] at hl
          clear hp
          have hs1 := HB.out.size
          go_wp2_with (at_builtin; refine wpList_append_own _ rfl _ _ 81 rfl w.heap.size 75 i0 (.complex .f32 0 0) 1 8 Tryd.underlying81 hi hz0 hz1 hz2 rfl (by decide) _ _ _ rfl (HO.out.alloc _) ⟨wr.heap.size, 0, none⟩ 1 1 [encP p] rfl rfl (cells1 _ _ _) (one1 _ rfl) (by unfold maxLen; omega) (by omega) (by simp; omega) ?_)
          intro v' W7 hown' hgrow _
          have HB7 := Lib.hid (show Below w.heap.size w W7 from Below.grown (by have := HB.out; (first | ((repeat' with_reducible first | assumption | exact Below.refl _ _ | apply Blw.alloc | apply Blw.drew | apply Blw.drewN | (refine Blw.after ?_ (by assumption)) | (refine Blw.set ?_ (by first | (dsimp only; omega) | (simp; omega)) _)); done) | (repeat' (first | assumption | exact Below.refl _ _ | apply Blw.alloc | apply Blw.drew | apply Blw.drewN | (refine Blw.after ?_ (by assumption)) | (refine Blw.set ?_ (by first | (dsimp only; omega) | (simp; done) | (simp; omega)) _))))) hgrow (by simp; omega) (fun k hk => (HO.out.lt k hk).1))
          have HO7 := Lib.hid hown'
          clear hown' hgrow
          go_wp2_with fail
          go_roundg (gk - 1)
          case measure => omega
          case rel => exact ⟨3, by omega, by go_num, by rw [HE.out, List.length_append, List.map_append]; exact HO7.out, HB7.out⟩
      · have h1 := step_at3
        have h2 := fun t w => step_add3 HZ.out t w
        have HQ := Lib.hid (show (nrT z)[3]? = some (z.1, z.2 - 1) from rfl)
        have hok : okP (z.1, z.2 - 1) := ⟨by dsimp only; omega, by dsimp only; omega⟩
        obtain ⟨v0, hl⟩ := lookE (zv := .int .i64 0) Tryd.underlying72 keyP wr (zeroInt wr) HMr.out hok (tlE_ok hn (Nat.le_refl _))
        rw [tlE_has] at hl
        generalize (z.1, z.2 - 1) = p at *
        clear hok
        by_cases hp : qn n p = (0, 0)
        · have HE := Lib.hid (outsN_in (n := n) HQ.out hp)
          rw [decide_eq_true hp] at hl
          clear hp
          go_wp2_with fail
          go_roundg (gk - 1)
          case measure => omega
          case rel => exact ⟨4, by omega, by go_num, by rw [HE.out]; exact HO.out, HB.out⟩
        · have HE := Lib.hid (outsN_out (n := n) HQ.out hp)
          rw [decide_eq_false hp] at hl
          clear hp
          have hs1 := HB.out.size
          go_wp2_with (at_builtin; refine wpList_append_own _ rfl _ _ 81 rfl w.heap.size 75 i0 (.complex .f32 0 0) 1 8 Tryd.underlying81 hi hz0 hz1 hz2 rfl (by decide) _ _ _ rfl (HO.out.alloc _) ⟨wr.heap.size, 0, none⟩ 1 1 [encP p] rfl rfl (cells1 _ _ _) (one1 _ rfl) (by unfold maxLen; omega) (by omega) (by simp; omega) ?_)
          intro v' W7 hown' hgrow _
          have HB7 := Lib.hid (show Below w.heap.size w W7 from Below.grown (by have := HB.out; (first | ((repeat' with_reducible first | assumption | exact Below.refl _ _ | apply Blw.alloc | apply Blw.drew | apply Blw.drewN | (refine Blw.after ?_ (by assumption)) | (refine Blw.set ?_ (by first | (dsimp only; omega) | (simp; omega)) _)); done) | (repeat' (first | assumption | exact Below.refl _ _ | apply Blw.alloc | apply Blw.drew | apply Blw.drewN | (refine Blw.after ?_ (by assumption)) | (refine Blw.set ?_ (by first | (dsimp only; omega) | (simp; done) | (simp; omega)) _))))) hgrow (by simp; omega) (fun k hk => (HO.out.lt k hk).1))
          have HO7 := Lib.hid hown'
          clear hown' hgrow
          go_wp2_with fail
          go_roundg (gk - 1)
          case measure => omega
          case rel => exact ⟨4, by omega, by go_num, by rw [HE.out, List.length_append, List.map_append]; exact HO7.out, HB7.out⟩
    · obtain rfl : k = 4 := by omega
      go_wp2_with fail
      go_ret
      exact ⟨_, rfl, HO.out, HB.out⟩
end Go.Proofs.YtaleeoghifcadaaDoor

namespace Go.Proofs.YtaleeoghifcadaaDoor
set_option linter.unusedSimpArgs false
set_option linter.unusedVariables false
open Go.RowKit Ieee
open Go.ChangeMaps Go.MapKept

set_option maxRecDepth 100000 in
theorem clone_c (n b : Nat) (w : World) (hm : TileAt n w b) : Calls Tryd.prog 81 #[.map (some b)] w fun e w' => e = .returned (.map (some w.heap.size)) ∧ w' = w.alloc (.map (mkA encP (tlE n (2 ^ n))) (2 ^ n)) := by
  have HM := Lib.hid hm
  clear hm
  go_enter Tryd.func81, Tryd.ntmps81
  have hq := fun w => run_eql_map_nil_sl (P := Tryd.prog) w 72 _ _ (some b) Tryd.underlying72
  go_wp2
  rw [run_callFunc_extern Tryd.func90 (by kernel_rfl) (by kernel_rfl) (by kernel_rfl) (e := Extern.MapsClone.clone) (by kernel_rfl), run_maps_clone_sl w 72 HM.out]
  simp only [Result.andThen]
  rw [Oper.upon_value]
  go_wp2
  rw [run_typeAssert_map_sl _ 72 _ _ _ _ Tryd.underlying72]
  simp only [Result.andThen]
  rw [Oper.upon_value]
  go_wp2
  go_ret
  exact ⟨rfl, rfl⟩
/-- the entries that have not been struck: D has been looked at -/
def rimE (n : Nat) (D : List (En ZZ)) : List (En ZZ) := (tlE n (2 ^ n)).filter fun y => !(decide (outs n y.2.1 = []) && D.any fun x => decide (x.2.1 = y.2.1))
/-- the rim's entries -/
def rimF (n : Nat) : List (En ZZ) := (tlE n (2 ^ n)).filter fun y => !decide (outs n y.2.1 = [])
theorem rimE_nil (n : Nat) : rimE n [] = tlE n (2 ^ n) := by
  unfold rimE
  rw [List.filter_eq_self]
  intro y _
  simp
theorem rimE_in {n : Nat} {D : List (En ZZ)} {x : En ZZ} (h : outs n x.2.1 = []) : rimE n (D ++ [x]) = (rimE n D).filter (fun y => !decide (y.2.1 = x.2.1)) := by
  unfold rimE
  rw [List.filter_filter]
  congr 1
  funext y
  rw [List.any_append]
  by_cases e : y.2.1 = x.2.1
  · rw [e, h]; simp
  · have e2 : ¬ x.2.1 = y.2.1 := fun h => e h.symm
    simp [e, e2]
theorem rimE_out {n : Nat} {D : List (En ZZ)} {x : En ZZ} (h : ¬ outs n x.2.1 = []) : rimE n (D ++ [x]) = rimE n D := by
  unfold rimE
  congr 1
  funext y
  rw [List.any_append]
  by_cases e : x.2.1 = y.2.1
  · rw [← e]; simp [h]
  · simp [e]
theorem rimE_all {n : Nat} {D : List (En ZZ)} (h : D.Perm (tlE n (2 ^ n))) : rimE n D = rimF n := by
  unfold rimE rimF
  refine List.filter_congr fun y hy => ?_
  have : D.any (fun x => decide (x.2.1 = y.2.1)) = true := List.any_eq_true.2 ⟨y, h.mem_iff.2 hy, by simp⟩
  rw [this, Bool.and_true]
theorem rimE_sub (n : Nat) (D : List (En ZZ)) : (rimE n D).Sublist (tlE n (2 ^ n)) := List.filter_sublist
def RmRel (n b c r : Nat) (w : World) (m : Nat) (wr : World) : Prop :=
  ∃ D R, R.length = m ∧ IterAt encP wr b r (tlE n (2 ^ n)) (2 ^ n) D R ∧ wr.heap[c]? = some (.map (mkA encP (rimE n D)) (2 ^ n)) ∧ Below w.heap.size w wr
def RimPost (n : Nat) (w : World) (e : Ending) (w' : World) : Prop := e = .returned (.map (some w.heap.size)) ∧ w'.heap[w.heap.size]? = some (.map (mkA encP (rimF n)) (2 ^ n)) ∧ Below w.heap.size w w'
set_option maxRecDepth 100000 in
set_option maxHeartbeats 4000000 in
theorem rimOf_c (n b : Nat) (w : World) (hn : n ≤ 8) (hm : TileAt n w b) : Calls Tryd.prog 63 #[.map (some b)] w (RimPost n w) := by
  have HM := Lib.hid hm
  have Lb : b < w.heap.size := (Array.getElem?_eq_some_iff.1 hm).1
  clear hm
  go_enter Tryd.func63, Tryd.ntmps63
  go_wp2_with fail
  refine (clone_c n b w HM.out).mono ?_
  rintro e w1 ⟨rfl, hw1⟩
  have HM1 := Lib.hid (show TileAt n w1 b by rw [hw1]; exact ((MapKept.heap_alloc w _).2 b Lb).trans HM.out)
  have HC1 := Lib.hid (show w1.heap[w.heap.size]? = some (.map (mkA encP (tlE n (2 ^ n))) (2 ^ n)) by rw [hw1]; exact (MapKept.heap_alloc w _).1)
  have HB1 := Lib.hid (show Below w.heap.size w w1 by rw [hw1]; (first | ((repeat' with_reducible first | assumption | exact Below.refl _ _ | apply Blw.alloc | apply Blw.drew | apply Blw.drewN | (refine Blw.after ?_ (by assumption)) | (refine Blw.set ?_ (by first | (dsimp only; omega) | (simp; omega)) _)); done) | (repeat' (first | assumption | exact Below.refl _ _ | apply Blw.alloc | apply Blw.drew | apply Blw.drewN | (refine Blw.after ?_ (by assumption)) | (refine Blw.set ?_ (by first | (dsimp only; omega) | (simp; done) | (simp; omega)) _)))))
  have L1 : w.heap.size < w1.heap.size := by rw [hw1, alloc_size]; omega
  clear hw1
  go_wp2_with (first | (at_range; refine wpList_rangeE (M := 72) (enc := encP) _ rfl _ rfl Tryd.underlying72 b (2 ^ n) (tlE n (2 ^ n)) rfl HM1.out (fun x hx => by obtain ⟨i, hi, rfl⟩ := tlE_mem.1 hx; exact hi) (tlE_nodup _ _) ?_; intro w3 hit hg3 hs3) | fail)
  go_frame
  have HB3 := Lib.hid (show Below w.heap.size w w3 from Below.grown HB1.out hg3 HB1.out.size (fun k hk => by cases hk))
  have HC3 := Lib.hid (show w3.heap[w.heap.size]? = some (.map (mkA encP (rimE n [])) (2 ^ n)) by rw [rimE_nil]; exact (hg3.block _ (by omega) (by simp)).trans HC1.out)
  have S0 := Lib.hid (show RmRel n b w.heap.size w1.heap.size w (2 ^ n) w3 from ⟨[], _, tlE_len _ _, hit, HC3.out, HB3.out⟩)
  clear hit hg3 hs3
  go_loopg [] (2 ^ n) (fun m wr => RmRel n b w.heap.size w1.heap.size w m wr)
  case atStart => exact S0.out
  case round =>
    clear S0
    obtain ⟨D, R, hR, hit, hc, hBw⟩ := hrel
    obtain ⟨Lbr, Lr, hrb⟩ := hit.lt
    have HI := Lib.hid hit
    have HX := Lib.hid (And.intro hc hBw)
    have HR := Lib.hid hR
    have Lc : w.heap.size < wr.heap.size := (Array.getElem?_eq_some_iff.1 hc).1
    clear hit hc hBw hR
    go_wp2_with (first | (at_next; refine wpList_nextE (enc := encP) _ rfl _ rfl b w1.heap.size (2 ^ n) (tlE n (2 ^ n)) D R rfl HI.out ?_ ?_) | fail)
    · intro hR0 hp
      have HP := Lib.hid (rimE_all hp)
      clear hR0 hp
      go_wp2
      go_ret
      exact ⟨rfl, by rw [← HP.out]; exact HX.out.1, HX.out.2⟩
    · intro i X Y v w4 R' hx hit4 hlt hperm hg4 hs4 hen
      obtain ⟨i', hi, he⟩ := tlE_mem.1 (HI.out.mem hx)
      simp only [Prod.mk.injEq] at he
      obtain ⟨rfl, hz, rfl⟩ := he
      obtain ⟨hc, hBw⟩ := HX.out
      have ht := tp_in hn hi
      rw [← hz] at ht
      have HM4 := Lib.hid (show TileAt n w4 b from hit4.map)
      have HO := Lib.hid (outside_c n b (X, Y) w4 hn ⟨Nat.le_trans ht.1 (by omega), Nat.le_trans ht.2 (by omega)⟩ HM4.out)
      have HK := Lib.hid (show okP (X, Y) from ⟨Nat.le_trans ht.1 (by omega), Nat.le_trans ht.2 (by omega)⟩)
      have hB4 := Lib.hid (show Below w.heap.size w w4 from Below.grown hBw hg4 hBw.size (fun k hk => by cases hk; omega))
      have hc4 := Lib.hid (show w4.heap[w.heap.size]? = some (.map (mkA encP (rimE n D)) (2 ^ n)) from (hg4.block _ Lc (by first | (simp; done) | (simp; omega))).trans hc)
      have Lc4 : w.heap.size < w4.heap.size := by omega
      have HIT := Lib.hid hit4
      have HLT := Lib.hid hlt
      clear hx hit4 hlt hperm hg4 hc hBw ht hz hi
      go_wp2_with fail
      refine HO.out.mono ?_
      rintro e w5 ⟨v, rfl, hown, hb5⟩
      have HIT5 := Lib.hid (HIT.out.below hb5)
      have HB5 := Lib.hid (Blw.after hB4.out hb5)
      have HC5 := Lib.hid ((hb5.block _ Lc4).trans hc4.out)
      have L5 := hb5.size
      have hsh : (v = .slice none 0 0 ∧ outs n (X, Y) = []) ∨ ∃ g cap, v = .slice (some ⟨g, 0, none⟩) (outs n (X, Y)).length cap := by
        rcases hown.2 with ⟨h1, h2⟩ | ⟨g, cap, _, h1, _⟩
        · exact Or.inl ⟨h1, List.eq_nil_of_length_eq_zero h2⟩
        · exact Or.inr ⟨g, cap, h1⟩
      clear hown hb5
      by_cases hin : outs n (X, Y) = []
      · have HE := Lib.hid (rimE_in (D := D) (x := (i, (X, Y), .int .i64 (i : Int))) hin)
        have h0 : (outs n (X, Y)).length = 0 := by rw [hin]; rfl
        rw [h0] at hsh
        have hsh2 : ∃ a cap, v = .slice a 0 cap := by
          rcases hsh with ⟨rfl, -⟩ | ⟨g, cap, rfl⟩ <;> exact ⟨_, _, rfl⟩
        obtain ⟨a1, cap, rfl⟩ := hsh2
        clear hsh h0 hin
        go_wp2_with (first | (at_delete; refine wpList_deleteE (enc := encP) (ok := okP) _ rfl _ _ rfl Tryd.underlying72 keyP w.heap.size (2 ^ n) (rimE n D) (X, Y) rfl rfl HC5.out HK.out (fun y hy => tlE_ok hn (Nat.le_refl _) y ((rimE_sub n D).subset hy)) (((rimE_sub n D).map _).nodup tlE_keys) ?_; go_frame) | fail)
        go_wp2_with fail
        go_roundg R'.length
        case measure => have := HLT.out; have := HR.out; omega
        case rel =>
          refine ⟨_, R', rfl, HIT5.out.kept (row := some w.heap.size) ⟨rfl, rfl, rfl, by simp [setBlock], fun k _ hk => heap_setBlock_other HC5.out _ (fun e => hk (by rw [e]))⟩ (by simp; omega) (by simp; omega), ?_, Below.map HB5.out (Nat.le_refl _) HC5.out⟩
          rw [HE.out]; exact heap_setBlock_same HC5.out _
      · have HE := Lib.hid (rimE_out (D := D) (x := (i, (X, Y), .int .i64 (i : Int))) hin)
        obtain ⟨g, cap, rfl⟩ := hsh.resolve_left (fun h => hin h.2)
        have h0 : ¬ (outs n (X, Y)).length = 0 := fun h => hin (List.eq_nil_of_length_eq_zero h)
        clear hsh hin
        generalize (outs n (X, Y)).length = ln at *
        go_wp2_with fail
        go_roundg R'.length
        case measure => have := HLT.out; have := HR.out; omega
        case rel => exact ⟨_, R', rfl, HIT5.out, by rw [HE.out]; exact HC5.out, HB5.out⟩
end Go.Proofs.YtaleeoghifcadaaDoor

namespace Go.Proofs.YtaleeoghifcadaaDoor
set_option linter.unusedSimpArgs false
set_option linter.unusedVariables false
open Go.RowKit Ieee
open Go.ChangeMaps Go.MapKept

def sumO (n : Nat) (D : List (En ZZ)) : Nat := (D.map fun x => (outs n x.2.1).length).sum
def edN (n : Nat) : Nat := ((List.range (2 ^ n)).map fun i => (outs n (tp n i)).length).sum
theorem sumO_snoc (n : Nat) (D : List (En ZZ)) (x : En ZZ) : sumO n (D ++ [x]) = sumO n D + (outs n x.2.1).length := by simp [sumO]
theorem outs_len (n : Nat) (z : ZZ) : (outs n z).length ≤ 4 := outsN_len n z 4
theorem sumO_le (n : Nat) (D : List (En ZZ)) : sumO n D ≤ 4 * D.length := by
  induction D with
  | nil => simp [sumO]
  | cons x r ih =>
    have := outs_len n x.2.1
    have e : sumO n (x :: r) = (outs n x.2.1).length + sumO n r := by simp [sumO]
    rw [e, List.length_cons]; omega
theorem sumO_perm {n : Nat} {D E : List (En ZZ)} (h : D.Perm E) : sumO n D = sumO n E := by
  induction h with
  | nil => rfl
  | cons x _ ih => have e : ∀ r, sumO n (x :: r) = (outs n x.2.1).length + sumO n r := fun r => by simp [sumO]
                   rw [e, e, ih]
  | swap x y l => simp only [sumO, List.map_cons, List.sum_cons]; omega
  | trans _ _ h1 h2 => exact h1.trans h2
theorem sumO_rim (n : Nat) : sumO n (rimF n) = edN n := by
  have key : ∀ L : List (En ZZ), sumO n (L.filter fun y => !decide (outs n y.2.1 = [])) = sumO n L := by
    intro L
    induction L with
    | nil => rfl
    | cons x r ih =>
      have e : ∀ r, sumO n (x :: r) = (outs n x.2.1).length + sumO n r := fun r => by simp [sumO]
      rw [List.filter_cons]
      by_cases h : outs n x.2.1 = []
      · rw [if_neg (by simp [h]), e, ih, h]; simp
      · rw [if_pos (by simp [h]), e, e, ih]
  unfold rimF
  rw [key]
  unfold sumO tlE edN
  rw [List.map_map]; rfl
theorem edN_all : ∀ n ∈ List.range 9, edN n % 2 = 0 ∧ 4 ≤ edN n ∧ edN n ≤ 4 * 2 ^ n := by decide +kernel
def edO (a : Int) : Nat := if inR 0 8 a = true then edN a.toNat else 0
abbrev edV (a : Int) : Value := .tuple #[.int .i64 (edO a : Nat), .bool (inR 0 8 a)]
def EiRel (n b r : Nat) (w : World) (m : Nat) (v : Value) (wr : World) : Prop :=
  ∃ D R, R.length = m ∧ IterAt encP wr b r (rimF n) (2 ^ n) D R ∧ TileAt n wr w.heap.size ∧ v = .int .i64 (sumO n D : Nat) ∧ Below w.heap.size w wr
set_option maxRecDepth 100000 in
set_option maxHeartbeats 4000000 in
theorem iTileEdges_c (a : Int) (w : World) (hT : Two w) (h6 : 5 < w.heap.size) : Calls Tryd.prog 27 #[.int .i64 a] w fun e w' => e = .returned (edV a) ∧ Below w.heap.size w w' := by
  go_enter Tryd.func27, Tryd.ntmps27
  go_wp2_with fail
  refine (tileOf_c a w hT h6).mono ?_
  rintro e w1 (⟨h1, rfl, hb⟩ | ⟨h1, rfl, hm, hb⟩)
  · have HE := Lib.hid (show edV a = .tuple #[.int .i64 0, .bool false] by unfold edV edO; rw [h1]; rfl)
    clear h1
    go_wp2_with fail
    go_ret2
    exact ⟨by rw [HE.out]; rfl, hb⟩
  · have H1 := inR_le h1
    have HE := Lib.hid (show edV a = .tuple #[.int .i64 (edN a.toNat : Nat), .bool true] by unfold edV edO; rw [h1]; rfl)
    have hn : a.toNat ≤ 8 := by omega
    generalize a.toNat = n at *
    have p8 := pow8 hn
    have HM := Lib.hid hm
    have HB := Lib.hid hb
    have L1 : w.heap.size < w1.heap.size := (Array.getElem?_eq_some_iff.1 hm).1
    clear h1 hm hb
    go_wp2_with fail
    refine (rimOf_c n w.heap.size w1 hn HM.out).mono ?_
    rintro e w2 ⟨rfl, hr2, hb2⟩
    have HM2 := Lib.hid (show TileAt n w2 w.heap.size from (hb2.block _ L1).trans HM.out)
    have HR2 := Lib.hid hr2
    have HB2 := Lib.hid (Blw.after HB.out hb2)
    have L2 : w1.heap.size < w2.heap.size := (Array.getElem?_eq_some_iff.1 hr2).1
    have hsub := Lib.hid (show (rimF n).Sublist (tlE n (2 ^ n)) from List.filter_sublist)
    clear hr2 hb2
    go_wp2_with (first | (at_range; refine wpList_rangeE (M := 72) (enc := encP) _ rfl _ rfl Tryd.underlying72 w1.heap.size (2 ^ n) (rimF n) rfl HR2.out (fun x hx => by obtain ⟨i, hi, rfl⟩ := tlE_mem.1 (hsub.out.subset hx); exact hi) ((hsub.out.map _).nodup (tlE_nodup _ _)) ?_; intro w3 hit hg3 hs3) | fail)
    go_frame
    have HB3 := Lib.hid (show Below w.heap.size w w3 from Below.grown HB2.out hg3 HB2.out.size (fun k hk => by cases hk))
    have HM3 := Lib.hid (show TileAt n w3 w.heap.size from (hg3.block _ (by omega) (by simp)).trans HM2.out)
    have S0 := Lib.hid (show EiRel n w1.heap.size w2.heap.size w (rimF n).length (.int .i64 0) w3 from ⟨[], _, rfl, hit, HM3.out, rfl, HB3.out⟩)
    clear hit hg3 hs3
    go_loopg [6] (rimF n).length (fun m v wr => EiRel n w1.heap.size w2.heap.size w m v wr)
    case atStart => exact S0.out
    case round =>
      clear S0
      obtain ⟨D, R, hR, hit, hm, rfl, hBw⟩ := hrel
      obtain ⟨Lbr, Lr, hrb⟩ := hit.lt
      have Lc : w.heap.size < wr.heap.size := (Array.getElem?_eq_some_iff.1 hm).1
      have HI := Lib.hid hit
      have HX := Lib.hid (And.intro hm hBw)
      have HR := Lib.hid hR
      have hsb := sumO_le n D
      have hDl : D.length ≤ 256 := by
        have h1 := hit.perm.length_eq
        have h2 := hsub.out.length_le
        rw [List.length_append] at h1
        rw [tlE_len] at h2
        omega
      have hsb2 : sumO n D ≤ 1024 := by omega
      clear hit hm hBw hR hsb hDl
      go_wp2_with (first | (at_next; refine wpList_nextE (enc := encP) _ rfl _ rfl w1.heap.size w2.heap.size (2 ^ n) (rimF n) D R rfl HI.out ?_ ?_) | fail)
      · intro hR0 hp
        have HP := Lib.hid ((sumO_perm hp).trans (sumO_rim n))
        clear hR0 hp
        go_wp2
        go_ret2
        exact ⟨by rw [HE.out, ← HP.out]; rfl, HX.out.2⟩
      · intro i X Y v w4 R' hx hit4 hlt hperm hg4 hs4 hen
        obtain ⟨i', hi, he⟩ := tlE_mem.1 (hsub.out.subset (HI.out.mem hx))
        simp only [Prod.mk.injEq] at he
        obtain ⟨rfl, hz, rfl⟩ := he
        obtain ⟨hm, hBw⟩ := HX.out
        have ht := tp_in hn hi
        rw [← hz] at ht
        have HM4 := Lib.hid (show TileAt n w4 w.heap.size from (hg4.block _ Lc (by first | (simp; done) | (simp; omega))).trans hm)
        have HO := Lib.hid (outside_c n w.heap.size (X, Y) w4 hn ⟨Nat.le_trans ht.1 (by omega), Nat.le_trans ht.2 (by omega)⟩ HM4.out)
        have hB4 := Lib.hid (show Below w.heap.size w w4 from Below.grown hBw hg4 hBw.size (fun k hk => by cases hk; omega))
        have HIT := Lib.hid hit4
        have HLT := Lib.hid hlt
        have Lc4 : w.heap.size < w4.heap.size := by omega
        clear hx hit4 hlt hperm hg4 hBw hm ht hz hi
        go_wp2_with fail
        refine HO.out.mono ?_
        rintro e w5 ⟨v, rfl, hown, hb5⟩
        have HIT5 := Lib.hid (HIT.out.below hb5)
        have HB5 := Lib.hid (Blw.after hB4.out hb5)
        have HM5 := Lib.hid (show TileAt n w5 w.heap.size from (hb5.block _ Lc4).trans HM4.out)
        have hsh : ∃ a1 cap, v = .slice a1 (outs n (X, Y)).length cap := by
          rcases hown.2 with ⟨h1, h2⟩ | ⟨g, cap, _, h1, _⟩
          · exact ⟨none, 0, by rw [h1, h2]⟩
          · exact ⟨_, cap, h1⟩
        obtain ⟨a1, cap, rfl⟩ := hsh
        have hol := outs_len n (X, Y)
        have HS := Lib.hid (show sumO n (D ++ [(i, (X, Y), .int .i64 (i : Int))]) = sumO n D + (outs n (X, Y)).length from sumO_snoc n D _)
        clear hown hb5
        generalize (outs n (X, Y)).length = ln at *
        generalize sumO n D = sm at *
        go_wp2_with fail
        go_roundg R'.length
        case measure => have := HLT.out; have := HR.out; omega
        case rel => exact ⟨_, R', rfl, HIT5.out, HM5.out, by rw [HS.out]; go_num, HB5.out⟩
end Go.Proofs.YtaleeoghifcadaaDoor

namespace Go.Proofs.YtaleeoghifcadaaDoor
set_option linter.unusedSimpArgs false
set_option linter.unusedVariables false
open Go.RowKit Ieee

/-- a slice of the four near numbers -/
def NrAt (g : Nat) (z : ZZ) (w : World) : Prop := ∀ (k : Nat) (x y : Int), (nrT z)[k]? = some (x, y) → w.cell? ⟨g, k * 2, none⟩ = some (.int .i64 x) ∧ w.cell? ⟨g, k * 2 + 1, none⟩ = some (.int .i64 y)
theorem NrAt.keep {g : Nat} {z : ZZ} {w w' : World} (h : NrAt g z w) (hb : Below w.heap.size w w') : NrAt g z w' := fun k x y hk => ⟨keepcell hb (h k x y hk).1, keepcell hb (h k x y hk).2⟩
set_option maxRecDepth 100000 in
set_option maxHeartbeats 4000000 in
theorem l6tNear_c (x y : Int) (w : World) (h : x.natAbs ≤ 1000 ∧ y.natAbs ≤ 1000) : Calls Tryd.prog 65 #[pr x y] w fun e w' => ∃ g, e = .returned (.slice (some ⟨g, 0, none⟩) 4 4) ∧ NrAt g (x, y) w' ∧ Below w.heap.size w w' := by
  have h1 : -1000 ≤ x ∧ x ≤ 1000 ∧ -1000 ≤ y ∧ y ≤ 1000 := by omega
  clear h
  go_enter Tryd.func65, Tryd.ntmps65
  go_wp2
  go_ret
  refine ⟨_, rfl, ?_, by (first | ((repeat' with_reducible first | assumption | exact Below.refl _ _ | apply Blw.alloc | apply Blw.drew | apply Blw.drewN | (refine Blw.after ?_ (by assumption)) | (refine Blw.set ?_ (by first | (dsimp only; omega) | (simp; omega)) _)); done) | (repeat' (first | assumption | exact Below.refl _ _ | apply Blw.alloc | apply Blw.drew | apply Blw.drewN | (refine Blw.after ?_ (by assumption)) | (refine Blw.set ?_ (by first | (dsimp only; omega) | (simp; done) | (simp; omega)) _))))⟩
  intro k a b hk
  have hk4 : k < 4 := (List.getElem?_eq_some_iff.1 hk).1
  obtain rfl | rfl | rfl | rfl : k = 0 ∨ k = 1 ∨ k = 2 ∨ k = 3 := by omega
  all_goals
    simp only [nrT, List.getElem?_cons_zero, List.getElem?_cons_succ, Option.some.injEq, Prod.mk.injEq] at hk
    obtain ⟨rfl, rfl⟩ := hk
    constructor <;> go_simp
def EsRel (n N : Nat) (w : World) (m : Nat) (v i : Value) (wr : World) : Prop :=
  ∃ k : Nat, k + m = N ∧ i = .int .i64 k ∧ v = .int .i64 (sumO n (tlE n k) : Nat) ∧ Below w.heap.size w wr
def EkRel (n c : Nat) (z : ZZ) (w : World) (m : Nat) (v i : Value) (wr : World) : Prop :=
  ∃ k : Nat, k + m = 4 ∧ i = .int .i64 k ∧ v = .int .i64 (c + (outsN n z k).length : Nat) ∧ Below w.heap.size w wr
theorem hasT_near {n : Nat} {p : ZZ} (hn : n ≤ 8) (hp : p.1.natAbs ≤ 1000 ∧ p.2.natAbs ≤ 1000) : hasT n p.1 p.2 = decide (qn n p = (0, 0)) := by
  simp only [hasT, okT, Int.toNat_natCast]
  have h1 : inR 0 12 (n : Int) = true := by simp only [inR, Bool.and_eq_true, decide_eq_true_eq]; omega
  have h2 : inB 1000000 p.1 p.2 = true := by simp only [inB, inR, Bool.and_eq_true, decide_eq_true_eq]; omega
  rw [h1, h2]; rfl
theorem sumO_all (n : Nat) : sumO n (tlE n (2 ^ n)) = edN n := by
  unfold sumO tlE edN
  rw [List.map_map]; rfl
theorem nrT_in {z : ZZ} (h : z.1.natAbs ≤ 200 ∧ z.2.natAbs ≤ 200) : ∀ p ∈ nrT z, p.1.natAbs ≤ 1000 ∧ p.2.natAbs ≤ 1000 := by
  intro p hp
  simp only [nrT, List.mem_cons, List.not_mem_nil, or_false] at hp
  rcases hp with rfl | rfl | rfl | rfl <;> dsimp only <;> omega
set_option maxRecDepth 100000 in
set_option maxHeartbeats 8000000 in
theorem sTileEdges_c (a : Int) (w : World) : Calls Tryd.prog 28 #[.int .i64 a] w fun e w' => e = .returned (edV a) ∧ Below w.heap.size w w' := by
  go_enter Tryd.func28, Tryd.ntmps28
  go_wp2_with fail
  refine (sTilePoints_c a w).mono ?_
  rintro e w1 ⟨v0, rfl, ⟨a0, c0, rfl, hg0, -⟩, hb1⟩
  rcases Bool.eq_false_or_eq_true (inR 0 8 a) with hr | hr
  · have H1 := inR_le hr
    have HE := Lib.hid (show edV a = .tuple #[.int .i64 (edN a.toNat : Nat), .bool true] by unfold edV edO; rw [hr]; rfl)
    have HL := Lib.hid (show ptsT a = (List.range (2 ^ a.toNat)).map (tp a.toNat) by unfold ptsT; rw [if_pos hr]; exact allT_tp (by omega))
    obtain ⟨n, rfl⟩ : ∃ n : Nat, a = (n : Int) := ⟨a.toNat, by omega⟩
    rw [Int.toNat_natCast] at HL HE
    have hn : n ≤ 8 := by omega
    have p8 := pow8 hn
    have hLl : (ptsT n).length = 2 ^ n := by rw [HL.out, List.length_map, List.length_range]
    rw [← hLl] at p8
    have HLl := Lib.hid hLl
    have HGet := Lib.hid (fun i (hi : i < (ptsT n).length) => show (ptsT n)[i]? = some (tp n i) by
      rw [HL.out, List.getElem?_map, List.getElem?_range (by rw [hLl] at hi; exact hi)]; rfl)
    have HB1 := Lib.hid hb1
    have HG := Lib.hid hg0
    rw [hr]
    clear hr hLl HL hb1 hg0
    generalize ptsT (n : Int) = L at *
    go_wp2_with fail
    go_loopg [6, 7] L.length (fun m v i wr => EsRel n L.length w1 m v i wr)
    case atStart => exact ⟨0, by omega, rfl, rfl, Below.refl _ _⟩
    case round =>
      obtain ⟨j, hj, rfl, rfl, hBr⟩ := hrel
      have HBr := Lib.hid hBr
      have HJ := Lib.hid hj
      obtain ⟨gk0, hgk0⟩ : ∃ gk0, gk0 = gk := ⟨_, rfl⟩
      have HGK := Lib.hid hgk0
      by_cases hlt : j < L.length
      · have hget := HGet.out j hlt
        have hi : j < 2 ^ n := by rw [← HLl.out]; exact hlt
        have ht := tp_in hn hi
        have hsb := sumO_le n (tlE n j)
        rw [tlE_len] at hsb
        have HSn := Lib.hid (show sumO n (tlE n (j + 1)) = sumO n (tlE n j) + (outsN n (tp n j) 4).length by rw [tlE_succ, sumO_snoc]; rfl)
        rcases HG.out.keep hBr with h0 | ⟨g, rfl, hg⟩
        · subst h0; simp at hlt
        obtain ⟨d0, d1⟩ := hg j _ _ (show L[j]? = some ((tp n j).1, (tp n j).2) from hget)
        have Lg : g < wr.heap.size := World.block_lt_of_cell? wr _ d0
        have HN := Lib.hid (fun w => l6tNear_c (tp n j).1 (tp n j).2 w ⟨Nat.le_trans ht.1 (by omega), Nat.le_trans ht.2 (by omega)⟩)
        have HNI := Lib.hid (nrT_in ht)
        have hsm : sumO n (tlE n j) ≤ 1100 := by omega
        clear hg hget hi hBr hj hgk0 ht hsb
        generalize htp : tp n j = z at *
        clear htp
        obtain ⟨X, Y⟩ := z
        dsimp only at *
        generalize sumO n (tlE n j) = sm at *
        go_wp2_with fail
        refine (HN.out _).mono ?_
        rintro e w2 ⟨g2, rfl, hnr, hb2⟩
        have HNR := Lib.hid hnr
        have HB2 := Lib.hid (Blw.after HBr.out hb2)
        clear hnr hb2 d0 d1
        have S0 := Lib.hid (show EkRel n sm (X, Y) w2 4 (.int .i64 (sm : Nat)) (.int .i64 0) w2 from ⟨0, by omega, rfl, rfl, Below.refl _ _⟩)
        go_wp2_with fail
        go_loopg [6, 9] 4 (fun m v i wr => EkRel n sm (X, Y) w2 m v i wr)
        case atStart => exact S0.out
        case round =>
          clear S0
          obtain ⟨q, hq, rfl, rfl, hBq⟩ := hrel
          have HBq := Lib.hid hBq
          have HQ := Lib.hid hq
          by_cases hlt2 : q < 4
          · obtain ⟨p, hp⟩ : ∃ p, (nrT (X, Y))[q]? = some p := ⟨(nrT (X, Y))[q]'hlt2, List.getElem?_eq_getElem hlt2⟩
            obtain ⟨x1, y1⟩ := p
            have hpi := HNI.out _ (List.mem_of_getElem? hp)
            have hnr2 := HNR.out.keep hBq
            obtain ⟨d0, d1⟩ := hnr2 q x1 y1 hp
            have Lg2 : g2 < wr.heap.size := World.block_lt_of_cell? wr _ d0
            have HH := Lib.hid (fun w => sTileHas_c n x1 y1 w)
            have hol := outsN_len n (X, Y) q
            rw [show hasT n x1 y1 = decide (qn n (x1, y1) = (0, 0)) from hasT_near hn hpi] at HH
            by_cases hqn : qn n (x1, y1) = (0, 0)
            · rw [decide_eq_true hqn] at HH
              have HE2 := Lib.hid (show (outsN n (X, Y) (q + 1)).length = (outsN n (X, Y) q).length by rw [outsN_in hp hqn])
              clear hqn hp hnr2 hBq hq hpi
              generalize (outsN n (X, Y) q).length = ln at *
              go_wp2_with fail
              refine (HH.out _).mono ?_
              rintro e w3 ⟨rfl, hb3⟩
              have HB3 := Lib.hid (Blw.after HBq.out hb3)
              clear hb3 d0 d1
              go_wp2_with fail
              go_roundg (gk - 1)
              case measure => have := HQ.out; omega
              case rel => exact ⟨q + 1, by have := HQ.out; omega, by go_num, by rw [HE2.out]; go_num, HB3.out⟩
            · rw [decide_eq_false hqn] at HH
              have HE2 := Lib.hid (show (outsN n (X, Y) (q + 1)).length = (outsN n (X, Y) q).length + 1 by rw [outsN_out hp hqn]; simp)
              clear hqn hp hnr2 hBq hq hpi
              generalize (outsN n (X, Y) q).length = ln at *
              go_wp2_with fail
              refine (HH.out _).mono ?_
              rintro e w3 ⟨rfl, hb3⟩
              have HB3 := Lib.hid (Blw.after HBq.out hb3)
              clear hb3 d0 d1
              go_wp2_with fail
              go_roundg (gk - 1)
              case measure => have := HQ.out; omega
              case rel => exact ⟨q + 1, by have := HQ.out; omega, by go_num, by rw [HE2.out]; go_num, HB3.out⟩
          · obtain rfl : q = 4 := by omega
            have hol := outsN_len n (X, Y) 4
            have HBz := Lib.hid (Blw.after HB2.out hBq)
            have hq0 : gk = 0 := by omega
            clear hBq hq
            generalize (outsN n (X, Y) 4).length = ln at *
            go_wp2
            go_roundg (gk0 - 1)
            case measure => have := HGK.out; have := HJ.out; omega
            case rel => exact ⟨j + 1, by have := HGK.out; have := HJ.out; omega, by go_num, by rw [HSn.out], HBz.out⟩
      · obtain rfl : j = L.length := by omega
        have HP := Lib.hid (show sumO n (tlE n L.length) = edN n by rw [HLl.out]; exact sumO_all n)
        rw [HP.out]
        have HBz := Lib.hid (Blw.after HB1.out hBr)
        clear hBr hj hgk0
        generalize edN n = en at *
        go_wp2
        go_ret2
        exact ⟨by rw [HE.out]; rfl, HBz.out⟩
  · have HE := Lib.hid (show edV a = .tuple #[.int .i64 0, .bool false] by unfold edV edO; rw [hr]; rfl)
    have HL : ptsT a = [] := by unfold ptsT; rw [if_neg (by rw [hr]; decide)]
    have HB1 := Lib.hid hb1
    rw [hr, HL]
    clear hr hb1 hg0 HL
    go_wp2_with fail
    go_loopg [6, 7] 0 (fun m v i wr => v = .int .i64 0 ∧ i = .int .i64 0 ∧ wr = w1)
    case atStart => exact ⟨rfl, rfl, rfl⟩
    case round =>
      obtain ⟨rfl, rfl, rfl⟩ := hrel
      go_wp2
      go_ret2
      exact ⟨by rw [HE.out]; rfl, HB1.out⟩
end Go.Proofs.YtaleeoghifcadaaDoor

/- Merged texts: Se Mk Sf Ss. No law is stated here. -/
import Derived.Test.YtaleeoghifcadaaDoorZ5
namespace Go.Proofs.YtaleeoghifcadaaDoor
set_option linter.unusedSimpArgs false
set_option linter.unusedVariables false
open Go.RowKit Ieee
open Go.ChangeMaps Go.MapKept

/-- the sign at a point -/
def cellT (n : Nat) (x y : Int) : UInt8 := if qn n (x, y) = (0, 0) then 35 else 46
def rowT (n : Nat) (y : Int) (k : Nat) : List UInt8 := (List.range k).map fun j => cellT n ((loT n).1 + (j : Nat)) y
def widT (n : Nat) : Nat := ((hiT n).1 - (loT n).1 + 1).toNat
def heiT (n : Nat) : Nat := ((hiT n).2 - (loT n).2 + 1).toNat
def shpT (n k : Nat) : List ByteArray := (List.range k).map fun i => bs (rowT n ((hiT n).2 - (i : Nat)) (widT n))
theorem rowT_succ (n : Nat) (y : Int) (k : Nat) : rowT n y (k + 1) = rowT n y k ++ [cellT n ((loT n).1 + (k : Nat)) y] := by
  unfold rowT; rw [List.range_succ, List.map_append]; rfl
theorem shpT_succ (n k : Nat) : shpT n (k + 1) = shpT n k ++ [bs (rowT n ((hiT n).2 - (k : Nat)) (widT n))] := by
  unfold shpT; rw [List.range_succ, List.map_append]; rfl
theorem rowT_len (n : Nat) (y : Int) (k : Nat) : (rowT n y k).length = k := by simp [rowT]
theorem shpT_len (n k : Nat) : (shpT n k).length = k := by simp [shpT]
theorem box8 : ∀ n ∈ List.range 9, -100 ≤ (loT n).1 ∧ (loT n).1 ≤ 0 ∧ -100 ≤ (loT n).2 ∧ (loT n).2 ≤ 0 ∧ 0 ≤ (hiT n).1 ∧ (hiT n).1 ≤ 100 ∧ 0 ≤ (hiT n).2 ∧ (hiT n).2 ≤ 100 := by decide +kernel
theorem sign_c (n b : Nat) (z : ZZ) (w : World) (hn : n ≤ 8) (hz : okP z) (hm : TileAt n w b) : Calls Tryd.prog 66 #[.map (some b), encP z] w fun e w' => e = .returned (.int .u8 ((cellT n z.1 z.2).toNat : Int)) ∧ w = w' := by
  obtain ⟨v0, hl⟩ := lookE (zv := .int .i64 0) Tryd.underlying72 keyP w (show (zeroValue 3).run Tryd.prog w = .ok (.int .i64 0) w by kernel_rfl) hm hz (tlE_ok hn (Nat.le_refl _))
  rw [tlE_has] at hl
  by_cases hp : qn n z = (0, 0)
  · have HC := Lib.hid (show ((cellT n z.1 z.2).toNat : Int) = 35 by unfold cellT; rw [if_pos hp]; rfl)
    rw [decide_eq_true hp] at hl
    clear hp hm
    go_enter Tryd.func66, Tryd.ntmps66
    go_wp2_with fail
    go_ret
    exact ⟨by rw [HC.out]; rfl, rfl⟩
  · have HC := Lib.hid (show ((cellT n z.1 z.2).toNat : Int) = 46 by unfold cellT; rw [if_neg hp]; rfl)
    rw [decide_eq_false hp] at hl
    clear hp hm
    go_enter Tryd.func66, Tryd.ntmps66
    go_wp2_with fail
    go_ret
    exact ⟨by rw [HC.out]; rfl, rfl⟩
/-- a slice of texts of a call's own -/
def SSl (a : Option Addr) (l : List ByteArray) (w : World) : Prop := l = [] ∨ ∃ g, a = some ⟨g, 0, none⟩ ∧ ∀ (k : Nat) (s : ByteArray), l[k]? = some s → w.cell? ⟨g, k, none⟩ = some (.string s)
def OwnS (B : Nat) (v : Value) (l : List ByteArray) (w : World) : Prop :=
  ∃ a c, v = .slice a l.length c ∧ SSl a l w ∧ (l = [] ∨ ∃ g, a = some ⟨g, 0, none⟩ ∧ B ≤ g ∧ g < w.heap.size ∧ ∀ j, w.frozen? ⟨g, j, none⟩ = false)
theorem own_texts {w : World} {B : Nat} {v : Value} {l : List ByteArray} (h : w.ownsRow B 9 1 v l.length (l.map Value.string)) : OwnS B v l w := by
  rcases h.2 with ⟨rfl, h0⟩ | ⟨g, cap, cur, rfl, hg, hgg, -⟩
  · have : l = [] := List.eq_nil_of_length_eq_zero h0
    subst this
    exact ⟨none, 0, rfl, Or.inl rfl, Or.inl rfl⟩
  · refine ⟨_, cap, rfl, Or.inr ⟨g, rfl, fun k s hk => ?_⟩, Or.inr ⟨g, rfl, hg, (Array.getElem?_eq_some_iff.1 hgg).1, fun j => h.frozenAt j⟩⟩
    have hk' : k < l.length := (List.getElem?_eq_some_iff.1 hk).1
    exact (h.cellAt k (by omega)).trans (by rw [List.getElem?_map, hk]; rfl)
def shpA (a : Int) : List ByteArray := if inR 0 8 a = true then shpT a.toNat (heiT a.toNat) else []
def ShpPost (a : Int) (w : World) (e : Ending) (w' : World) : Prop := ∃ v, e = .returned (.tuple #[v, .bool (inR 0 8 a)]) ∧ OwnS w.heap.size v (shpA a) w' ∧ Below w.heap.size w w'
theorem infoS6 : (Tryd.prog.info? 9).map (fun i => (i.zero, i.size, i.bytes)) = some (some (.string ⟨#[]⟩), 1, 16) := by kernel_rfl
end Go.Proofs.YtaleeoghifcadaaDoor

namespace Go.Proofs.YtaleeoghifcadaaDoor
set_option linter.unusedSimpArgs false
set_option linter.unusedVariables false
open Go.RowKit

theorem SSl.keep {a : Option Addr} {l : List ByteArray} {w w' : World} (h : SSl a l w) (hb : Below w.heap.size w w') : SSl a l w' := by
  refine h.imp id ?_
  rintro ⟨g, rfl, hc⟩
  exact ⟨g, rfl, fun k s hk => keepcell hb (hc k s hk)⟩
def EqSRel (l : List ByteArray) (w : World) (m : Nat) (i : Value) (wr : World) : Prop := ∃ k : Nat, k + m = l.length ∧ i = .int .i64 k ∧ Below w.heap.size w wr
set_option maxRecDepth 100000 in
set_option maxHeartbeats 4000000 in
theorem eqStringS_c (a a' : Option Addr) (c c' : Nat) (l : List ByteArray) (w : World) (hl : l.length ≤ 1000) (h : SSl a l w) (h' : SSl a' l w) : Calls Tryd.prog 41 #[.slice a l.length c, .slice a' l.length c'] w fun e w' => e = .returned (.bool true) ∧ Below w.heap.size w w' := by
  have H1 := Lib.hid h
  have H2 := Lib.hid h'
  clear h h'
  go_enter Tryd.func41, Tryd.ntmps41
  go_wp2_with fail
  go_loopg [5] l.length (fun m i wr => EqSRel l w m i wr)
  case atStart => exact ⟨0, by omega, rfl, Below.refl _ _⟩
  case round =>
    obtain ⟨k, hk, rfl, hB⟩ := hrel
    by_cases hlt : k < l.length
    · obtain ⟨s, hs⟩ : ∃ s, l[k]? = some s := ⟨l[k], List.getElem?_eq_getElem hlt⟩
      rcases H1.out.keep hB with h0 | ⟨g, rfl, hg⟩
      · subst h0; simp at hlt
      rcases H2.out.keep hB with h0 | ⟨g', rfl, hg'⟩
      · subst h0; simp at hlt
      have c0 := hg k s hs
      have d0 := hg' k s hs
      have Lg : g < wr.heap.size := World.block_lt_of_cell? wr _ c0
      have Lg' : g' < wr.heap.size := World.block_lt_of_cell? wr _ d0
      clear hg hg' hs
      go_wp2_with fail
      refine region_slots (fun _ => True) [] [(17, .is (.slice (some ⟨g, 0, none⟩) l.length c)), (18, .is (.int .i64 k)), (19, .is (.pointer (some ⟨g, k, none⟩))), (20, .is (.string s)), (21, .is (.slice (some ⟨g', 0, none⟩) l.length c')), (22, .is (.int .i64 k)), (23, .is (.pointer (some ⟨g', k, none⟩))), (24, .is (.string s)), (25, .is (.bool false))] (by kernel_rfl) (by kernel_rfl) (by kernel_rfl) (fun _ _ => trivial) (fun _ _ _ _ _ _ h => h) ?_
      simp only [Steps, List.contains_cons, List.contains_nil, Nat.reduceBEq, Nat.reduceAdd, Bool.or_false, Bool.false_or, Bool.or_true, Bool.true_or, Bool.false_eq_true, if_false, if_true]
      refine ⟨?_, ?_, ?_, ?_, ?_, ?_, ?_, ?_, ?_, ?_⟩
      · intro u w2 hH hd K hK
        simp only [setU, upd, List.map_cons, List.map_nil, List.contains_cons, List.contains_nil, Nat.reduceBEq, Nat.reduceAdd, Bool.or_false, Bool.false_or, Bool.or_true, Bool.true_or, Bool.false_eq_true, if_false, if_true, ite_true, ite_false, Nat.reduceEqDiff, beq_self_eq_true] at hK ⊢
        go_wp2_with (fail)
        exact hK _ _ (by (first | ((repeat' with_reducible first | assumption | exact Below.refl _ _ | apply Blw.alloc | apply Blw.drew | apply Blw.drewN | (refine Blw.after ?_ (by assumption)) | (refine Blw.set ?_ (by first | (dsimp only; omega) | (simp; omega)) _)); done) | (repeat' (first | assumption | exact Below.refl _ _ | apply Blw.alloc | apply Blw.drew | apply Blw.drewN | (refine Blw.after ?_ (by assumption)) | (refine Blw.set ?_ (by first | (dsimp only; omega) | (simp; done) | (simp; omega)) _))))) rfl
      · intro u w2 hH hd K hK
        simp only [setU, upd, List.map_cons, List.map_nil, List.contains_cons, List.contains_nil, Nat.reduceBEq, Nat.reduceAdd, Bool.or_false, Bool.false_or, Bool.or_true, Bool.true_or, Bool.false_eq_true, if_false, if_true, ite_true, ite_false, Nat.reduceEqDiff, beq_self_eq_true] at hK ⊢
        go_wp2_with (fail)
        exact hK _ _ (by (first | ((repeat' with_reducible first | assumption | exact Below.refl _ _ | apply Blw.alloc | apply Blw.drew | apply Blw.drewN | (refine Blw.after ?_ (by assumption)) | (refine Blw.set ?_ (by first | (dsimp only; omega) | (simp; omega)) _)); done) | (repeat' (first | assumption | exact Below.refl _ _ | apply Blw.alloc | apply Blw.drew | apply Blw.drewN | (refine Blw.after ?_ (by assumption)) | (refine Blw.set ?_ (by first | (dsimp only; omega) | (simp; done) | (simp; omega)) _))))) rfl
      · intro u w2 hH hd K hK
        have f17 : u 17 = (.slice (some ⟨g, 0, none⟩) l.length c) := hd 17 (by kernel_rfl)
        have f18 : u 18 = (.int .i64 k) := hd 18 (by kernel_rfl)
        simp only [setU, upd, List.map_cons, List.map_nil, List.contains_cons, List.contains_nil, Nat.reduceBEq, Nat.reduceAdd, Bool.or_false, Bool.false_or, Bool.or_true, Bool.true_or, Bool.false_eq_true, if_false, if_true, ite_true, ite_false, Nat.reduceEqDiff, beq_self_eq_true] at hK ⊢
        rw [f17, f18] at hK ⊢
        clear f17 f18
        go_wp2_with (fail)
        exact hK _ _ (by (first | ((repeat' with_reducible first | assumption | exact Below.refl _ _ | apply Blw.alloc | apply Blw.drew | apply Blw.drewN | (refine Blw.after ?_ (by assumption)) | (refine Blw.set ?_ (by first | (dsimp only; omega) | (simp; omega)) _)); done) | (repeat' (first | assumption | exact Below.refl _ _ | apply Blw.alloc | apply Blw.drew | apply Blw.drewN | (refine Blw.after ?_ (by assumption)) | (refine Blw.set ?_ (by first | (dsimp only; omega) | (simp; done) | (simp; omega)) _))))) rfl
      · intro u w2 hH hd K hK
        have f19 : u 19 = (.pointer (some ⟨g, k, none⟩)) := hd 19 (by kernel_rfl)
        simp only [setU, upd, List.map_cons, List.map_nil, List.contains_cons, List.contains_nil, Nat.reduceBEq, Nat.reduceAdd, Bool.or_false, Bool.false_or, Bool.or_true, Bool.true_or, Bool.false_eq_true, if_false, if_true, ite_true, ite_false, Nat.reduceEqDiff, beq_self_eq_true] at hK ⊢
        rw [f19] at hK ⊢
        clear f19
        go_wp2_with (fail)
        exact hK _ _ (by (first | ((repeat' with_reducible first | assumption | exact Below.refl _ _ | apply Blw.alloc | apply Blw.drew | apply Blw.drewN | (refine Blw.after ?_ (by assumption)) | (refine Blw.set ?_ (by first | (dsimp only; omega) | (simp; omega)) _)); done) | (repeat' (first | assumption | exact Below.refl _ _ | apply Blw.alloc | apply Blw.drew | apply Blw.drewN | (refine Blw.after ?_ (by assumption)) | (refine Blw.set ?_ (by first | (dsimp only; omega) | (simp; done) | (simp; omega)) _))))) rfl
      · intro u w2 hH hd K hK
        simp only [setU, upd, List.map_cons, List.map_nil, List.contains_cons, List.contains_nil, Nat.reduceBEq, Nat.reduceAdd, Bool.or_false, Bool.false_or, Bool.or_true, Bool.true_or, Bool.false_eq_true, if_false, if_true, ite_true, ite_false, Nat.reduceEqDiff, beq_self_eq_true] at hK ⊢
        go_wp2_with (fail)
        exact hK _ _ (by (first | ((repeat' with_reducible first | assumption | exact Below.refl _ _ | apply Blw.alloc | apply Blw.drew | apply Blw.drewN | (refine Blw.after ?_ (by assumption)) | (refine Blw.set ?_ (by first | (dsimp only; omega) | (simp; omega)) _)); done) | (repeat' (first | assumption | exact Below.refl _ _ | apply Blw.alloc | apply Blw.drew | apply Blw.drewN | (refine Blw.after ?_ (by assumption)) | (refine Blw.set ?_ (by first | (dsimp only; omega) | (simp; done) | (simp; omega)) _))))) rfl
      · intro u w2 hH hd K hK
        simp only [setU, upd, List.map_cons, List.map_nil, List.contains_cons, List.contains_nil, Nat.reduceBEq, Nat.reduceAdd, Bool.or_false, Bool.false_or, Bool.or_true, Bool.true_or, Bool.false_eq_true, if_false, if_true, ite_true, ite_false, Nat.reduceEqDiff, beq_self_eq_true] at hK ⊢
        go_wp2_with (fail)
        exact hK _ _ (by (first | ((repeat' with_reducible first | assumption | exact Below.refl _ _ | apply Blw.alloc | apply Blw.drew | apply Blw.drewN | (refine Blw.after ?_ (by assumption)) | (refine Blw.set ?_ (by first | (dsimp only; omega) | (simp; omega)) _)); done) | (repeat' (first | assumption | exact Below.refl _ _ | apply Blw.alloc | apply Blw.drew | apply Blw.drewN | (refine Blw.after ?_ (by assumption)) | (refine Blw.set ?_ (by first | (dsimp only; omega) | (simp; done) | (simp; omega)) _))))) rfl
      · intro u w2 hH hd K hK
        have f21 : u 21 = (.slice (some ⟨g', 0, none⟩) l.length c') := hd 21 (by kernel_rfl)
        have f22 : u 22 = (.int .i64 k) := hd 22 (by kernel_rfl)
        simp only [setU, upd, List.map_cons, List.map_nil, List.contains_cons, List.contains_nil, Nat.reduceBEq, Nat.reduceAdd, Bool.or_false, Bool.false_or, Bool.or_true, Bool.true_or, Bool.false_eq_true, if_false, if_true, ite_true, ite_false, Nat.reduceEqDiff, beq_self_eq_true] at hK ⊢
        rw [f21, f22] at hK ⊢
        clear f21 f22
        go_wp2_with (fail)
        exact hK _ _ (by (first | ((repeat' with_reducible first | assumption | exact Below.refl _ _ | apply Blw.alloc | apply Blw.drew | apply Blw.drewN | (refine Blw.after ?_ (by assumption)) | (refine Blw.set ?_ (by first | (dsimp only; omega) | (simp; omega)) _)); done) | (repeat' (first | assumption | exact Below.refl _ _ | apply Blw.alloc | apply Blw.drew | apply Blw.drewN | (refine Blw.after ?_ (by assumption)) | (refine Blw.set ?_ (by first | (dsimp only; omega) | (simp; done) | (simp; omega)) _))))) rfl
      · intro u w2 hH hd K hK
        have f23 : u 23 = (.pointer (some ⟨g', k, none⟩)) := hd 23 (by kernel_rfl)
        simp only [setU, upd, List.map_cons, List.map_nil, List.contains_cons, List.contains_nil, Nat.reduceBEq, Nat.reduceAdd, Bool.or_false, Bool.false_or, Bool.or_true, Bool.true_or, Bool.false_eq_true, if_false, if_true, ite_true, ite_false, Nat.reduceEqDiff, beq_self_eq_true] at hK ⊢
        rw [f23] at hK ⊢
        clear f23
        go_wp2_with (fail)
        exact hK _ _ (by (first | ((repeat' with_reducible first | assumption | exact Below.refl _ _ | apply Blw.alloc | apply Blw.drew | apply Blw.drewN | (refine Blw.after ?_ (by assumption)) | (refine Blw.set ?_ (by first | (dsimp only; omega) | (simp; omega)) _)); done) | (repeat' (first | assumption | exact Below.refl _ _ | apply Blw.alloc | apply Blw.drew | apply Blw.drewN | (refine Blw.after ?_ (by assumption)) | (refine Blw.set ?_ (by first | (dsimp only; omega) | (simp; done) | (simp; omega)) _))))) rfl
      · intro u w2 hH hd K hK
        have f20 : u 20 = (.string s) := hd 20 (by kernel_rfl)
        have f24 : u 24 = (.string s) := hd 24 (by kernel_rfl)
        simp only [setU, upd, List.map_cons, List.map_nil, List.contains_cons, List.contains_nil, Nat.reduceBEq, Nat.reduceAdd, Bool.or_false, Bool.false_or, Bool.or_true, Bool.true_or, Bool.false_eq_true, if_false, if_true, ite_true, ite_false, Nat.reduceEqDiff, beq_self_eq_true] at hK ⊢
        rw [f20, f24] at hK ⊢
        clear f20 f24
        go_wp2_with (fail)
        exact hK _ _ (by (first | ((repeat' with_reducible first | assumption | exact Below.refl _ _ | apply Blw.alloc | apply Blw.drew | apply Blw.drewN | (refine Blw.after ?_ (by assumption)) | (refine Blw.set ?_ (by first | (dsimp only; omega) | (simp; omega)) _)); done) | (repeat' (first | assumption | exact Below.refl _ _ | apply Blw.alloc | apply Blw.drew | apply Blw.drewN | (refine Blw.after ?_ (by assumption)) | (refine Blw.set ?_ (by first | (dsimp only; omega) | (simp; done) | (simp; omega)) _))))) rfl
      intro u w2 hH hF hne
      have hH1 := hH.1
      have hH2 := hH.2.2.2
      simp only [allFacts, SlotFact.h] at hF
      obtain ⟨f17, f18, f19, f20, f21, f22, f23, f24, f25, -⟩ := hF
      simp only [setU, upd, List.map_cons, List.map_nil, List.contains_cons, List.contains_nil, Nat.reduceBEq, Nat.reduceAdd, Bool.or_false, Bool.false_or, Bool.or_true, Bool.true_or, Bool.false_eq_true, if_false, if_true, ite_true, ite_false, Nat.reduceEqDiff, beq_self_eq_true]
      rw [f17, f18, f19, f20, f21, f22, f23, f24, f25]
      clear f17 f18 f19 f20 f21 f22 f23 f24 f25 hne
      refine wpListS_true ?_
      go_wp2
      go_roundg (gk - 1)
      case measure => omega
      case rel => exact ⟨k + 1, by omega, by go_num, by (first | ((repeat' with_reducible first | assumption | exact Below.refl _ _ | apply Blw.alloc | apply Blw.drew | apply Blw.drewN | (refine Blw.after ?_ (by assumption)) | (refine Blw.set ?_ (by first | (dsimp only; omega) | (simp; omega)) _)); done) | (repeat' (first | assumption | exact Below.refl _ _ | apply Blw.alloc | apply Blw.drew | apply Blw.drewN | (refine Blw.after ?_ (by assumption)) | (refine Blw.set ?_ (by first | (dsimp only; omega) | (simp; done) | (simp; omega)) _))))⟩
    · go_wp2
      go_ret
      exact ⟨rfl, hB⟩
/-! ### marks -/
def mkE : Nat → Nat → ByteArray → ByteArray
  | 0, _, t => t
  | f + 1, j, t => if j = 0 then t else mkE f (j / 10) (bs [UInt8.ofNat (48 + j % 10)] ++ t)
def mkT (k : Nat) : ByteArray := (⟨#[109]⟩ : ByteArray) ++ mkE k k ⟨#[]⟩
theorem mkE_zero (f : Nat) (t : ByteArray) : mkE f 0 t = t := by cases f <;> simp [mkE]
theorem mkE_succ {f j : Nat} (t : ByteArray) (h : j ≠ 0) : mkE (f + 1) j t = mkE f (j / 10) (bs [UInt8.ofNat (48 + j % 10)] ++ t) := by simp [mkE, h]
def MtRel (T : ByteArray) (w : World) (m : Nat) (j v : Value) (wr : World) : Prop :=
  ∃ (q : Nat) (t : ByteArray), j = .int .i64 q ∧ q ≤ m ∧ m ≤ 1000 ∧ v = .string t ∧ t.size + m ≤ 1000 ∧ mkE m q t = T ∧ Below w.heap.size w wr
set_option maxRecDepth 100000 in
set_option maxHeartbeats 4000000 in
theorem markText_c (k : Nat) (w : World) (hk : 1 ≤ k ∧ k ≤ 900) : Calls Tryd.prog 69 #[.int .i64 k] w fun e w' => e = .returned (.string (mkT k)) ∧ Below w.heap.size w w' := by
  have HT := Lib.hid (show mkT k = (⟨#[109]⟩ : ByteArray) ++ mkE k k ⟨#[]⟩ from rfl)
  have S0 := Lib.hid (show MtRel (mkE k k ⟨#[]⟩) w k (.int .i64 k) (.string ⟨#[]⟩) w from ⟨k, _, rfl, Nat.le_refl _, by omega, rfl, by show 0 + k ≤ 1000; omega, rfl, Below.refl _ _⟩)
  generalize mkE k k ⟨#[]⟩ = T at *
  go_enter Tryd.func69, Tryd.ntmps69
  go_wp2_with fail
  go_loopg [0, 3] k (fun m j v wr => MtRel T w m j v wr)
  case atStart => exact S0.out
  case round =>
    clear S0
    obtain ⟨q, t, rfl, hq, hm, rfl, ht, hE, hB⟩ := hrel
    by_cases h0 : q = 0
    · subst h0
      rw [mkE_zero] at hE
      subst hE
      have ht2 : t.size ≤ 1000 := by omega
      clear ht hq
      go_wp2
      go_ret
      exact ⟨by rw [HT.out]; rfl, hB⟩
    · obtain ⟨m', rfl⟩ : ∃ m', gk = m' + 1 := ⟨gk - 1, by omega⟩
      rw [mkE_succ t h0] at hE
      have HE := Lib.hid hE
      have e1 : (q : Int).tmod 10 = ((q % 10 : Nat) : Int) := by rw [Int.tmod_eq_emod_of_nonneg (by omega)]; omega
      have e2 : (q : Int).tdiv 10 = ((q / 10 : Nat) : Int) := by rw [Int.tdiv_eq_ediv_of_nonneg (by omega)]; omega
      have hd : q % 10 < 10 := Nat.mod_lt _ (by omega)
      have HC := Lib.hid (show Value.int .u8 (48 + ((q % 10 : Nat) : Int)) = encB (UInt8.ofNat (48 + q % 10)) by
        unfold encB
        congr 1
        rw [UInt8.toNat_ofNat']
        omega)
      have hq9 : q / 10 ≤ m' := by omega
      have hq8 : q / 10 ≤ 1000 := by omega
      have ht2 : t.size ≤ 1000 := by omega
      have HM := Lib.hid (And.intro hm ht)
      have HB := Lib.hid hB
      have hcv : ∀ W : World, (convert 22 9 (.slice (some ⟨W.heap.size, 0, none⟩) 1 1)).run Tryd.prog (W.alloc (.cells #[.int .u8 (48 + ((q % 10 : Nat) : Int))] 5)) = .ok (.string (bs [UInt8.ofNat (48 + q % 10)])) (W.alloc (.cells #[.int .u8 (48 + ((q % 10 : Nat) : Int))] 5)) := fun W => by
        rw [HC.out]
        exact conv_row (l := [UInt8.ofNat (48 + q % 10)]) (World.ownsRow_lit W #[encB (UInt8.ofNat (48 + q % 10))] 1 (Nat.le_refl _) (by unfold maxLen; omega) rfl)
      have hsz : (bs [UInt8.ofNat (48 + q % 10)]).size = 1 := rfl
      clear hE hm ht hB
      generalize UInt8.ofNat (48 + q % 10) = ch at *
      generalize hr : q % 10 = r at *
      generalize hs : q / 10 = s at *
      generalize hbb : bs [ch] = B at *
      clear hr hs hbb
      go_wp2
      go_roundg m'
      case measure => omega
      case rel => exact ⟨s, _, rfl, hq9, by have := HM.out; omega, rfl, by rw [ByteArray.size_append]; have := HM.out; omega, HE.out, by have := HB.out; (first | ((repeat' with_reducible first | assumption | exact Below.refl _ _ | apply Blw.alloc | apply Blw.drew | apply Blw.drewN | (refine Blw.after ?_ (by assumption)) | (refine Blw.set ?_ (by first | (dsimp only; omega) | (simp; omega)) _)); done) | (repeat' (first | assumption | exact Below.refl _ _ | apply Blw.alloc | apply Blw.drew | apply Blw.drewN | (refine Blw.after ?_ (by assumption)) | (refine Blw.set ?_ (by first | (dsimp only; omega) | (simp; done) | (simp; omega)) _))))⟩
/-! ### marked and held -/
def MarkS (g n : Nat) (w : World) : Prop := ∀ j, j < n → w.cell? ⟨g, j, none⟩ = some (.string (mkT (j + 1)))
def OpenS (g n : Nat) (w : World) : Prop := ∀ j, j < n → (∃ u, w.cell? ⟨g, j, none⟩ = some u) ∧ w.frozen? ⟨g, j, none⟩ = false
theorem MarkS.keep {g n : Nat} {w w' : World} (h : MarkS g n w) (hb : Below w.heap.size w w') : MarkS g n w' := fun j hj => keepcell hb (h j hj)
def MsRel (g n : Nat) (w : World) (m : Nat) (kv i : Value) (wr : World) : Prop :=
  ∃ k : Nat, k + m = n ∧ i = .int .i64 k ∧ kv = .int .i64 (k + 1 : Nat) ∧ MarkS g k wr ∧ OpenS g n wr ∧ w.grownBy wr (some g)
def MsPost (g n : Nat) (w : World) (e : Ending) (w' : World) : Prop := e = .returned (.int .i64 (n + 1 : Nat)) ∧ MarkS g n w' ∧ w.grownBy w' (some g)
theorem grown_below {w w' w'' : World} {g : Nat} (h : w.grownBy w' (some g)) (hb : Below w'.heap.size w' w'') : w.grownBy w'' (some g) :=
  ⟨hb.os.trans h.os, hb.tape.trans h.tape, hb.output.trans h.output, Nat.le_trans h.size hb.size, fun i hi hn => (hb.block i (Nat.lt_of_lt_of_le hi h.size)).trans (h.block i hi hn)⟩
set_option maxRecDepth 100000 in
set_option maxHeartbeats 4000000 in
theorem markStringS_c (g n c : Nat) (w : World) (hn : n ≤ 800) (h : OpenS g n w) (hg : n = 0 ∨ g < w.heap.size) : Calls Tryd.prog 42 #[.slice (some ⟨g, 0, none⟩) n c, .int .i64 1] w (MsPost g n w) := by
  have S0 := Lib.hid (show MsRel g n w n (.int .i64 1) (.int .i64 0) w from ⟨0, by omega, rfl, rfl, fun j hj => by omega, h, ⟨rfl, rfl, rfl, Nat.le_refl _, fun _ _ _ => rfl⟩⟩)
  clear h
  go_enter Tryd.func42, Tryd.ntmps42
  go_wp2_with fail
  go_loopg [1, 5] n (fun m kv i wr => MsRel g n w m kv i wr)
  case atStart => exact S0.out
  case round =>
    clear S0
    obtain ⟨k, hk, rfl, rfl, hM, hO, hG⟩ := hrel
    have HX := Lib.hid (And.intro hM (And.intro hO hG))
    by_cases hlt : k < n
    · have Lg : g < wr.heap.size := by
        obtain ⟨u, hu⟩ := (hO k hlt).1
        exact World.block_lt_of_cell? wr _ hu
      clear hM hO hG
      go_wp2_with fail
      refine (markText_c (k + 1) wr ⟨by omega, by omega⟩).mono ?_
      rintro e w1 ⟨rfl, hb⟩
      obtain ⟨hM, hO, hG⟩ := HX.out
      have hM1 := hM.keep hb
      have hO1 : OpenS g n w1 := fun j hj => ⟨by obtain ⟨u, hu⟩ := (hO j hj).1; exact ⟨u, keepcell hb hu⟩, (hb.frozen (p := ⟨g, j, none⟩) Lg).trans (hO j hj).2⟩
      have hG1 := grown_below hG hb
      obtain ⟨⟨u0, c0⟩, f0⟩ := hO1 k hlt
      have Lg1 : g < w1.heap.size := Nat.lt_of_lt_of_le Lg hb.size
      have HY := Lib.hid (And.intro hM1 (And.intro hO1 hG1))
      clear hM hO hG hM1 hO1 hG1 hb
      generalize htk : mkT (k + 1) = tk at *
      have HTK := Lib.hid htk
      clear htk
      go_wp2
      go_roundg (gk - 1)
      case measure => omega
      case rel =>
        obtain ⟨hM1, hO1, hG1⟩ := HY.out
        refine ⟨k + 1, by omega, by go_num, by go_num, fun j hj => ?_, fun j hj => ?_, grown_set hG1⟩
        · by_cases e : j = k
          · subst e; rw [HTK.out]; exact set_same c0
          · rw [set_other e]; exact hM1 j (by omega)
        · refine ⟨?_, set_froz.trans (hO1 j hj).2⟩
          by_cases e : j = k
          · subst e; exact ⟨_, set_same c0⟩
          · rw [set_other e]; exact (hO1 j hj).1
    · obtain rfl : k = n := by omega
      clear hM hO hG
      go_wp2
      go_ret
      exact ⟨rfl, HX.out.1, HX.out.2.2⟩
theorem markS_none (a : Option Addr) (c : Nat) (w : World) : Calls Tryd.prog 42 #[.slice a 0 c, .int .i64 1] w fun e w' => e = .returned (.int .i64 1) ∧ w = w' := by
  go_enter Tryd.func42, Tryd.ntmps42
  go_wp2_with fail
  go_loopg [1, 5] 0 (fun m kv i wr => kv = .int .i64 1 ∧ i = .int .i64 0 ∧ wr = w)
  case atStart => exact ⟨rfl, rfl, rfl⟩
  case round =>
    obtain ⟨rfl, rfl, rfl⟩ := hrel
    go_wp2
    go_ret
    exact ⟨rfl, rfl⟩
def HsRel (n : Nat) (w : World) (m : Nat) (kv i : Value) (wr : World) : Prop := ∃ k : Nat, k + m = n ∧ i = .int .i64 k ∧ kv = .int .i64 (k + 1 : Nat) ∧ Below w.heap.size w wr
set_option maxRecDepth 100000 in
set_option maxHeartbeats 4000000 in
theorem heldStringS_c (a : Option Addr) (n c : Nat) (w : World) (hn : n ≤ 800) (h : n = 0 ∨ ∃ g, a = some ⟨g, 0, none⟩ ∧ MarkS g n w) : Calls Tryd.prog 43 #[.slice a n c, .int .i64 1] w fun e w' => e = .returned (.int .i64 (n + 1 : Nat)) ∧ Below w.heap.size w w' := by
  have H := Lib.hid h
  clear h
  go_enter Tryd.func43, Tryd.ntmps43
  go_wp2_with fail
  go_loopg [1, 5] n (fun m kv i wr => HsRel n w m kv i wr)
  case atStart => exact ⟨0, by omega, rfl, rfl, Below.refl _ _⟩
  case round =>
    obtain ⟨k, hk, rfl, rfl, hB⟩ := hrel
    by_cases hlt : k < n
    · obtain ⟨g, rfl, hM⟩ := H.out.resolve_left (by omega)
      have c0 := hM.keep hB k hlt
      have Lg : g < wr.heap.size := World.block_lt_of_cell? wr _ c0
      have HT := Lib.hid (fun w => markText_c (k + 1) w ⟨by omega, by omega⟩)
      have HB := Lib.hid hB
      clear hM hB
      generalize mkT (k + 1) = tk at *
      go_wp2_with fail
      refine region_slots (fun w' => w'.cell? ⟨g, k, none⟩ = some (.string tk)) [] [(12, .is (.slice (some ⟨g, 0, none⟩) n c)), (13, .is (.int .i64 k)), (14, .is (.pointer (some ⟨g, k, none⟩))), (15, .is (.string tk)), (16, .is (.int .i64 (k + 1 : Nat))), (17, .is (.string tk)), (18, .is (.bool false))] (by kernel_rfl) (by kernel_rfl) (by kernel_rfl) (fun w' hH => by go_simp) (fun _ _ _ _ _ _ h => h) ?_
      simp only [Steps, List.contains_cons, List.contains_nil, Nat.reduceBEq, Nat.reduceAdd, Bool.or_false, Bool.false_or, Bool.or_true, Bool.true_or, Bool.false_eq_true, if_false, if_true]
      refine ⟨?_, ?_, ?_, ?_, ?_, ?_, ?_, ?_⟩
      · intro u w2 hH hd K hK
        simp only [setU, upd, List.map_cons, List.map_nil, List.contains_cons, List.contains_nil, Nat.reduceBEq, Nat.reduceAdd, Bool.or_false, Bool.false_or, Bool.or_true, Bool.true_or, Bool.false_eq_true, if_false, if_true, ite_true, ite_false, Nat.reduceEqDiff, beq_self_eq_true] at hK ⊢
        go_wp2_with (fail)
        exact hK _ _ (by (first | ((repeat' with_reducible first | assumption | exact Below.refl _ _ | apply Blw.alloc | apply Blw.drew | apply Blw.drewN | (refine Blw.after ?_ (by assumption)) | (refine Blw.set ?_ (by first | (dsimp only; omega) | (simp; omega)) _)); done) | (repeat' (first | assumption | exact Below.refl _ _ | apply Blw.alloc | apply Blw.drew | apply Blw.drewN | (refine Blw.after ?_ (by assumption)) | (refine Blw.set ?_ (by first | (dsimp only; omega) | (simp; done) | (simp; omega)) _))))) rfl
      · intro u w2 hH hd K hK
        simp only [setU, upd, List.map_cons, List.map_nil, List.contains_cons, List.contains_nil, Nat.reduceBEq, Nat.reduceAdd, Bool.or_false, Bool.false_or, Bool.or_true, Bool.true_or, Bool.false_eq_true, if_false, if_true, ite_true, ite_false, Nat.reduceEqDiff, beq_self_eq_true] at hK ⊢
        go_wp2_with (fail)
        exact hK _ _ (by (first | ((repeat' with_reducible first | assumption | exact Below.refl _ _ | apply Blw.alloc | apply Blw.drew | apply Blw.drewN | (refine Blw.after ?_ (by assumption)) | (refine Blw.set ?_ (by first | (dsimp only; omega) | (simp; omega)) _)); done) | (repeat' (first | assumption | exact Below.refl _ _ | apply Blw.alloc | apply Blw.drew | apply Blw.drewN | (refine Blw.after ?_ (by assumption)) | (refine Blw.set ?_ (by first | (dsimp only; omega) | (simp; done) | (simp; omega)) _))))) rfl
      · intro u w2 hH hd K hK
        have f12 : u 12 = (.slice (some ⟨g, 0, none⟩) n c) := hd 12 (by kernel_rfl)
        have f13 : u 13 = (.int .i64 k) := hd 13 (by kernel_rfl)
        simp only [setU, upd, List.map_cons, List.map_nil, List.contains_cons, List.contains_nil, Nat.reduceBEq, Nat.reduceAdd, Bool.or_false, Bool.false_or, Bool.or_true, Bool.true_or, Bool.false_eq_true, if_false, if_true, ite_true, ite_false, Nat.reduceEqDiff, beq_self_eq_true] at hK ⊢
        rw [f12, f13] at hK ⊢
        clear f12 f13
        go_wp2_with (fail)
        exact hK _ _ (by (first | ((repeat' with_reducible first | assumption | exact Below.refl _ _ | apply Blw.alloc | apply Blw.drew | apply Blw.drewN | (refine Blw.after ?_ (by assumption)) | (refine Blw.set ?_ (by first | (dsimp only; omega) | (simp; omega)) _)); done) | (repeat' (first | assumption | exact Below.refl _ _ | apply Blw.alloc | apply Blw.drew | apply Blw.drewN | (refine Blw.after ?_ (by assumption)) | (refine Blw.set ?_ (by first | (dsimp only; omega) | (simp; done) | (simp; omega)) _))))) rfl
      · intro u w2 hH hd K hK
        have f14 : u 14 = (.pointer (some ⟨g, k, none⟩)) := hd 14 (by kernel_rfl)
        simp only [setU, upd, List.map_cons, List.map_nil, List.contains_cons, List.contains_nil, Nat.reduceBEq, Nat.reduceAdd, Bool.or_false, Bool.false_or, Bool.or_true, Bool.true_or, Bool.false_eq_true, if_false, if_true, ite_true, ite_false, Nat.reduceEqDiff, beq_self_eq_true] at hK ⊢
        rw [f14] at hK ⊢
        clear f14
        go_wp2_with (fail)
        exact hK _ _ (by (first | ((repeat' with_reducible first | assumption | exact Below.refl _ _ | apply Blw.alloc | apply Blw.drew | apply Blw.drewN | (refine Blw.after ?_ (by assumption)) | (refine Blw.set ?_ (by first | (dsimp only; omega) | (simp; omega)) _)); done) | (repeat' (first | assumption | exact Below.refl _ _ | apply Blw.alloc | apply Blw.drew | apply Blw.drewN | (refine Blw.after ?_ (by assumption)) | (refine Blw.set ?_ (by first | (dsimp only; omega) | (simp; done) | (simp; omega)) _))))) rfl
      · intro u w2 hH hd K hK
        simp only [setU, upd, List.map_cons, List.map_nil, List.contains_cons, List.contains_nil, Nat.reduceBEq, Nat.reduceAdd, Bool.or_false, Bool.false_or, Bool.or_true, Bool.true_or, Bool.false_eq_true, if_false, if_true, ite_true, ite_false, Nat.reduceEqDiff, beq_self_eq_true] at hK ⊢
        go_wp2_with (fail)
        exact hK _ _ (by (first | ((repeat' with_reducible first | assumption | exact Below.refl _ _ | apply Blw.alloc | apply Blw.drew | apply Blw.drewN | (refine Blw.after ?_ (by assumption)) | (refine Blw.set ?_ (by first | (dsimp only; omega) | (simp; omega)) _)); done) | (repeat' (first | assumption | exact Below.refl _ _ | apply Blw.alloc | apply Blw.drew | apply Blw.drewN | (refine Blw.after ?_ (by assumption)) | (refine Blw.set ?_ (by first | (dsimp only; omega) | (simp; done) | (simp; omega)) _))))) rfl
      · intro u w2 hH hd K hK
        have f16 : u 16 = (.int .i64 (k + 1 : Nat)) := hd 16 (by kernel_rfl)
        simp only [setU, upd, List.map_cons, List.map_nil, List.contains_cons, List.contains_nil, Nat.reduceBEq, Nat.reduceAdd, Bool.or_false, Bool.false_or, Bool.or_true, Bool.true_or, Bool.false_eq_true, if_false, if_true, ite_true, ite_false, Nat.reduceEqDiff, beq_self_eq_true] at hK ⊢
        rw [f16] at hK ⊢
        clear f16
        go_wp2_with ((go_at_call 69; refine (HT.out _).mono ?_; rintro e w1 ⟨rfl, hb⟩; obtain ⟨hc, hf⟩ := bcell hb; have hz := bsize hb; have hs := hb.size; try simp at hs))
        exact hK _ _ (by (first | ((repeat' with_reducible first | assumption | exact Below.refl _ _ | apply Blw.alloc | apply Blw.drew | apply Blw.drewN | (refine Blw.after ?_ (by assumption)) | (refine Blw.set ?_ (by first | (dsimp only; omega) | (simp; omega)) _)); done) | (repeat' (first | assumption | exact Below.refl _ _ | apply Blw.alloc | apply Blw.drew | apply Blw.drewN | (refine Blw.after ?_ (by assumption)) | (refine Blw.set ?_ (by first | (dsimp only; omega) | (simp; done) | (simp; omega)) _))))) rfl
      · intro u w2 hH hd K hK
        have f15 : u 15 = (.string tk) := hd 15 (by kernel_rfl)
        have f17 : u 17 = (.string tk) := hd 17 (by kernel_rfl)
        simp only [setU, upd, List.map_cons, List.map_nil, List.contains_cons, List.contains_nil, Nat.reduceBEq, Nat.reduceAdd, Bool.or_false, Bool.false_or, Bool.or_true, Bool.true_or, Bool.false_eq_true, if_false, if_true, ite_true, ite_false, Nat.reduceEqDiff, beq_self_eq_true] at hK ⊢
        rw [f15, f17] at hK ⊢
        clear f15 f17
        go_wp2_with (fail)
        exact hK _ _ (by (first | ((repeat' with_reducible first | assumption | exact Below.refl _ _ | apply Blw.alloc | apply Blw.drew | apply Blw.drewN | (refine Blw.after ?_ (by assumption)) | (refine Blw.set ?_ (by first | (dsimp only; omega) | (simp; omega)) _)); done) | (repeat' (first | assumption | exact Below.refl _ _ | apply Blw.alloc | apply Blw.drew | apply Blw.drewN | (refine Blw.after ?_ (by assumption)) | (refine Blw.set ?_ (by first | (dsimp only; omega) | (simp; done) | (simp; omega)) _))))) rfl
      intro u w2 hH hF hne
      have hH1 := hH.1
      have hH2 := hH.2.2.2
      simp only [allFacts, SlotFact.h] at hF
      obtain ⟨f12, f13, f14, f15, f16, f17, f18, -⟩ := hF
      simp only [setU, upd, List.map_cons, List.map_nil, List.contains_cons, List.contains_nil, Nat.reduceBEq, Nat.reduceAdd, Bool.or_false, Bool.false_or, Bool.or_true, Bool.true_or, Bool.false_eq_true, if_false, if_true, ite_true, ite_false, Nat.reduceEqDiff, beq_self_eq_true]
      rw [f12, f13, f14, f15, f16, f17, f18]
      clear f12 f13 f14 f15 f16 f17 f18 hne
      refine wpListS_nil ?_
      go_wp2
      go_roundg (gk - 1)
      case measure => omega
      case rel => exact ⟨k + 1, by omega, by go_num, by go_num, by have := HB.out; (first | ((repeat' with_reducible first | assumption | exact Below.refl _ _ | apply Blw.alloc | apply Blw.drew | apply Blw.drewN | (refine Blw.after ?_ (by assumption)) | (refine Blw.set ?_ (by first | (dsimp only; omega) | (simp; omega)) _)); done) | (repeat' (first | assumption | exact Below.refl _ _ | apply Blw.alloc | apply Blw.drew | apply Blw.drewN | (refine Blw.after ?_ (by assumption)) | (refine Blw.set ?_ (by first | (dsimp only; omega) | (simp; done) | (simp; omega)) _))))⟩
    · obtain rfl : k = n := by omega
      go_wp2
      go_ret
      exact ⟨rfl, hB⟩
end Go.Proofs.YtaleeoghifcadaaDoor

namespace Go.Proofs.YtaleeoghifcadaaDoor
set_option linter.unusedSimpArgs false
set_option linter.unusedVariables false
open Go.RowKit Ieee
open Go.ChangeMaps Go.MapKept

def ShRel (n : Nat) (w : World) (m : Nat) (v y : Value) (wr : World) : Prop :=
  ∃ k : Nat, k + m = heiT n ∧ y = .int .i64 ((hiT n).2 - (k : Nat)) ∧ wr.ownsRow w.heap.size 9 1 v k ((shpT n k).map Value.string) ∧ Below w.heap.size w wr
def SrRel (n : Nat) (y : Int) (w : World) (m : Nat) (v x : Value) (wr : World) : Prop :=
  ∃ k : Nat, k + m = widT n ∧ x = .int .i64 ((loT n).1 + (k : Nat)) ∧ wr.ownsRow w.heap.size 5 1 v k ((rowT n y k).map encB) ∧ Below w.heap.size w wr
set_option maxRecDepth 100000 in
set_option maxHeartbeats 8000000 in
theorem iTileShape_c (a : Int) (w : World) (hT : Two w) (h6 : 5 < w.heap.size) : Calls Tryd.prog 30 #[.int .i64 a] w (ShpPost a w) := by
  obtain ⟨i0, hi, hz0, hz1, hz2⟩ := info_parts infoS6
  obtain ⟨j0, hj, hy0, hy1, hy2⟩ := info_parts infoB
  go_enter Tryd.func30, Tryd.ntmps30
  go_wp2_with fail
  refine (tileOf_c a w hT h6).mono ?_
  rintro e w1 (⟨h1, rfl, hb⟩ | ⟨h1, rfl, hm, hb⟩)
  · have HE := Lib.hid (show shpA a = [] by unfold shpA; rw [if_neg (by rw [h1]; decide)])
    have HH := Lib.hid h1
    clear h1
    go_wp2_with fail
    go_ret2
    exact ⟨_, by rw [HH.out]; rfl, by rw [HE.out]; exact ⟨none, 0, rfl, Or.inl rfl, Or.inl rfl⟩, hb⟩
  · have H1 := inR_le h1
    have HH := Lib.hid h1
    have HE := Lib.hid (show shpA a = shpT a.toNat (heiT a.toNat) by unfold shpA; rw [if_pos h1])
    have HX := fun w => iTileBox_c a w
    rw [boxV_yes (by simp only [inR, Bool.and_eq_true, decide_eq_true_eq]; omega)] at HX
    have hn : a.toNat ≤ 8 := by omega
    generalize a.toNat = n at *
    obtain ⟨x1, x2, x3, x4, x5, x6, x7, x8⟩ := box8 n (by simp; omega)
    have hw1 : (widT n : Int) = (hiT n).1 - (loT n).1 + 1 := by unfold widT; omega
    have hw2 : (heiT n : Int) = (hiT n).2 - (loT n).2 + 1 := by unfold heiT; omega
    have HXI := Lib.hid HX
    have HM := Lib.hid hm
    have HB := Lib.hid hb
    have L1 : w.heap.size < w1.heap.size := (Array.getElem?_eq_some_iff.1 hm).1
    clear h1 hm hb HX
    go_wp2_with fail
    refine (HXI.out _).mono ?_
    rintro e w2 ⟨rfl, hb2⟩
    have HM2 := Lib.hid (show TileAt n w2 w.heap.size from (hb2.block _ L1).trans HM.out)
    have HB2 := Lib.hid (Blw.after HB.out hb2)
    have L2 := hb2.size
    clear hb2
    have HW := Lib.hid hw1
    have HV := Lib.hid hw2
    clear hw1 hw2
    go_wp2_with fail
    generalize hW : World.alloc _ _ = W3
    have o0 : Own2 W3 w2.heap.size (loT n).1 (loT n).2 := by rw [← hW]; exact (Own2.fresh w2 _ _ _).alloc _
    have o1 : Own2 W3 (w2.heap.size + 1) (hiT n).1 (hiT n).2 := by
      rw [← hW]
      have h := Own2.fresh (w2.alloc (.cells #[.int .i64 (loT n).1, .int .i64 (loT n).2] 24)) (hiT n).1 (hiT n).2 24
      rw [alloc_size] at h
      exact h
    have HB3 := Lib.hid (show Below w2.heap.size w2 W3 by rw [← hW]; (first | ((repeat' with_reducible first | assumption | exact Below.refl _ _ | apply Blw.alloc | apply Blw.drew | apply Blw.drewN | (refine Blw.after ?_ (by assumption)) | (refine Blw.set ?_ (by first | (dsimp only; omega) | (simp; omega)) _)); done) | (repeat' (first | assumption | exact Below.refl _ _ | apply Blw.alloc | apply Blw.drew | apply Blw.drewN | (refine Blw.after ?_ (by assumption)) | (refine Blw.set ?_ (by first | (dsimp only; omega) | (simp; done) | (simp; omega)) _)))))
    have L3 := o1.lt
    have HM3 := Lib.hid (show TileAt n W3 w.heap.size from (HB3.out.block _ (by omega)).trans HM2.out)
    clear hW
    have HO01 := Lib.hid (And.intro o0 o1)
    have HBW := Lib.hid (show Below w.heap.size w W3 from Blw.after HB2.out HB3.out)
    have S0 := Lib.hid (show ShRel n W3 (heiT n) (.slice none 0 0) (.int .i64 (hiT n).2) W3 from ⟨0, by omega, by simp, by show W3.ownsRow _ _ 1 (.slice none 0 0) 0 []; exact World.ownsRow_nil _ _ _ _, Below.refl _ _⟩)
    clear o0 o1
    go_loopg [9, 10] (heiT n) (fun m v y wr => ShRel n W3 m v y wr)
    case atStart => exact S0.out
    case round =>
      clear S0
      obtain ⟨k, hk, rfl, hown, hB⟩ := hrel
      obtain ⟨gk0, hgk0⟩ : ∃ gk0, gk0 = gk := ⟨_, rfl⟩
      have HGK := Lib.hid hgk0
      have HK := Lib.hid hk
      have HO := Lib.hid hown
      have HBo := Lib.hid hB
      obtain ⟨a0, a1, -, -⟩ := HO01.out.1.below hB (by omega)
      obtain ⟨b0, b1, -, -⟩ := HO01.out.2.below hB L3
      have Lw : W3.heap.size ≤ wr.heap.size := hB.size
      have HMr := Lib.hid (show TileAt n wr w.heap.size from (hB.block _ (by omega)).trans HM3.out)
      clear hown hB hk hgk0
      by_cases hlt : k < heiT n
      · have HG0 := Lib.hid (show k + 1 + (gk0 - 1) = heiT n ∧ gk0 - 1 < gk by have := HK.out; have := HGK.out; omega)
        have hge : (loT n).2 ≤ (hiT n).2 - (k : Int) := by have := HV.out; omega
        have hyb : (hiT n).2 - (k : Int) ≤ 100 ∧ -100 ≤ (hiT n).2 - (k : Int) := by have := HV.out; omega
        have HSS := Lib.hid (shpT_succ n k)
        have hki : (k : Int) ≤ 300 := by have := HV.out; omega
        generalize hy : (hiT n).2 - (k : Int) = y at *
        have HY := Lib.hid hy
        clear hy hlt
        go_wp2_with fail
        have S1 := Lib.hid (show SrRel n y wr (widT n) (.slice none 0 0) (.int .i64 (loT n).1) wr from ⟨0, by omega, by simp, by show wr.ownsRow _ _ 1 (.slice none 0 0) 0 []; exact World.ownsRow_nil _ _ _ _, Below.refl _ _⟩)
        obtain ⟨w5, hw5⟩ : ∃ w5, w5 = wr := ⟨_, rfl⟩
        have HW5 := Lib.hid hw5
        rw [← hw5] at S1 a0 a1 b0 b1 Lw HMr HO HBo
        clear hw5
        go_loopg [11, 12] (widT n) (fun m v x wr => SrRel n y w5 m v x wr)
        case atStart => rw [← HW5.out]; exact S1.out
        case round =>
          clear S1
          obtain ⟨q, hq, rfl, hown, hB⟩ := hrel
          have HQ := Lib.hid hq
          have HOq := Lib.hid hown
          have HBq := Lib.hid hB
          have c0 := keepcell hB a0
          have c1 := keepcell hB a1
          have d0 := keepcell hB b0
          have d1 := keepcell hB b1
          have Lq : w5.heap.size ≤ wr.heap.size := hB.size
          have HMq := Lib.hid (show TileAt n wr w.heap.size from (hB.block _ (by omega)).trans HMr.out)
          clear hown hB hq
          by_cases hlt2 : q < widT n
          · have HG1 := Lib.hid (show q + 1 + (gk - 1) = widT n ∧ gk - 1 < gk by have := HQ.out; omega)
            have hle : (loT n).1 + (q : Int) ≤ (hiT n).1 := by have := HW.out; omega
            have hqi : (q : Int) ≤ 300 := by have := HW.out; omega
            have hxlo : -100 ≤ (loT n).1 + (q : Int) := by omega
            have hqn : q ≤ 300 := by omega
            have HRS := Lib.hid (rowT_succ n y q)
            generalize hx : (loT n).1 + (q : Int) = x at *
            have HX := Lib.hid hx
            have hok : okP (x, y) := ⟨by dsimp only; omega, by dsimp only; omega⟩
            have HP := Lib.hid (fun w => pointAt_c (x, y) w hok)
            have HOK := Lib.hid hok
            clear hx hok
            go_wp2_with fail
            refine (HP.out _).mono ?_
            rintro e w6 ⟨rfl, hb6⟩
            have HM6 := Lib.hid (show TileAt n w6 w.heap.size from (hb6.block _ (by omega)).trans HMq.out)
            have HO6 := Lib.hid (own_below HOq.out hb6)
            have HB6 := Lib.hid (Blw.after HBq.out hb6)
            have L6 : w5.heap.size ≤ w6.heap.size := HB6.out.size
            clear hb6 c0 c1 d0 d1
            go_wp2_with fail
            have HSG := Lib.hid (show Calls Tryd.prog 66 #[.map (some w.heap.size), encP (x, y)] w6 fun e w' => e = .returned (.int .u8 ((cellT n x y).toNat : Int)) ∧ w6 = w' from sign_c n w.heap.size (x, y) w6 hn HOK.out HM6.out)
            have HC := Lib.hid (show encB (cellT n x y) = Value.int .u8 ((cellT n x y).toNat : Int) from rfl)
            generalize ((cellT n x y).toNat : Int) = cb at *
            refine HSG.out.mono ?_
            rintro e w7 ⟨rfl, rfl⟩
            go_wp2_with (at_builtin; refine wpList_append_own _ rfl _ _ 22 rfl w5.heap.size 5 j0 (.int .u8 0) 1 1 Tryd.underlying22 hj hy0 hy1 hy2 rfl (by decide) _ _ _ rfl (HO6.out.alloc _) ⟨w6.heap.size, 0, none⟩ 1 1 [.int .u8 cb] rfl rfl (cells1 _ _ _) (one1 _ rfl) (by unfold maxLen; omega) (by omega) (by simp; omega) ?_)
            intro v' W7 hown' hgrow _
            have HB7 := Lib.hid (show Below w5.heap.size w5 W7 from Below.grown (by have := HB6.out; (first | ((repeat' with_reducible first | assumption | exact Below.refl _ _ | apply Blw.alloc | apply Blw.drew | apply Blw.drewN | (refine Blw.after ?_ (by assumption)) | (refine Blw.set ?_ (by first | (dsimp only; omega) | (simp; omega)) _)); done) | (repeat' (first | assumption | exact Below.refl _ _ | apply Blw.alloc | apply Blw.drew | apply Blw.drewN | (refine Blw.after ?_ (by assumption)) | (refine Blw.set ?_ (by first | (dsimp only; omega) | (simp; done) | (simp; omega)) _))))) hgrow (by simp; omega) (fun k hk => (HO6.out.lt k hk).1))
            have HO7 := Lib.hid hown'
            clear hown' hgrow
            go_wp2_with fail
            go_roundg (gk - 1)
            case measure => exact HG1.out.2
            case rel => exact ⟨q + 1, HG1.out.1, by have := HX.out; congr 1; omega, by rw [HRS.out, List.map_append]; show W7.ownsRow _ _ 1 _ _ (_ ++ [encB (cellT n x y)]); rw [HC.out]; exact HO7.out, HB7.out⟩
          · have HQW := Lib.hid (show q = widT n by have := HQ.out; omega)
            have hgt : ¬ (loT n).1 + (q : Int) ≤ (hiT n).1 := by have := HW.out; have := HQ.out; omega
            have hcv := conv_row HOq.out
            have HOS := Lib.hid (own_below HO.out HBq.out)
            have HBS := Lib.hid (Blw.after HBo.out HBq.out)
            have HSE := Lib.hid (show (shpT n (k + 1)).map Value.string = (shpT n k).map Value.string ++ [Value.string (bs (rowT n y q))] by rw [HSS.out, HQW.out, List.map_append]; rfl)
            have hW3 : W3.heap.size ≤ wr.heap.size := by omega
            clear hlt2
            generalize bs (rowT n y q) = rs at *
            go_wp2_with (at_builtin; refine wpList_append_own _ rfl _ _ 41 rfl W3.heap.size 9 i0 (.string ⟨#[]⟩) 1 16 Tryd.underlying41 hi hz0 hz1 hz2 rfl (by decide) _ _ _ rfl (HOS.out.alloc _) ⟨wr.heap.size, 0, none⟩ 1 1 [.string rs] rfl rfl (cells1 _ _ _) (one1 _ rfl) (by unfold maxLen; omega) (by omega) (by simp; omega) ?_)
            intro v' W7 hown' hgrow _
            have HB7 := Lib.hid (show Below W3.heap.size W3 W7 from Below.grown (by have := HBS.out; (first | ((repeat' with_reducible first | assumption | exact Below.refl _ _ | apply Blw.alloc | apply Blw.drew | apply Blw.drewN | (refine Blw.after ?_ (by assumption)) | (refine Blw.set ?_ (by first | (dsimp only; omega) | (simp; omega)) _)); done) | (repeat' (first | assumption | exact Below.refl _ _ | apply Blw.alloc | apply Blw.drew | apply Blw.drewN | (refine Blw.after ?_ (by assumption)) | (refine Blw.set ?_ (by first | (dsimp only; omega) | (simp; done) | (simp; omega)) _))))) hgrow (by simp; omega) (fun k hk => (HOS.out.lt k hk).1))
            have HO7 := Lib.hid hown'
            clear hown' hgrow hcv
            go_wp2_with fail
            go_roundg (gk0 - 1)
            case measure => exact HG0.out.2
            case rel => exact ⟨k + 1, HG0.out.1, by have := HY.out; congr 1; omega, by rw [HSE.out]; exact HO7.out, HB7.out⟩
      · have hlt3 : ¬ (loT n).2 ≤ (hiT n).2 - (k : Int) := by have := HV.out; have := HK.out; omega
        have HKK := Lib.hid (show k = heiT n by have := HK.out; omega)
        have HF := Lib.hid (show OwnS w.heap.size _ (shpA a) wr from by
          rw [HE.out, ← HKK.out]
          exact own_texts (ownsRow_low (B := W3.heap.size) (by omega) (by rw [shpT_len]; exact HO.out)))
        have HBF := Lib.hid (Blw.after HBW.out HBo.out)
        clear hlt
        go_wp2_with fail
        go_ret2
        exact ⟨_, by rw [HH.out]; rfl, HF.out, HBF.out⟩
end Go.Proofs.YtaleeoghifcadaaDoor

namespace Go.Proofs.YtaleeoghifcadaaDoor
set_option linter.unusedSimpArgs false
set_option linter.unusedVariables false
open Go.RowKit Ieee

def SsRel (n bl : Nat) (w : World) (m : Nat) (v y : Value) (wr : World) : Prop :=
  ∃ k g cap : Nat, k + m = heiT n ∧ y = .int .i64 ((hiT n).2 - (k : Nat)) ∧ v = .slice (some ⟨g, 0, none⟩) k cap ∧ wr.ownsRow w.heap.size 9 1 v k ((shpT n k).map Value.string) ∧ g ≠ bl ∧ g ≠ bl + 1 ∧ Own2 wr bl (loT n).1 (loT n).2 ∧ Own2 wr (bl + 1) (hiT n).1 (hiT n).2 ∧ Below w.heap.size w wr
def SqRel (n : Nat) (y : Int) (w : World) (m : Nat) (v x : Value) (wr : World) : Prop :=
  ∃ k : Nat, k + m = widT n ∧ x = .int .i64 ((loT n).1 + (k : Nat)) ∧ v = .string (bs (rowT n y k)) ∧ Below w.heap.size w wr
set_option maxRecDepth 100000 in
set_option maxHeartbeats 8000000 in
theorem sTileShape_c (a : Int) (w : World) : Calls Tryd.prog 31 #[.int .i64 a] w (ShpPost a w) := by
  obtain ⟨i0, hi, hz0, hz1, hz2⟩ := info_parts infoS6
  have HX := Lib.hid (fun w => sTileBox_c a w)
  go_enter Tryd.func31, Tryd.ntmps31
  go_wp2_with fail
  generalize hW : World.alloc _ _ = W0
  have HB0 := Lib.hid (show Below w.heap.size w W0 by rw [← hW]; (first | ((repeat' with_reducible first | assumption | exact Below.refl _ _ | apply Blw.alloc | apply Blw.drew | apply Blw.drewN | (refine Blw.after ?_ (by assumption)) | (refine Blw.set ?_ (by first | (dsimp only; omega) | (simp; omega)) _)); done) | (repeat' (first | assumption | exact Below.refl _ _ | apply Blw.alloc | apply Blw.drew | apply Blw.drewN | (refine Blw.after ?_ (by assumption)) | (refine Blw.set ?_ (by first | (dsimp only; omega) | (simp; done) | (simp; omega)) _)))))
  have HO0 := Lib.hid (show W0.ownsRow w.heap.size 9 1 (.slice (some ⟨w.heap.size, 0, none⟩) 0 0) 0 [] by rw [← hW]; exact World.ownsRow_lit w #[] 0 (Nat.le_refl _) (by unfold maxLen; omega) rfl)
  have L0 : w.heap.size < W0.heap.size := by rw [← hW, alloc_size]; omega
  clear hW
  rcases Bool.eq_false_or_eq_true (inR 0 8 a) with h1 | h1
  · have H1 := inR_le h1
    have HH := Lib.hid h1
    have HE := Lib.hid (show shpA a = shpT a.toNat (heiT a.toNat) by unfold shpA; rw [if_pos h1])
    rw [boxV_yes (by simp only [inR, Bool.and_eq_true, decide_eq_true_eq]; omega)] at HX
    obtain ⟨n, rfl⟩ : ∃ n : Nat, a = (n : Int) := ⟨a.toNat, by omega⟩
    rw [Int.toNat_natCast] at HX HE
    have hn : n ≤ 8 := by omega
    obtain ⟨x1, x2, x3, x4, x5, x6, x7, x8⟩ := box8 n (by simp; omega)
    have hw1 : (widT n : Int) = (hiT n).1 - (loT n).1 + 1 := by unfold widT; omega
    have hw2 : (heiT n : Int) = (hiT n).2 - (loT n).2 + 1 := by unfold heiT; omega
    have HW := Lib.hid hw1
    have HV := Lib.hid hw2
    clear h1 hw1 hw2
    refine (HX.out _).mono ?_
    rintro e w2 ⟨rfl, hb2⟩
    have HB2 := Lib.hid (Blw.after HB0.out hb2)
    have HO2 := Lib.hid (own_below HO0.out hb2)
    have L2 := hb2.size
    clear hb2
    go_wp2_with fail
    generalize hW : World.alloc _ _ = W3
    have o0 : Own2 W3 w2.heap.size (loT n).1 (loT n).2 := by rw [← hW]; exact (Own2.fresh w2 _ _ _).alloc _
    have o1 : Own2 W3 (w2.heap.size + 1) (hiT n).1 (hiT n).2 := by
      rw [← hW]
      have h := Own2.fresh (w2.alloc (.cells #[.int .i64 (loT n).1, .int .i64 (loT n).2] 24)) (hiT n).1 (hiT n).2 24
      rw [alloc_size] at h
      exact h
    have HB3 := Lib.hid (show Below w.heap.size w W3 by rw [← hW]; have := HB2.out; (first | ((repeat' with_reducible first | assumption | exact Below.refl _ _ | apply Blw.alloc | apply Blw.drew | apply Blw.drewN | (refine Blw.after ?_ (by assumption)) | (refine Blw.set ?_ (by first | (dsimp only; omega) | (simp; omega)) _)); done) | (repeat' (first | assumption | exact Below.refl _ _ | apply Blw.alloc | apply Blw.drew | apply Blw.drewN | (refine Blw.after ?_ (by assumption)) | (refine Blw.set ?_ (by first | (dsimp only; omega) | (simp; done) | (simp; omega)) _)))))
    have HO3 := Lib.hid (show W3.ownsRow w.heap.size 9 1 (.slice (some ⟨w.heap.size, 0, none⟩) 0 0) 0 [] by rw [← hW]; exact (HO2.out.alloc _).alloc _)
    clear hW
    have S0 := Lib.hid (show SsRel n w2.heap.size w (heiT n) (.slice (some ⟨w.heap.size, 0, none⟩) 0 0) (.int .i64 (hiT n).2) W3 from ⟨0, w.heap.size, 0, by omega, by simp, rfl, HO3.out, by omega, by omega, o0, o1, HB3.out⟩)
    clear o0 o1
    go_loopg [4, 8] (heiT n) (fun m v y wr => SsRel n w2.heap.size w m v y wr)
    case atStart => exact S0.out
    case round =>
      clear S0
      obtain ⟨k, g, cap, hk, rfl, rfl, hown, hg0, hg1, p0, p1, hB⟩ := hrel
      obtain ⟨gk0, hgk0⟩ : ∃ gk0, gk0 = gk := ⟨_, rfl⟩
      have HGK := Lib.hid hgk0
      have HK := Lib.hid hk
      have HO := Lib.hid hown
      have HBo := Lib.hid hB
      have HPP := Lib.hid (And.intro p0 p1)
      have Lp1 := p1.lt
      have Lp0 := p0.lt
      obtain ⟨a0, a1, -, -⟩ := p0
      obtain ⟨b0, b1, -, -⟩ := p1
      have Lw : w.heap.size ≤ wr.heap.size := hB.size
      clear hown hB hk hgk0
      by_cases hlt : k < heiT n
      · have HG0 := Lib.hid (show k + 1 + (gk0 - 1) = heiT n ∧ gk0 - 1 < gk by have := HK.out; have := HGK.out; omega)
        have hge : (loT n).2 ≤ (hiT n).2 - (k : Int) := by have := HV.out; omega
        have hyb : (hiT n).2 - (k : Int) ≤ 100 ∧ -100 ≤ (hiT n).2 - (k : Int) := by have := HV.out; omega
        have HSS := Lib.hid (shpT_succ n k)
        have hki : (k : Int) ≤ 300 := by have := HV.out; omega
        generalize hy : (hiT n).2 - (k : Int) = y at *
        have HY := Lib.hid hy
        clear hy hlt
        go_wp2_with fail
        have S1 := Lib.hid (show SqRel n y wr (widT n) (.string ⟨#[]⟩) (.int .i64 (loT n).1) wr from ⟨0, by omega, by simp, rfl, Below.refl _ _⟩)
        obtain ⟨w5, hw5⟩ : ∃ w5, w5 = wr := ⟨_, rfl⟩
        have HW5 := Lib.hid hw5
        rw [← hw5] at S1 a0 a1 b0 b1 Lw HO HBo HPP Lp1 Lp0
        clear hw5
        go_loopg [9, 10] (widT n) (fun m v x wr => SqRel n y w5 m v x wr)
        case atStart => rw [← HW5.out]; exact S1.out
        case round =>
          clear S1
          obtain ⟨q, hq, rfl, rfl, hB⟩ := hrel
          have HQ := Lib.hid hq
          have HBq := Lib.hid hB
          have c0 := keepcell hB a0
          have c1 := keepcell hB a1
          have d0 := keepcell hB b0
          have d1 := keepcell hB b1
          have Lq : w5.heap.size ≤ wr.heap.size := hB.size
          have hsz : (bs (rowT n y q)).size = q := by rw [bs_sz, rowT_len]
          clear hB hq
          by_cases hlt2 : q < widT n
          · have HG1 := Lib.hid (show q + 1 + (gk - 1) = widT n ∧ gk - 1 < gk by have := HQ.out; omega)
            have hle : (loT n).1 + (q : Int) ≤ (hiT n).1 := by have := HW.out; omega
            have hqi : (q : Int) ≤ 300 := by have := HW.out; omega
            have hxlo : -100 ≤ (loT n).1 + (q : Int) := by omega
            have HRS := Lib.hid (rowT_succ n y q)
            generalize hx : (loT n).1 + (q : Int) = x at *
            have HX := Lib.hid hx
            have HT := Lib.hid (fun w => sTileHas_c n x y w)
            rw [show hasT n x y = decide (qn n (x, y) = (0, 0)) from hasT_near (p := (x, y)) hn ⟨by show x.natAbs ≤ 1000; omega, by show y.natAbs ≤ 1000; omega⟩] at HT
            have hs3 : (bs (rowT n y q)).size ≤ 300 := by rw [hsz]; omega
            clear hx hsz
            by_cases hp : qn n (x, y) = (0, 0)
            · have HR2 := Lib.hid (show bs (rowT n y q) ++ (⟨#[35]⟩ : ByteArray) = bs (rowT n y (q + 1)) by
                rw [HRS.out, show (⟨#[35]⟩ : ByteArray) = bs [35] from rfl, bs_cat]
                unfold cellT; rw [if_pos hp])
              rw [decide_eq_true hp] at HT
              clear hp HRS
              generalize bs (rowT n y q) = rs at *
              go_wp2_with fail
              refine (HT.out _).mono ?_
              rintro e w6 ⟨rfl, hb6⟩
              have HB6 := Lib.hid (Blw.after HBq.out hb6)
              clear hb6 c0 c1 d0 d1
              go_wp2_with fail
              go_roundg (gk - 1)
              case measure => exact HG1.out.2
              case rel => exact ⟨q + 1, HG1.out.1, by have := HX.out; congr 1; omega, by rw [← HR2.out], HB6.out⟩
            · have HR2 := Lib.hid (show bs (rowT n y q) ++ (⟨#[46]⟩ : ByteArray) = bs (rowT n y (q + 1)) by
                rw [HRS.out, show (⟨#[46]⟩ : ByteArray) = bs [46] from rfl, bs_cat]
                unfold cellT; rw [if_neg hp])
              rw [decide_eq_false hp] at HT
              clear hp HRS
              generalize bs (rowT n y q) = rs at *
              go_wp2_with fail
              refine (HT.out _).mono ?_
              rintro e w6 ⟨rfl, hb6⟩
              have HB6 := Lib.hid (Blw.after HBq.out hb6)
              clear hb6 c0 c1 d0 d1
              go_wp2_with fail
              go_roundg (gk - 1)
              case measure => exact HG1.out.2
              case rel => exact ⟨q + 1, HG1.out.1, by have := HX.out; congr 1; omega, by rw [← HR2.out], HB6.out⟩
          · have HQW := Lib.hid (show q = widT n by have := HQ.out; omega)
            have hgt : ¬ (loT n).1 + (q : Int) ≤ (hiT n).1 := by have := HW.out; have := HQ.out; omega
            have HOS := Lib.hid (own_below HO.out HBq.out)
            have HBS := Lib.hid (Blw.after HBo.out HBq.out)
            have HSE := Lib.hid (show (shpT n (k + 1)).map Value.string = (shpT n k).map Value.string ++ [Value.string (bs (rowT n y q))] by rw [HSS.out, HQW.out, List.map_append]; rfl)
            have hW3 : w.heap.size ≤ wr.heap.size := by omega
            have HPQ := Lib.hid (And.intro (HPP.out.1.below HBq.out Lp0) (HPP.out.2.below HBq.out Lp1))
            clear hlt2 hsz
            generalize bs (rowT n y q) = rs at *
            go_wp2_with (at_builtin; refine wpList_append_lies _ rfl _ _ 41 rfl w.heap.size 9 i0 (.string ⟨#[]⟩) 1 16 Tryd.underlying41 hi hz0 hz1 hz2 rfl (by decide) _ _ _ rfl (HOS.out.alloc _) ⟨wr.heap.size, 0, none⟩ 1 1 [.string rs] rfl rfl (cells1 _ _ _) (one1 _ rfl) (by omega) (by unfold maxLen; omega) (by omega) (by simp; omega) (wr.heap.size + 1) (by simp) ?_)
            intro g' cap' W7 hown' hgrow hg' _
            have HB7 := Lib.hid (show Below w.heap.size w W7 from Below.grown (by have := HBS.out; (first | ((repeat' with_reducible first | assumption | exact Below.refl _ _ | apply Blw.alloc | apply Blw.drew | apply Blw.drewN | (refine Blw.after ?_ (by assumption)) | (refine Blw.set ?_ (by first | (dsimp only; omega) | (simp; omega)) _)); done) | (repeat' (first | assumption | exact Below.refl _ _ | apply Blw.alloc | apply Blw.drew | apply Blw.drewN | (refine Blw.after ?_ (by assumption)) | (refine Blw.set ?_ (by first | (dsimp only; omega) | (simp; done) | (simp; omega)) _))))) hgrow (by simp; omega) (fun k hk => (HOS.out.lt k hk).1))
            have HO7 := Lib.hid hown'
            have kp : ∀ (b : Nat) (x y : Int), b ≠ g → Own2 wr b x y → Own2 W7 b x y := fun b x y hb h => by
              have h2 := h.alloc (.cells #[.string rs] 9)
              have hne : some b ≠ (Value.slice (some ⟨g, 0, none⟩) k cap).ownBlock := fun e => hb (Option.some.inj e)
              exact ⟨hgrow.cell h2.c0 hne, hgrow.cell h2.c1 hne, (World.frozen?_of_block (hgrow.block _ h2.lt hne)).trans h2.f0, (World.frozen?_of_block (hgrow.block _ h2.lt hne)).trans h2.f1⟩
            have HP7 := Lib.hid (And.intro (kp _ _ _ (Ne.symm hg0) HPQ.out.1) (kp _ _ _ (Ne.symm hg1) HPQ.out.2))
            have HG7 := Lib.hid (show g' ≠ w2.heap.size ∧ g' ≠ w2.heap.size + 1 from by
              rcases hg' with h | h
              · have h9 : some g = some g' := h
                rw [← Option.some.inj h9]; exact ⟨hg0, hg1⟩
              · constructor <;> omega)
            clear hown' hgrow hg' kp
            go_wp2_with fail
            go_roundg (gk0 - 1)
            case measure => exact HG0.out.2
            case rel => exact ⟨k + 1, g', cap', HG0.out.1, by have := HY.out; congr 1; omega, rfl, by rw [HSE.out]; exact HO7.out, HG7.out.1, HG7.out.2, HP7.out.1, HP7.out.2, HB7.out⟩
      · have hlt3 : ¬ (loT n).2 ≤ (hiT n).2 - (k : Int) := by have := HV.out; have := HK.out; omega
        have HKK := Lib.hid (show k = heiT n by have := HK.out; omega)
        have HF := Lib.hid (show OwnS w.heap.size _ (shpA n) wr from by
          rw [HE.out, ← HKK.out]
          exact own_texts (by rw [shpT_len]; exact HO.out))
        clear hlt
        go_wp2_with fail
        go_ret2
        exact ⟨_, by rw [HH.out]; rfl, HF.out, HBo.out⟩
  · have HE := Lib.hid (show shpA a = [] by unfold shpA; rw [if_neg (by rw [h1]; decide)])
    have HH := Lib.hid h1
    rcases Bool.eq_false_or_eq_true (inR 0 12 a) with h2 | h2
    · have H2 := inR_leB h2
      have h8 : 8 < a := by
        simp only [inR, Bool.and_eq_false_iff, decide_eq_false_iff_not] at h1; omega
      rw [boxV_yes h2] at HX
      clear h1 h2
      refine (HX.out _).mono ?_
      rintro e w2 ⟨rfl, hb2⟩
      have HB2 := Lib.hid (Blw.after HB0.out hb2)
      clear hb2
      go_wp2_with fail
      go_ret2
      exact ⟨_, by rw [HH.out]; rfl, by rw [HE.out]; exact ⟨_, _, rfl, Or.inl rfl, Or.inl rfl⟩, by have := HB2.out; (first | ((repeat' with_reducible first | assumption | exact Below.refl _ _ | apply Blw.alloc | apply Blw.drew | apply Blw.drewN | (refine Blw.after ?_ (by assumption)) | (refine Blw.set ?_ (by first | (dsimp only; omega) | (simp; omega)) _)); done) | (repeat' (first | assumption | exact Below.refl _ _ | apply Blw.alloc | apply Blw.drew | apply Blw.drewN | (refine Blw.after ?_ (by assumption)) | (refine Blw.set ?_ (by first | (dsimp only; omega) | (simp; done) | (simp; omega)) _))))⟩
    · rw [boxV_no h2] at HX
      clear h1 h2
      refine (HX.out _).mono ?_
      rintro e w2 ⟨rfl, hb2⟩
      have HB2 := Lib.hid (Blw.after HB0.out hb2)
      clear hb2
      go_wp2_with fail
      go_ret2
      exact ⟨_, by rw [HH.out]; rfl, by rw [HE.out]; exact ⟨_, _, rfl, Or.inl rfl, Or.inl rfl⟩, by have := HB2.out; (first | ((repeat' with_reducible first | assumption | exact Below.refl _ _ | apply Blw.alloc | apply Blw.drew | apply Blw.drewN | (refine Blw.after ?_ (by assumption)) | (refine Blw.set ?_ (by first | (dsimp only; omega) | (simp; omega)) _)); done) | (repeat' (first | assumption | exact Below.refl _ _ | apply Blw.alloc | apply Blw.drew | apply Blw.drewN | (refine Blw.after ?_ (by assumption)) | (refine Blw.set ?_ (by first | (dsimp only; omega) | (simp; done) | (simp; omega)) _))))⟩
end Go.Proofs.YtaleeoghifcadaaDoor

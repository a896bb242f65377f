/- Slices of Gauss compared, marked and read again, as the laws do. No law is stated here. -/
import Derived.Test.YtlcafjdinjdllabDoorDm
import Derived.Test.YtlcafjdinjdllabDoorDp0
import Derived.Test.YtlcafjdinjdllabDoorBaseD
namespace Go.Proofs.YtlcafjdinjdllabDoor
set_option linter.unusedSimpArgs false
set_option linter.unusedVariables false
open Go.RowKit

/-- a slice that reads as the list -/
def GSl (a : Option Addr) (l : List (Int × Int)) (w : World) : Prop :=
  l = [] ∨ ∃ g, a = some ⟨g, 0, none⟩ ∧ ∀ (k : Nat) (x y : Int), l[k]? = some (x, y) → w.cell? ⟨g, k * 2, none⟩ = some (.int .i64 x) ∧ w.cell? ⟨g, k * 2 + 1, none⟩ = some (.int .i64 y)
theorem GSl.keep {a : Option Addr} {l : List (Int × Int)} {w w' : World} (h : GSl a l w) (hb : Below w.heap.size w w') : GSl a l w' := by
  refine h.imp id ?_
  rintro ⟨g, rfl, hc⟩
  exact ⟨g, rfl, fun k x y hk => ⟨keepcell hb (hc k x y hk).1, keepcell hb (hc k x y hk).2⟩⟩
theorem gcells_at (l : List (Int × Int)) : ∀ (k : Nat) (x y : Int), l[k]? = some (x, y) → (gcells l)[k * 2]? = some (.int .i64 x) ∧ (gcells l)[k * 2 + 1]? = some (.int .i64 y) := by
  induction l with
  | nil => intro k x y h; simp at h
  | cons z r ih =>
    intro k x y h
    have e : gcells (z :: r) = .int .i64 z.1 :: .int .i64 z.2 :: gcells r := by simp [gcells]
    rw [e]
    cases k with
    | zero => simp at h; subst h; simp
    | succ k =>
      simp at h
      have := ih k x y h
      rw [show (k + 1) * 2 = k * 2 + 1 + 1 by omega]
      simpa using this
theorem gcells_len (l : List (Int × Int)) : (gcells l).length = l.length * 2 := by
  induction l with
  | nil => rfl
  | cons z r ih => have e : gcells (z :: r) = .int .i64 z.1 :: .int .i64 z.2 :: gcells r := by simp [gcells]
                   rw [e]; simp [ih]; omega
theorem own_slice {w : World} {B n : Nat} {v : Value} {l : List (Int × Int)} (h : w.ownsRow B 24 2 v n (gcells l)) (hl : l.length = n) : ∃ a c, v = .slice a l.length c ∧ GSl a l w ∧ (l = [] ∨ ∃ g, a = some ⟨g, 0, none⟩ ∧ B ≤ g ∧ g < w.heap.size ∧ ∀ j, w.frozen? ⟨g, j, none⟩ = false) := by
  subst hl
  rcases h.2 with ⟨rfl, h0⟩ | ⟨g, cap, cur, rfl, hg, hgg, -⟩
  · have : l = [] := List.eq_nil_of_length_eq_zero h0
    subst this
    exact ⟨none, 0, rfl, Or.inl rfl, Or.inl rfl⟩
  · refine ⟨_, cap, rfl, Or.inr ⟨g, rfl, fun k x y hk => ?_⟩, Or.inr ⟨g, rfl, hg, (Array.getElem?_eq_some_iff.1 hgg).1, fun j => h.frozenAt j⟩⟩
    have hk' : k < l.length := (List.getElem?_eq_some_iff.1 hk).1
    have := gcells_at l k x y hk
    exact ⟨(h.cellAt _ (by omega)).trans this.1, (h.cellAt _ (by omega)).trans this.2⟩

def EqRel (l : List (Int × Int)) (w : World) (m : Nat) (i : Value) (wr : World) : Prop := ∃ k : Nat, k + m = l.length ∧ i = .int .i64 k ∧ Below w.heap.size w wr
set_option maxRecDepth 100000 in
set_option maxHeartbeats 4000000 in
theorem eqGaussS_c (a a' : Option Addr) (c c' : Nat) (l : List (Int × Int)) (w : World) (hl : l.length ≤ 1000) (h : GSl a l w) (h' : GSl a' l w) : Calls Tryd.prog 19 #[.slice a l.length c, .slice a' l.length c'] w fun e w' => e = .returned (.bool true) ∧ Below w.heap.size w w' := by
  have H1 := Lib.hid h
  have H2 := Lib.hid h'
  clear h h'
  go_enter Tryd.func19, Tryd.ntmps19
  go_wp2_with fail
  go_loopg [5] l.length (fun m i wr => EqRel l w m i wr)
  case atStart => exact ⟨0, by omega, rfl, Below.refl _ _⟩
  case round =>
    obtain ⟨k, hk, rfl, hB⟩ := hrel
    by_cases hlt : k < l.length
    · obtain ⟨x, y, hxy⟩ : ∃ x y, l[k]? = some (x, y) := ⟨l[k].1, l[k].2, by rw [List.getElem?_eq_getElem hlt]⟩
      have HG1 := H1.out.keep hB
      have HG2 := H2.out.keep hB
      rcases HG1 with h0 | ⟨g, rfl, hg⟩
      · subst h0; simp at hlt
      rcases HG2 with h0 | ⟨g', rfl, hg'⟩
      · subst h0; simp at hlt
      obtain ⟨c0, c1⟩ := hg k x y hxy
      obtain ⟨d0, d1⟩ := hg' k x y hxy
      have Lg : g < wr.heap.size := World.block_lt_of_cell? wr _ c0
      have Lg' : g' < wr.heap.size := World.block_lt_of_cell? wr _ d0
      clear hg hg' hxy
      go_wp2_with fail
      refine region_slots (fun _ => True) [] [(17, .is (.slice (some ⟨g, 0, none⟩) l.length c)), (18, .is (.int .i64 k)), (19, .is (.pointer (some ⟨g, k * 2, none⟩))), (20, .is (pr x y)), (21, .is (.slice (some ⟨g', 0, none⟩) l.length c')), (22, .is (.int .i64 k)), (23, .is (.pointer (some ⟨g', k * 2, none⟩))), (24, .is (pr x y)), (25, .is (.bool true)), (26, .is (.bool false))] (by kernel_rfl) (by kernel_rfl) (by kernel_rfl) (fun _ _ => trivial) (fun _ _ _ _ _ _ h => h) ?_
      simp only [Steps, List.contains_cons, List.contains_nil, Nat.reduceBEq, Nat.reduceAdd, Bool.or_false, Bool.false_or, Bool.or_true, Bool.true_or, Bool.false_eq_true, if_false, if_true]
      refine ⟨?_, ?_, ?_, ?_, ?_, ?_, ?_, ?_, ?_, ?_, ?_⟩
      · intro u w2 hH hd K hK
        simp only [setU, upd, List.map_cons, List.map_nil, List.contains_cons, List.contains_nil, Nat.reduceBEq, Nat.reduceAdd, Bool.or_false, Bool.false_or, Bool.or_true, Bool.true_or, Bool.false_eq_true, if_false, if_true, ite_true, ite_false, Nat.reduceEqDiff, beq_self_eq_true] at hK ⊢
        go_wp2_with (fail)
        exact hK _ _ (by (repeat' (first | assumption | exact Below.refl _ _ | apply Blw.alloc | apply Blw.drew | apply Blw.drewN | (refine Blw.after ?_ (by assumption)) | (refine Blw.set ?_ (by first | (dsimp only; omega) | (simp; done) | (simp; omega)) _)))) rfl
      · intro u w2 hH hd K hK
        simp only [setU, upd, List.map_cons, List.map_nil, List.contains_cons, List.contains_nil, Nat.reduceBEq, Nat.reduceAdd, Bool.or_false, Bool.false_or, Bool.or_true, Bool.true_or, Bool.false_eq_true, if_false, if_true, ite_true, ite_false, Nat.reduceEqDiff, beq_self_eq_true] at hK ⊢
        go_wp2_with (fail)
        exact hK _ _ (by (repeat' (first | assumption | exact Below.refl _ _ | apply Blw.alloc | apply Blw.drew | apply Blw.drewN | (refine Blw.after ?_ (by assumption)) | (refine Blw.set ?_ (by first | (dsimp only; omega) | (simp; done) | (simp; omega)) _)))) rfl
      · intro u w2 hH hd K hK
        have f17 : u 17 = (.slice (some ⟨g, 0, none⟩) l.length c) := hd 17 (by kernel_rfl)
        have f18 : u 18 = (.int .i64 k) := hd 18 (by kernel_rfl)
        simp only [setU, upd, List.map_cons, List.map_nil, List.contains_cons, List.contains_nil, Nat.reduceBEq, Nat.reduceAdd, Bool.or_false, Bool.false_or, Bool.or_true, Bool.true_or, Bool.false_eq_true, if_false, if_true, ite_true, ite_false, Nat.reduceEqDiff, beq_self_eq_true] at hK ⊢
        rw [f17, f18] at hK ⊢
        clear f17 f18
        go_wp2_with (fail)
        exact hK _ _ (by (repeat' (first | assumption | exact Below.refl _ _ | apply Blw.alloc | apply Blw.drew | apply Blw.drewN | (refine Blw.after ?_ (by assumption)) | (refine Blw.set ?_ (by first | (dsimp only; omega) | (simp; done) | (simp; omega)) _)))) rfl
      · intro u w2 hH hd K hK
        have f19 : u 19 = (.pointer (some ⟨g, k * 2, none⟩)) := hd 19 (by kernel_rfl)
        simp only [setU, upd, List.map_cons, List.map_nil, List.contains_cons, List.contains_nil, Nat.reduceBEq, Nat.reduceAdd, Bool.or_false, Bool.false_or, Bool.or_true, Bool.true_or, Bool.false_eq_true, if_false, if_true, ite_true, ite_false, Nat.reduceEqDiff, beq_self_eq_true] at hK ⊢
        rw [f19] at hK ⊢
        clear f19
        go_wp2_with (fail)
        exact hK _ _ (by (repeat' (first | assumption | exact Below.refl _ _ | apply Blw.alloc | apply Blw.drew | apply Blw.drewN | (refine Blw.after ?_ (by assumption)) | (refine Blw.set ?_ (by first | (dsimp only; omega) | (simp; done) | (simp; omega)) _)))) rfl
      · intro u w2 hH hd K hK
        simp only [setU, upd, List.map_cons, List.map_nil, List.contains_cons, List.contains_nil, Nat.reduceBEq, Nat.reduceAdd, Bool.or_false, Bool.false_or, Bool.or_true, Bool.true_or, Bool.false_eq_true, if_false, if_true, ite_true, ite_false, Nat.reduceEqDiff, beq_self_eq_true] at hK ⊢
        go_wp2_with (fail)
        exact hK _ _ (by (repeat' (first | assumption | exact Below.refl _ _ | apply Blw.alloc | apply Blw.drew | apply Blw.drewN | (refine Blw.after ?_ (by assumption)) | (refine Blw.set ?_ (by first | (dsimp only; omega) | (simp; done) | (simp; omega)) _)))) rfl
      · intro u w2 hH hd K hK
        simp only [setU, upd, List.map_cons, List.map_nil, List.contains_cons, List.contains_nil, Nat.reduceBEq, Nat.reduceAdd, Bool.or_false, Bool.false_or, Bool.or_true, Bool.true_or, Bool.false_eq_true, if_false, if_true, ite_true, ite_false, Nat.reduceEqDiff, beq_self_eq_true] at hK ⊢
        go_wp2_with (fail)
        exact hK _ _ (by (repeat' (first | assumption | exact Below.refl _ _ | apply Blw.alloc | apply Blw.drew | apply Blw.drewN | (refine Blw.after ?_ (by assumption)) | (refine Blw.set ?_ (by first | (dsimp only; omega) | (simp; done) | (simp; omega)) _)))) rfl
      · intro u w2 hH hd K hK
        have f21 : u 21 = (.slice (some ⟨g', 0, none⟩) l.length c') := hd 21 (by kernel_rfl)
        have f22 : u 22 = (.int .i64 k) := hd 22 (by kernel_rfl)
        simp only [setU, upd, List.map_cons, List.map_nil, List.contains_cons, List.contains_nil, Nat.reduceBEq, Nat.reduceAdd, Bool.or_false, Bool.false_or, Bool.or_true, Bool.true_or, Bool.false_eq_true, if_false, if_true, ite_true, ite_false, Nat.reduceEqDiff, beq_self_eq_true] at hK ⊢
        rw [f21, f22] at hK ⊢
        clear f21 f22
        go_wp2_with (fail)
        exact hK _ _ (by (repeat' (first | assumption | exact Below.refl _ _ | apply Blw.alloc | apply Blw.drew | apply Blw.drewN | (refine Blw.after ?_ (by assumption)) | (refine Blw.set ?_ (by first | (dsimp only; omega) | (simp; done) | (simp; omega)) _)))) rfl
      · intro u w2 hH hd K hK
        have f23 : u 23 = (.pointer (some ⟨g', k * 2, none⟩)) := hd 23 (by kernel_rfl)
        simp only [setU, upd, List.map_cons, List.map_nil, List.contains_cons, List.contains_nil, Nat.reduceBEq, Nat.reduceAdd, Bool.or_false, Bool.false_or, Bool.or_true, Bool.true_or, Bool.false_eq_true, if_false, if_true, ite_true, ite_false, Nat.reduceEqDiff, beq_self_eq_true] at hK ⊢
        rw [f23] at hK ⊢
        clear f23
        go_wp2_with (fail)
        exact hK _ _ (by (repeat' (first | assumption | exact Below.refl _ _ | apply Blw.alloc | apply Blw.drew | apply Blw.drewN | (refine Blw.after ?_ (by assumption)) | (refine Blw.set ?_ (by first | (dsimp only; omega) | (simp; done) | (simp; omega)) _)))) rfl
      · intro u w2 hH hd K hK
        have f20 : u 20 = (pr x y) := hd 20 (by kernel_rfl)
        have f24 : u 24 = (pr x y) := hd 24 (by kernel_rfl)
        simp only [setU, upd, List.map_cons, List.map_nil, List.contains_cons, List.contains_nil, Nat.reduceBEq, Nat.reduceAdd, Bool.or_false, Bool.false_or, Bool.or_true, Bool.true_or, Bool.false_eq_true, if_false, if_true, ite_true, ite_false, Nat.reduceEqDiff, beq_self_eq_true] at hK ⊢
        rw [f20, f24] at hK ⊢
        clear f20 f24
        go_wp2_with ((go_at_call 45; refine (eqGauss_c x y x y _).mono ?_; rintro e w1 ⟨he, hb⟩; simp only [decide_true, Bool.and_self] at he; subst he))
        exact hK _ _ (by (repeat' (first | assumption | exact Below.refl _ _ | apply Blw.alloc | apply Blw.drew | apply Blw.drewN | (refine Blw.after ?_ (by assumption)) | (refine Blw.set ?_ (by first | (dsimp only; omega) | (simp; done) | (simp; omega)) _)))) rfl
      · intro u w2 hH hd K hK
        have f25 : u 25 = (.bool true) := hd 25 (by kernel_rfl)
        simp only [setU, upd, List.map_cons, List.map_nil, List.contains_cons, List.contains_nil, Nat.reduceBEq, Nat.reduceAdd, Bool.or_false, Bool.false_or, Bool.or_true, Bool.true_or, Bool.false_eq_true, if_false, if_true, ite_true, ite_false, Nat.reduceEqDiff, beq_self_eq_true] at hK ⊢
        rw [f25] at hK ⊢
        clear f25
        go_wp2_with (fail)
        exact hK _ _ (by (repeat' (first | assumption | exact Below.refl _ _ | apply Blw.alloc | apply Blw.drew | apply Blw.drewN | (refine Blw.after ?_ (by assumption)) | (refine Blw.set ?_ (by first | (dsimp only; omega) | (simp; done) | (simp; omega)) _)))) rfl
      intro u w2 hH hF hne
      have hH1 := hH.1
      have hH2 := hH.2.2.2
      simp only [allFacts, SlotFact.h] at hF
      obtain ⟨f17, f18, f19, f20, f21, f22, f23, f24, f25, f26, -⟩ := hF
      simp only [setU, upd, List.map_cons, List.map_nil, List.contains_cons, List.contains_nil, Nat.reduceBEq, Nat.reduceAdd, Bool.or_false, Bool.false_or, Bool.or_true, Bool.true_or, Bool.false_eq_true, if_false, if_true, ite_true, ite_false, Nat.reduceEqDiff, beq_self_eq_true]
      rw [f17, f18, f19, f20, f21, f22, f23, f24, f25, f26]
      clear f17 f18 f19 f20 f21 f22 f23 f24 f25 f26 hne
      refine wpListS_true ?_
      go_wp2
      go_roundg (gk - 1)
      case measure => omega
      case rel => exact ⟨k + 1, by omega, by go_num, by (repeat' (first | assumption | exact Below.refl _ _ | apply Blw.alloc | apply Blw.drew | apply Blw.drewN | (refine Blw.after ?_ (by assumption)) | (refine Blw.set ?_ (by first | (dsimp only; omega) | (simp; done) | (simp; omega)) _)))⟩
    · go_wp2
      go_ret
      exact ⟨rfl, hB⟩

/-! ### marks -/
def MkRel (g n : Nat) (w : World) (m : Nat) (kv i : Value) (wr : World) : Prop :=
  ∃ k : Nat, k + m = n ∧ i = .int .i64 k ∧ kv = .int .i64 (k * 2 + 1 : Nat) ∧ Marked g (k * 2) wr ∧ Open g (n * 2) wr ∧ w.grownBy wr (some g)
def MkPost (g n : Nat) (w : World) (e : Ending) (w' : World) : Prop := e = .returned (.int .i64 (n * 2 + 1 : Nat)) ∧ Marked g (n * 2) w' ∧ w.grownBy w' (some g)
set_option maxRecDepth 100000 in
set_option maxHeartbeats 4000000 in
theorem markGaussS_c (g n c : Nat) (w : World) (hn : n ≤ 1000) (h : Open g (n * 2) w) : Calls Tryd.prog 20 #[.slice (some ⟨g, 0, none⟩) n c, .int .i64 1] w (MkPost g n w) := by
  have HO := Lib.hid h
  clear h
  go_enter Tryd.func20, Tryd.ntmps20
  go_wp2_with fail
  go_loopg [1, 5] n (fun m kv i wr => MkRel g n w m kv i wr)
  case atStart => exact ⟨0, by omega, rfl, rfl, fun j hj => by omega, HO.out, ⟨rfl, rfl, rfl, Nat.le_refl _, fun _ _ _ => rfl⟩⟩
  case round =>
    clear HO
    obtain ⟨k, hk, rfl, rfl, hm, ho, hg⟩ := hrel
    have HM := Lib.hid hm
    have HO := Lib.hid ho
    have HG := Lib.hid hg
    clear hm ho hg
    by_cases hlt : k < n
    · obtain ⟨⟨u0, c0⟩, f0⟩ := HO.out (k * 2) (by omega)
      obtain ⟨⟨u1, c1⟩, f1⟩ := HO.out (k * 2 + 1) (by omega)
      have HM2 := Lib.hid ((HM.out.set HO.out (by omega)).set HO.out.set (by omega))
      have HO2 := Lib.hid (show Open g (n * 2) ((wr.setCell ⟨g, k * 2, none⟩ (.int .i64 (k * 2 + 1 : Nat))).setCell ⟨g, k * 2 + 1, none⟩ (.int .i64 (k * 2 + 1 + 1 : Nat))) from HO.out.set.set)
      have HG2 := Lib.hid (show w.grownBy ((wr.setCell ⟨g, k * 2, none⟩ (.int .i64 (k * 2 + 1 : Nat))).setCell ⟨g, k * 2 + 1, none⟩ (.int .i64 (k * 2 + 1 + 1 : Nat))) (some g) from grown_set (grown_set HG.out))
      clear HM HO HG
      go_wp2
      go_roundg (gk - 1)
      case measure => omega
      case rel =>
        refine ⟨k + 1, by omega, by go_num, by go_num, ?_, ?_, ?_⟩
        · rw [show (k + 1) * 2 = k * 2 + 1 + 1 by omega]; exact HM2.out
        · exact HO2.out
        · exact HG2.out
    · obtain rfl : k = n := by omega
      go_wp2
      go_ret
      exact ⟨rfl, HM.out, HG.out⟩
theorem mark_none (a : Option Addr) (c : Nat) (w : World) : Calls Tryd.prog 20 #[.slice a 0 c, .int .i64 1] w fun e w' => e = .returned (.int .i64 1) ∧ w = w' := by
  go_enter Tryd.func20, Tryd.ntmps20
  go_wp2_with fail
  go_loopg [1, 5] 0 (fun m kv i wr => kv = .int .i64 1 ∧ i = .int .i64 0 ∧ wr = w)
  case atStart => exact ⟨rfl, rfl, rfl⟩
  case round =>
    obtain ⟨rfl, rfl, rfl⟩ := hrel
    go_wp2
    go_ret
    exact ⟨rfl, rfl⟩

def HdRel (n : Nat) (w : World) (m : Nat) (kv i : Value) (wr : World) : Prop := ∃ k : Nat, k + m = n ∧ i = .int .i64 k ∧ kv = .int .i64 (k * 2 + 1 : Nat) ∧ wr = w
set_option maxRecDepth 100000 in
set_option maxHeartbeats 4000000 in
theorem heldGaussS_c (a : Option Addr) (n c : Nat) (w : World) (hn : n ≤ 1000) (h : n = 0 ∨ ∃ g, a = some ⟨g, 0, none⟩ ∧ Marked g (n * 2) w) : Calls Tryd.prog 21 #[.slice a n c, .int .i64 1] w fun e w' => e = .returned (.int .i64 (n * 2 + 1 : Nat)) ∧ w = w' := by
  have HH := Lib.hid h
  clear h
  go_enter Tryd.func21, Tryd.ntmps21
  go_wp2_with fail
  go_loopg [1, 5] n (fun m kv i wr => HdRel n w m kv i wr)
  case atStart => exact ⟨0, by omega, rfl, rfl, rfl⟩
  case round =>
    obtain ⟨k, hk, rfl, rfl, rfl⟩ := hrel
    by_cases hlt : k < n
    · obtain ⟨g, rfl, hM⟩ := HH.out.resolve_left (by omega)
      have c0 := hM (k * 2) (by omega)
      have c1 := hM (k * 2 + 1) (by omega)
      clear hM
      go_wp2
      go_roundg (gk - 1)
      case measure => omega
      case rel => exact ⟨k + 1, by omega, by go_num, by go_num, rfl⟩
    · obtain rfl : k = n := by omega
      go_wp2
      go_ret
      exact ⟨rfl, rfl⟩
end Go.Proofs.YtlcafjdinjdllabDoor

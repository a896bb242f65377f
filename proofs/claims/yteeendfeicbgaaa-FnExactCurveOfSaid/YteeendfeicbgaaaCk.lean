/- Slices of complex64 compared, marked and read again, as the laws do. No law is stated here. -/
import Derived.Test.YteeendfeicbgaaaCs
import Derived.Test.YteeendfeicbgaaaPo
import Derived.Test.YteeendfeicbgaaaGm2
namespace Go.Proofs.Yteeendfeicbgaaa
set_option linter.unusedSimpArgs false
set_option linter.unusedVariables false
open Go.RowKit Ieee

theorem setC_same {w : World} {g o : Nat} {u v : Value} (h : w.cell? ⟨g, o, none⟩ = some u) : (w.setCell ⟨g, o, none⟩ v).cell? ⟨g, o, none⟩ = some v := by
  go_simp
theorem setC_other {w : World} {g o o' : Nat} {v : Value} (hne : o' ≠ o) : (w.setCell ⟨g, o, none⟩ v).cell? ⟨g, o', none⟩ = w.cell? ⟨g, o', none⟩ := by
  simp only [World.setCell, World.cell?, Array.getElem?_modify, if_true]
  cases w.heap[g]? with
  | none => rfl
  | some x => cases x <;> simp [Array.getElem?_setIfInBounds, Ne.symm hne]
theorem setC_froz {w : World} {g o o' : Nat} {v : Value} : (w.setCell ⟨g, o, none⟩ v).frozen? ⟨g, o', none⟩ = w.frozen? ⟨g, o', none⟩ := by
  simp only [World.setCell, World.frozen?, Array.getElem?_modify, if_true]
  cases w.heap[g]? with
  | none => rfl
  | some x => cases x <;> rfl
def MarkC (g n : Nat) (w : World) : Prop := ∀ j, j < n → w.cell? ⟨g, j, none⟩ = some (encP (((j + 1 : Nat) : Int), 1))
def OpenC (g n : Nat) (w : World) : Prop := ∀ j, j < n → (∃ u, w.cell? ⟨g, j, none⟩ = some u) ∧ w.frozen? ⟨g, j, none⟩ = false
theorem OpenC.set {g n o : Nat} {w : World} {v : Value} (h : OpenC g n w) : OpenC g n (w.setCell ⟨g, o, none⟩ v) := fun j hj => by
  refine ⟨?_, setC_froz.trans (h j hj).2⟩
  by_cases e : j = o
  · subst e; obtain ⟨u, hu⟩ := (h j hj).1; exact ⟨v, setC_same hu⟩
  · rw [setC_other e]; exact (h j hj).1
theorem MarkC.set {g n m : Nat} {w : World} (h : MarkC g n w) (ho : OpenC g m w) (hn : n < m) : MarkC g (n + 1) (w.setCell ⟨g, n, none⟩ (encP (((n + 1 : Nat) : Int), 1))) := fun j hj => by
  by_cases e : j = n
  · subst e; obtain ⟨u, hu⟩ := (ho j hn).1; exact setC_same hu
  · rw [setC_other e]; exact h j (by omega)
theorem grownC_set {w w' : World} {g o : Nat} {v : Value} (h : w.grownBy w' (some g)) : w.grownBy (w'.setCell ⟨g, o, none⟩ v) (some g) :=
  ⟨h.os, h.tape, h.output, by simpa [World.setCell] using h.size, fun k hk hne => (Below.heap_setCell _ _ _ _ (fun e => hne (by rw [e]))).trans (h.block k hk hne)⟩
theorem MarkC.keep {g n : Nat} {w w' : World} (h : MarkC g n w) (hb : Below w.heap.size w w') : MarkC g n w' := fun j hj => keepcell hb (h j hj)
theorem CSl.grown {a : Option Addr} {l : List Value} {w w' : World} {g : Nat} (h : CSl a l w) (hg : w.grownBy w' (some g)) (hne : l = [] ∨ ∃ g0, a = some ⟨g0, 0, none⟩ ∧ g0 ≠ g) : CSl a l w' := by
  rcases hne with h0 | ⟨g0, rfl, hn⟩
  · exact Or.inl h0
  refine h.imp id ?_
  rintro ⟨g1, o, he, hc⟩
  simp only [Option.some.injEq, Addr.mk.injEq, and_true] at he
  obtain ⟨rfl, rfl⟩ := he
  exact ⟨g0, 0, rfl, fun k x hk => hg.cell (hc k x hk) (by simpa using hn)⟩
theorem openC_of {g n : Nat} {l : List Value} {w : World} (h : CSl (some ⟨g, 0, none⟩) l w) (hf : ∀ j, w.frozen? ⟨g, j, none⟩ = false) (hn : l.length = n) (hl : l ≠ []) : OpenC g n w := by
  intro j hj
  refine ⟨?_, hf j⟩
  obtain ⟨g', o, he, hc⟩ := h.at (k := j) (by omega)
  simp only [Option.some.injEq, Addr.mk.injEq, and_true] at he
  obtain ⟨rfl, rfl⟩ := he
  rw [Nat.zero_add] at hc
  exact ⟨_, hc⟩
theorem frozC_keep {w w' : World} {g : Nat} (hg : g < w.heap.size) (hf : ∀ j, w.frozen? ⟨g, j, none⟩ = false) (hb : Below w.heap.size w w') : ∀ j, w'.frozen? ⟨g, j, none⟩ = false := fun j => ((bcell hb).2 _ _ hg).trans (hf j)

/-! ### the same -/
def wd64 (z : Int × Int) : Value := .complex .f64 (floatOfInt .f64 z.1) (floatOfInt .f64 z.2)
theorem up_c {z : Int × Int} (h : Sm z) (w : World) : (convert 28 32 (encP z)).run Try.prog w = .ok (wd64 z) w :=
  conv_c Try.underlying28 Try.underlying32 (ff_conv .f32 .f64 (by have := h.1; omega)) (ff_conv .f32 .f64 (by have := h.2; omega)) w
def CeRel (n : Nat) (w : World) (m : Nat) (i : Value) (wr : World) : Prop := ∃ k : Nat, k + m = n ∧ i = .int .i64 k ∧ Below w.heap.size w wr
set_option maxRecDepth 100000 in
set_option maxHeartbeats 4000000 in
theorem eqCS_c (a a' : Option Addr) (c c' : Nat) (L : List (Int × Int)) (w : World) (hl : L.length ≤ 100000) (hS : ∀ z ∈ L, Sm z) (h : CSl a (L.map encP) w) (h' : CSl a' (L.map encP) w) : Calls Try.prog 7 #[.slice a L.length c, .slice a' L.length c'] w fun e w' => e = .returned (.bool true) ∧ Below w.heap.size w w' := by
  have H1 := Lib.hid h
  have H2 := Lib.hid h'
  have HS := Lib.hid hS
  clear h h' hS
  go_enter Try.func7, Try.ntmps7
  go_wp2_with fail
  go_loopg [5] L.length (fun m i wr => CeRel L.length w m i wr)
  case atStart => exact ⟨0, by omega, rfl, Below.refl _ _⟩
  case round =>
    obtain ⟨k, hk, rfl, hB⟩ := hrel
    by_cases hlt : k < L.length
    · obtain ⟨g, o, rfl, c0⟩ := (H1.out.keep hB).at (k := k) (by rw [List.length_map]; exact hlt)
      obtain ⟨g', o', rfl, d0⟩ := (H2.out.keep hB).at (k := k) (by rw [List.length_map]; exact hlt)
      rw [List.getElem_map] at c0 d0
      have hz := HS.out L[k] (List.getElem_mem hlt)
      generalize L[k] = z at *
      have Lg : g < wr.heap.size := World.block_lt_of_cell? wr _ c0
      have Lg' : g' < wr.heap.size := World.block_lt_of_cell? wr _ d0
      have f1 := fun w => up_c hz w
      clear hz
      go_wp2_with fail
      refine region_slots (fun _ => True) [] [(17, .is (.slice (some ⟨g, o, none⟩) L.length c)), (18, .is (.int .i64 k)), (19, .is (.pointer (some ⟨g, o + k, none⟩))), (20, .is (encP z)), (21, .is (wd64 z)), (22, .is (.slice (some ⟨g', o', none⟩) L.length c')), (23, .is (.int .i64 k)), (24, .is (.pointer (some ⟨g', o' + k, none⟩))), (25, .is (encP z)), (26, .is (wd64 z)), (27, .is (.bool true)), (28, .is (.bool false))] (by kernel_rfl) (by kernel_rfl) (by kernel_rfl) (fun _ _ => trivial) (fun _ _ _ _ _ _ h => h) ?_
      simp only [Steps, List.contains_cons, List.contains_nil, Nat.reduceBEq, Nat.reduceAdd, Bool.or_false, Bool.false_or, Bool.or_true, Bool.true_or, Bool.false_eq_true, if_false, if_true]
      refine ⟨?_, ?_, ?_, ?_, ?_, ?_, ?_, ?_, ?_, ?_, ?_, ?_, ?_⟩
      · intro u w2 hH hd K hK
        simp only [setU, upd, List.map_cons, List.map_nil, List.contains_cons, List.contains_nil, Nat.reduceBEq, Nat.reduceAdd, Bool.or_false, Bool.false_or, Bool.or_true, Bool.true_or, Bool.false_eq_true, if_false, if_true, ite_true, ite_false, Nat.reduceEqDiff, beq_self_eq_true] at hK ⊢
        go_wp2_with (fail)
        exact hK _ _ (by (repeat' (first | assumption | exact Below.refl _ _ | apply Blw.alloc | apply Blw.drew | apply Blw.drewN | (refine Blw.after ?_ (by assumption)) | (refine Blw.set ?_ (by first | (dsimp only; omega) | (simp; done) | (simp; omega)) _)))) rfl
      · intro u w2 hH hd K hK
        simp only [setU, upd, List.map_cons, List.map_nil, List.contains_cons, List.contains_nil, Nat.reduceBEq, Nat.reduceAdd, Bool.or_false, Bool.false_or, Bool.or_true, Bool.true_or, Bool.false_eq_true, if_false, if_true, ite_true, ite_false, Nat.reduceEqDiff, beq_self_eq_true] at hK ⊢
        go_wp2_with (fail)
        exact hK _ _ (by (repeat' (first | assumption | exact Below.refl _ _ | apply Blw.alloc | apply Blw.drew | apply Blw.drewN | (refine Blw.after ?_ (by assumption)) | (refine Blw.set ?_ (by first | (dsimp only; omega) | (simp; done) | (simp; omega)) _)))) rfl
      · intro u w2 hH hd K hK
        have f17 : u 17 = (.slice (some ⟨g, o, none⟩) L.length c) := hd 17 (by kernel_rfl)
        have f18 : u 18 = (.int .i64 k) := hd 18 (by kernel_rfl)
        simp only [setU, upd, List.map_cons, List.map_nil, List.contains_cons, List.contains_nil, Nat.reduceBEq, Nat.reduceAdd, Bool.or_false, Bool.false_or, Bool.or_true, Bool.true_or, Bool.false_eq_true, if_false, if_true, ite_true, ite_false, Nat.reduceEqDiff, beq_self_eq_true] at hK ⊢
        rw [f17, f18] at hK ⊢
        clear f17 f18
        go_wp2_with (fail)
        exact hK _ _ (by (repeat' (first | assumption | exact Below.refl _ _ | apply Blw.alloc | apply Blw.drew | apply Blw.drewN | (refine Blw.after ?_ (by assumption)) | (refine Blw.set ?_ (by first | (dsimp only; omega) | (simp; done) | (simp; omega)) _)))) rfl
      · intro u w2 hH hd K hK
        have f19 : u 19 = (.pointer (some ⟨g, o + k, none⟩)) := hd 19 (by kernel_rfl)
        simp only [setU, upd, List.map_cons, List.map_nil, List.contains_cons, List.contains_nil, Nat.reduceBEq, Nat.reduceAdd, Bool.or_false, Bool.false_or, Bool.or_true, Bool.true_or, Bool.false_eq_true, if_false, if_true, ite_true, ite_false, Nat.reduceEqDiff, beq_self_eq_true] at hK ⊢
        rw [f19] at hK ⊢
        clear f19
        go_wp2_with (fail)
        exact hK _ _ (by (repeat' (first | assumption | exact Below.refl _ _ | apply Blw.alloc | apply Blw.drew | apply Blw.drewN | (refine Blw.after ?_ (by assumption)) | (refine Blw.set ?_ (by first | (dsimp only; omega) | (simp; done) | (simp; omega)) _)))) rfl
      · intro u w2 hH hd K hK
        have f20 : u 20 = (encP z) := hd 20 (by kernel_rfl)
        simp only [setU, upd, List.map_cons, List.map_nil, List.contains_cons, List.contains_nil, Nat.reduceBEq, Nat.reduceAdd, Bool.or_false, Bool.false_or, Bool.or_true, Bool.true_or, Bool.false_eq_true, if_false, if_true, ite_true, ite_false, Nat.reduceEqDiff, beq_self_eq_true] at hK ⊢
        rw [f20] at hK ⊢
        clear f20
        go_wp2_with (fail)
        exact hK _ _ (by (repeat' (first | assumption | exact Below.refl _ _ | apply Blw.alloc | apply Blw.drew | apply Blw.drewN | (refine Blw.after ?_ (by assumption)) | (refine Blw.set ?_ (by first | (dsimp only; omega) | (simp; done) | (simp; omega)) _)))) rfl
      · intro u w2 hH hd K hK
        simp only [setU, upd, List.map_cons, List.map_nil, List.contains_cons, List.contains_nil, Nat.reduceBEq, Nat.reduceAdd, Bool.or_false, Bool.false_or, Bool.or_true, Bool.true_or, Bool.false_eq_true, if_false, if_true, ite_true, ite_false, Nat.reduceEqDiff, beq_self_eq_true] at hK ⊢
        go_wp2_with (fail)
        exact hK _ _ (by (repeat' (first | assumption | exact Below.refl _ _ | apply Blw.alloc | apply Blw.drew | apply Blw.drewN | (refine Blw.after ?_ (by assumption)) | (refine Blw.set ?_ (by first | (dsimp only; omega) | (simp; done) | (simp; omega)) _)))) rfl
      · intro u w2 hH hd K hK
        simp only [setU, upd, List.map_cons, List.map_nil, List.contains_cons, List.contains_nil, Nat.reduceBEq, Nat.reduceAdd, Bool.or_false, Bool.false_or, Bool.or_true, Bool.true_or, Bool.false_eq_true, if_false, if_true, ite_true, ite_false, Nat.reduceEqDiff, beq_self_eq_true] at hK ⊢
        go_wp2_with (fail)
        exact hK _ _ (by (repeat' (first | assumption | exact Below.refl _ _ | apply Blw.alloc | apply Blw.drew | apply Blw.drewN | (refine Blw.after ?_ (by assumption)) | (refine Blw.set ?_ (by first | (dsimp only; omega) | (simp; done) | (simp; omega)) _)))) rfl
      · intro u w2 hH hd K hK
        have f22 : u 22 = (.slice (some ⟨g', o', none⟩) L.length c') := hd 22 (by kernel_rfl)
        have f23 : u 23 = (.int .i64 k) := hd 23 (by kernel_rfl)
        simp only [setU, upd, List.map_cons, List.map_nil, List.contains_cons, List.contains_nil, Nat.reduceBEq, Nat.reduceAdd, Bool.or_false, Bool.false_or, Bool.or_true, Bool.true_or, Bool.false_eq_true, if_false, if_true, ite_true, ite_false, Nat.reduceEqDiff, beq_self_eq_true] at hK ⊢
        rw [f22, f23] at hK ⊢
        clear f22 f23
        go_wp2_with (fail)
        exact hK _ _ (by (repeat' (first | assumption | exact Below.refl _ _ | apply Blw.alloc | apply Blw.drew | apply Blw.drewN | (refine Blw.after ?_ (by assumption)) | (refine Blw.set ?_ (by first | (dsimp only; omega) | (simp; done) | (simp; omega)) _)))) rfl
      · intro u w2 hH hd K hK
        have f24 : u 24 = (.pointer (some ⟨g', o' + k, none⟩)) := hd 24 (by kernel_rfl)
        simp only [setU, upd, List.map_cons, List.map_nil, List.contains_cons, List.contains_nil, Nat.reduceBEq, Nat.reduceAdd, Bool.or_false, Bool.false_or, Bool.or_true, Bool.true_or, Bool.false_eq_true, if_false, if_true, ite_true, ite_false, Nat.reduceEqDiff, beq_self_eq_true] at hK ⊢
        rw [f24] at hK ⊢
        clear f24
        go_wp2_with (fail)
        exact hK _ _ (by (repeat' (first | assumption | exact Below.refl _ _ | apply Blw.alloc | apply Blw.drew | apply Blw.drewN | (refine Blw.after ?_ (by assumption)) | (refine Blw.set ?_ (by first | (dsimp only; omega) | (simp; done) | (simp; omega)) _)))) rfl
      · intro u w2 hH hd K hK
        have f25 : u 25 = (encP z) := hd 25 (by kernel_rfl)
        simp only [setU, upd, List.map_cons, List.map_nil, List.contains_cons, List.contains_nil, Nat.reduceBEq, Nat.reduceAdd, Bool.or_false, Bool.false_or, Bool.or_true, Bool.true_or, Bool.false_eq_true, if_false, if_true, ite_true, ite_false, Nat.reduceEqDiff, beq_self_eq_true] at hK ⊢
        rw [f25] at hK ⊢
        clear f25
        go_wp2_with (fail)
        exact hK _ _ (by (repeat' (first | assumption | exact Below.refl _ _ | apply Blw.alloc | apply Blw.drew | apply Blw.drewN | (refine Blw.after ?_ (by assumption)) | (refine Blw.set ?_ (by first | (dsimp only; omega) | (simp; done) | (simp; omega)) _)))) rfl
      · intro u w2 hH hd K hK
        have f21 : u 21 = (wd64 z) := hd 21 (by kernel_rfl)
        have f26 : u 26 = (wd64 z) := hd 26 (by kernel_rfl)
        simp only [setU, upd, List.map_cons, List.map_nil, List.contains_cons, List.contains_nil, Nat.reduceBEq, Nat.reduceAdd, Bool.or_false, Bool.false_or, Bool.or_true, Bool.true_or, Bool.false_eq_true, if_false, if_true, ite_true, ite_false, Nat.reduceEqDiff, beq_self_eq_true] at hK ⊢
        rw [f21, f26] at hK ⊢
        clear f21 f26
        go_wp2_with ((go_at_call 12; refine (sameComplex_c _ _ _).mono ?_; rintro e w1 ⟨rfl, rfl⟩))
        exact hK _ _ (by (repeat' (first | assumption | exact Below.refl _ _ | apply Blw.alloc | apply Blw.drew | apply Blw.drewN | (refine Blw.after ?_ (by assumption)) | (refine Blw.set ?_ (by first | (dsimp only; omega) | (simp; done) | (simp; omega)) _)))) rfl
      · intro u w2 hH hd K hK
        have f27 : u 27 = (.bool true) := hd 27 (by kernel_rfl)
        simp only [setU, upd, List.map_cons, List.map_nil, List.contains_cons, List.contains_nil, Nat.reduceBEq, Nat.reduceAdd, Bool.or_false, Bool.false_or, Bool.or_true, Bool.true_or, Bool.false_eq_true, if_false, if_true, ite_true, ite_false, Nat.reduceEqDiff, beq_self_eq_true] at hK ⊢
        rw [f27] at hK ⊢
        clear f27
        go_wp2_with (fail)
        exact hK _ _ (by (repeat' (first | assumption | exact Below.refl _ _ | apply Blw.alloc | apply Blw.drew | apply Blw.drewN | (refine Blw.after ?_ (by assumption)) | (refine Blw.set ?_ (by first | (dsimp only; omega) | (simp; done) | (simp; omega)) _)))) rfl
      intro u w2 hH hF hne
      have hH1 := hH.1
      have hH2 := hH.2.2.2
      simp only [allFacts, SlotFact.h] at hF
      obtain ⟨f17, f18, f19, f20, f21, f22, f23, f24, f25, f26, f27, f28, -⟩ := hF
      simp only [setU, upd, List.map_cons, List.map_nil, List.contains_cons, List.contains_nil, Nat.reduceBEq, Nat.reduceAdd, Bool.or_false, Bool.false_or, Bool.or_true, Bool.true_or, Bool.false_eq_true, if_false, if_true, ite_true, ite_false, Nat.reduceEqDiff, beq_self_eq_true]
      rw [f17, f18, f19, f20, f21, f22, f23, f24, f25, f26, f27, f28]
      clear f17 f18 f19 f20 f21 f22 f23 f24 f25 f26 f27 f28 hne
      refine wpListS_true ?_
      go_wp2
      go_roundg (gk - 1)
      case measure => omega
      case rel => exact ⟨k + 1, by omega, by go_num, by (repeat' (first | assumption | exact Below.refl _ _ | apply Blw.alloc | apply Blw.drew | apply Blw.drewN | (refine Blw.after ?_ (by assumption)) | (refine Blw.set ?_ (by first | (dsimp only; omega) | (simp; done) | (simp; omega)) _)))⟩
    · go_wp2
      go_ret
      exact ⟨rfl, hB⟩

/-! ### marks -/
theorem w1d : floatOfInt .f64 1 = 4607182418800017408 := by decide +kernel
theorem down_c {K : Nat} (h : K ≤ 1000000) (w : World) : (convert 32 28 (.complex .f64 (floatOfInt .f64 (K : Int)) 4607182418800017408)).run Try.prog w = .ok (Value.complex .f32 (px ((K : Int), 1)) (py ((K : Int), 1))) w := by
  have e := conv_c Try.underlying32 Try.underlying28 (ff_conv .f64 .f32 (a := (K : Int)) (by omega)) (ff_conv .f64 .f32 (a := 1) (by decide)) w
  rw [w1d] at e
  exact e
theorem ne_self {z : Int × Int} (h : Sm z) (t : TypeId) (w : World) : (binOp .neq t (encP z) (encP z)).run Try.prog w = .ok (.bool false) w := by
  have h1 := ff_order (k := .f32) (a := z.1) (b := z.1) (by have := h.1; omega) (by have := h.1; omega)
  have h2 := ff_order (k := .f32) (a := z.2) (b := z.2) (by have := h.2; omega) (by have := h.2; omega)
  rw [Int.compare_eq_eq.2 rfl] at h1 h2
  unfold encP px py
  simp [binOp, Op.complexOp, Op.Complex.cmp, Op.floatCmp, h1, h2, asBool]
def MkcRel (g n : Nat) (w : World) (m : Nat) (kv i : Value) (wr : World) : Prop :=
  ∃ k K : Nat, k + m = n ∧ K = k + 1 ∧ i = .int .i64 k ∧ kv = .int .i64 (K : Nat) ∧ MarkC g k wr ∧ OpenC g n wr ∧ w.grownBy wr (some g)
def MkcPost (g n : Nat) (w : World) (e : Ending) (w' : World) : Prop := e = .returned (.int .i64 (n + 1 : Nat)) ∧ MarkC g n w' ∧ w.grownBy w' (some g)
set_option maxRecDepth 100000 in
set_option maxHeartbeats 4000000 in
theorem markCS_c (g n c : Nat) (w : World) (hn : n ≤ 100000) (h : OpenC g n w) : Calls Try.prog 8 #[.slice (some ⟨g, 0, none⟩) n c, .int .i64 1] w (MkcPost g n w) := by
  have HO := Lib.hid h
  clear h
  go_enter Try.func8, Try.ntmps8
  go_wp2_with fail
  go_loopg [1, 5] n (fun m kv i wr => MkcRel g n w m kv i wr)
  case atStart => exact ⟨0, 1, by omega, rfl, rfl, rfl, fun j hj => by omega, HO.out, ⟨rfl, rfl, rfl, Nat.le_refl _, fun _ _ _ => rfl⟩⟩
  case round =>
    clear HO
    obtain ⟨k, K, hk, hK, rfl, rfl, hm, ho, hg⟩ := hrel
    have HM := Lib.hid hm
    have HO := Lib.hid ho
    have HG := Lib.hid hg
    clear hm ho hg
    by_cases hlt : k < n
    · obtain ⟨⟨u0, c0⟩, f0⟩ := HO.out k (by omega)
      have HM2 := Lib.hid (HM.out.set HO.out (by omega))
      have HO2 := Lib.hid (show OpenC g n (wr.setCell ⟨g, k, none⟩ (encP ((K : Int), 1))) from HO.out.set)
      have HG2 := Lib.hid (show w.grownBy (wr.setCell ⟨g, k, none⟩ (encP ((K : Int), 1))) (some g) from grownC_set HG.out)
      rw [← hK] at HM2
      have HK := Lib.hid hK
      have f1 := fun w => down_c (K := K) (by omega) w
      have fs := fun W a x y m => run_store Try.prog W a (.complex .f32 x y) m rfl
      have l1 : K ≤ n := by omega
      clear HM HO HG hK
      go_wp2
      go_roundg (gk - 1)
      case measure => omega
      case rel => exact ⟨k + 1, K + 1, by omega, by have := HK.out; omega, by go_num, by go_num, by rw [← HK.out]; exact HM2.out, HO2.out, HG2.out⟩
    · obtain rfl : k = n := by omega
      subst hK
      go_wp2
      go_ret
      exact ⟨rfl, HM.out, HG.out⟩
theorem markC_none (a : Option Addr) (c : Nat) (w : World) : Calls Try.prog 8 #[.slice a 0 c, .int .i64 1] w fun e w' => e = .returned (.int .i64 1) ∧ w = w' := by
  go_enter Try.func8, Try.ntmps8
  go_wp2_with fail
  go_loopg [1, 5] 0 (fun m kv i wr => kv = .int .i64 1 ∧ i = .int .i64 0 ∧ wr = w)
  case atStart => exact ⟨rfl, rfl, rfl⟩
  case round =>
    obtain ⟨rfl, rfl, rfl⟩ := hrel
    go_wp2
    go_ret
    exact ⟨rfl, rfl⟩
def HdcRel (n : Nat) (w : World) (m : Nat) (kv i : Value) (wr : World) : Prop := ∃ k K : Nat, k + m = n ∧ K = k + 1 ∧ i = .int .i64 k ∧ kv = .int .i64 (K : Nat) ∧ wr = w
set_option maxRecDepth 100000 in
set_option maxHeartbeats 4000000 in
theorem heldCS_c (a : Option Addr) (n c : Nat) (w : World) (hn : n ≤ 100000) (h : n = 0 ∨ ∃ g, a = some ⟨g, 0, none⟩ ∧ MarkC g n w) : Calls Try.prog 9 #[.slice a n c, .int .i64 1] w fun e w' => e = .returned (.int .i64 (n + 1 : Nat)) ∧ w = w' := by
  have HH := Lib.hid h
  clear h
  go_enter Try.func9, Try.ntmps9
  go_wp2_with fail
  go_loopg [1, 5] n (fun m kv i wr => HdcRel n w m kv i wr)
  case atStart => exact ⟨0, 1, by omega, rfl, rfl, rfl, rfl⟩
  case round =>
    obtain ⟨k, K, hk, hK, rfl, rfl, rfl⟩ := hrel
    by_cases hlt : k < n
    · obtain ⟨g, rfl, hM⟩ := HH.out.resolve_left (by omega)
      have c0 := hM k (by omega)
      rw [← hK] at c0
      have HK := Lib.hid hK
      have f1 := fun w => down_c (K := K) (by omega) w
      have f2 := fun t w => ne_self (z := ((K : Int), 1)) (show Sm _ by unfold Sm; dsimp only; omega) t w
      have l1 : K ≤ n := by omega
      clear hM hK
      go_wp2
      go_roundg (gk - 1)
      case measure => omega
      case rel => exact ⟨k + 1, K + 1, by omega, by have := HK.out; omega, by go_num, by go_num, rfl⟩
    · obtain rfl : k = n := by omega
      subst hK
      go_wp2
      go_ret
      exact ⟨rfl, rfl⟩
/-- the mark on a slice, none or some -/
theorem markCA_c (a : Option Addr) (c : Nat) (l : List Value) (w : World) (B : Nat) (hn : l.length ≤ 100000) (h : CSl a l w) (ho : l = [] ∨ ∃ g, a = some ⟨g, 0, none⟩ ∧ B ≤ g ∧ g < w.heap.size ∧ ∀ j, w.frozen? ⟨g, j, none⟩ = false) :
    Calls Try.prog 8 #[.slice a l.length c, .int .i64 1] w fun e w' => e = .returned (.int .i64 (l.length + 1 : Nat)) ∧ (l = [] ∨ ∃ g, a = some ⟨g, 0, none⟩ ∧ MarkC g l.length w') ∧ ∃ g, B ≤ g ∧ w.grownBy w' (some g) ∧ (l = [] ∨ a = some ⟨g, 0, none⟩) := by
  by_cases hl : l = []
  · subst hl
    refine (markC_none a c w).mono ?_
    rintro e w' ⟨rfl, rfl⟩
    exact ⟨rfl, Or.inl rfl, B, Nat.le_refl _, ⟨rfl, rfl, rfl, Nat.le_refl _, fun _ _ _ => rfl⟩, Or.inl rfl⟩
  · obtain ⟨g, rfl, hg, hgw, hf⟩ := ho.resolve_left hl
    refine (markCS_c g l.length c w hn (openC_of h hf rfl hl)).mono ?_
    rintro e w' ⟨rfl, hm, hgr⟩
    exact ⟨rfl, Or.inr ⟨g, rfl, hm⟩, g, hg, hgr, Or.inr rfl⟩
end Go.Proofs.Yteeendfeicbgaaa

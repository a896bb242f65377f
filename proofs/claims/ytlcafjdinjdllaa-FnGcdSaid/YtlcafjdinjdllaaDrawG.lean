/- What the law of common divisors draws: two Gauss, or two products with one number. No law is stated here. -/
import Derived.Test.YtlcafjdinjdllaaDrawT
import Derived.Test.YtlcafjdinjdllaaGd
namespace Go.Proofs.Ytlcafjdinjdllaa
set_option linter.unusedSimpArgs false
set_option linter.unusedVariables false
open Go.RowKit

/-- what the draw leaves -/
def TwoA (w : World) (e : Ending) (w' : World) : Prop :=
  ∃ x y x' y' : Int, e = .returned (.tuple #[.agg #[.int .i64 x, .int .i64 y], .agg #[.int .i64 x', .int .i64 y']]) ∧ Below w.heap.size w w'
/-- a box of two numbers -/
def Box2 (b : Nat) (x y : Int) (w : World) : Prop := b < w.heap.size ∧ w.cell? ⟨b, 0, none⟩ = some (.int .i64 x) ∧ w.cell? ⟨b, 1, none⟩ = some (.int .i64 y)
theorem Box2.keep {b : Nat} {x y : Int} {w w' : World} (h : Box2 b x y w) (hb : Below w.heap.size w w') : Box2 b x y w' :=
  ⟨Nat.lt_of_lt_of_le h.1 hb.size, keepcell hb h.2.1, keepcell hb h.2.2⟩
theorem Box2.moved {b rb : Nat} {x y : Int} {w w' : World} (h : Box2 b x y w) (m : Moved rb w w') (h1 : b ≠ rb) : Box2 b x y w' :=
  ⟨Nat.lt_of_lt_of_le h.1 m.1, m.cell h.1 h1 h.2.1, m.cell h.1 h1 h.2.2⟩
theorem Box2.new (x y : Int) (w : World) (t : TypeId) : Box2 w.heap.size x y (w.alloc (.cells #[.int .i64 x, .int .i64 y] t)) :=
  by
  have c0 : (w.alloc (.cells #[.int .i64 x, .int .i64 y] t)).cell? ⟨w.heap.size, 0, none⟩ = some (.int .i64 x) := by go_simp
  exact ⟨World.block_lt_of_cell? _ _ c0, c0, by go_simp⟩

set_option maxHeartbeats 4000000 in
theorem drawGcd_c (v : Value) (w : World) (h : Code v w) : Calls Try.prog 7 #[v] w (TwoA w) := by
  go_enter Try.func7, Try.ntmps7
  go_wp2_with fail
  generalize hW : World.alloc _ _ = W0
  have kW0_1 : W0.cell? ⟨w.heap.size, 0, none⟩ = some (.int .i64 (0)) := by rw [← hW]; clear hW; first | (go_simp; done) | ((repeat refine keepcell ((Below.refl _ _).alloc (Nat.le_refl _) _) ?_); go_simp; done) | (simp only [frozen?_alloc_cells]; go_simp; done)
  have zW0_1 : W0.frozen? ⟨w.heap.size, 0, none⟩ = false := by rw [← hW]; clear hW; first | (go_simp; done) | ((repeat refine keepcell ((Below.refl _ _).alloc (Nat.le_refl _) _) ?_); go_simp; done) | (simp only [frozen?_alloc_cells]; go_simp; done)
  have kW0_2 : W0.cell? ⟨w.heap.size, 1, none⟩ = some (.int .i64 (0)) := by rw [← hW]; clear hW; first | (go_simp; done) | ((repeat refine keepcell ((Below.refl _ _).alloc (Nat.le_refl _) _) ?_); go_simp; done) | (simp only [frozen?_alloc_cells]; go_simp; done)
  have zW0_2 : W0.frozen? ⟨w.heap.size, 1, none⟩ = false := by rw [← hW]; clear hW; first | (go_simp; done) | ((repeat refine keepcell ((Below.refl _ _).alloc (Nat.le_refl _) _) ?_); go_simp; done) | (simp only [frozen?_alloc_cells]; go_simp; done)
  have : w.heap.size < W0.heap.size := World.block_lt_of_cell? W0 ⟨w.heap.size, 0, none⟩ (by assumption)
  have kW0_3 : W0.cell? ⟨w.heap.size + 1, 0, none⟩ = some (.int .i64 (0)) := by rw [← hW]; clear hW; first | (go_simp; done) | ((repeat refine keepcell ((Below.refl _ _).alloc (Nat.le_refl _) _) ?_); go_simp; done) | (simp only [frozen?_alloc_cells]; go_simp; done)
  have zW0_3 : W0.frozen? ⟨w.heap.size + 1, 0, none⟩ = false := by rw [← hW]; clear hW; first | (go_simp; done) | ((repeat refine keepcell ((Below.refl _ _).alloc (Nat.le_refl _) _) ?_); go_simp; done) | (simp only [frozen?_alloc_cells]; go_simp; done)
  have kW0_4 : W0.cell? ⟨w.heap.size + 1, 1, none⟩ = some (.int .i64 (0)) := by rw [← hW]; clear hW; first | (go_simp; done) | ((repeat refine keepcell ((Below.refl _ _).alloc (Nat.le_refl _) _) ?_); go_simp; done) | (simp only [frozen?_alloc_cells]; go_simp; done)
  have zW0_4 : W0.frozen? ⟨w.heap.size + 1, 1, none⟩ = false := by rw [← hW]; clear hW; first | (go_simp; done) | ((repeat refine keepcell ((Below.refl _ _).alloc (Nat.le_refl _) _) ?_); go_simp; done) | (simp only [frozen?_alloc_cells]; go_simp; done)
  have : w.heap.size + 1 < W0.heap.size := World.block_lt_of_cell? W0 ⟨w.heap.size + 1, 0, none⟩ (by assumption)
  have hBW0 : Below w.heap.size w W0 := by rw [← hW]; (repeat' (first | assumption | exact Below.refl _ _ | apply Blw.alloc | apply Blw.drew | apply Blw.drewN | (refine Blw.after ?_ (by assumption)) | (refine Blw.set ?_ (by first | (dsimp only; omega) | (simp; done) | (simp; omega)) _)))
  have hsW0 := hBW0.size
  clear hW
  have h0 : Code v W0 := h.keep hBW0
  have N0 : Nil4 w.heap.size W0 := ⟨by assumption, ⟨by assumption, by assumption, by assumption, by assumption⟩, by assumption, by assumption, by assumption, by assumption⟩
  have HB := Lib.hid hBW0
  clear hBW0
  try clear kW0_1; try clear zW0_1; try clear kW0_2; try clear zW0_2; try clear kW0_3; try clear zW0_3; try clear kW0_4; try clear zW0_4
  refine (l6Open_c v W0 h0).mono ?_
  rintro e W1 ⟨sv, rfl, hr, hs, hz, hb⟩
  go_wp2_with fail
  refine (l91Gauss_c W0.heap.size sv 0 W1 hs hr ⟨by omega, by omega⟩).mono ?_
  rintro e W2 ⟨v', p1, ⟨x, y, rfl, hx, hy⟩, rfl, q0, q1, h1, hs1, m1⟩
  have l0 := N0.1
  have N2 := Lib.hid ((N0.keep hb).moved m1 (by omega) (by omega))
  have M1 := Lib.hid m1
  have H1 := Lib.hid h1
  have HS := Lib.hid hs1
  have HB1 := Lib.hid hb
  have z2 : W0.heap.size < W2.heap.size := by have := m1.1; omega
  clear m1 h1 hs1 hb N0 hr hs h0
  go_wp2_with fail
  generalize hW : World.alloc _ _ = W3
  have hk := (Below.refl W2.heap.size W2).alloc (Nat.le_refl _) (.cells #[.int .i64 x, .int .i64 y] 24)
  have N3 := Lib.hid (show Nil4 w.heap.size W3 by rw [← hW]; exact N2.out.keep hk)
  have H3 := Lib.hid (show Rd W0.heap.size sv p1 W3 by rw [← hW]; exact H1.out.keep hk)
  have S3 := Lib.hid (show Src sv W0.heap.size W3 by rw [← hW]; exact HS.out.keep hk)
  have B3 := Lib.hid (show Moved W0.heap.size W1 W3 by rw [← hW]; exact M1.out.below hk)
  have X3 := Lib.hid (show Box2 W2.heap.size x y W3 by rw [← hW]; exact Box2.new _ _ _ _)
  clear hW hk M1 H1 HS N2
  refine (l91Gauss_c W0.heap.size sv p1 W3 S3.out H3.out ⟨by omega, by omega⟩).mono ?_
  rintro e W4 ⟨v', p2, ⟨x', y', rfl, hx', hy'⟩, rfl, r0, r1, h2, hs2, m2⟩
  have N4 := Lib.hid (N3.out.moved m2 (by omega) (by omega))
  have X4 := Lib.hid (X3.out.moved m2 (by omega))
  have B4 := Lib.hid (B3.out.trans m2)
  have H4 := Lib.hid h2
  have S4 := Lib.hid hs2
  have z4 : W2.heap.size < W4.heap.size := X4.out.1
  clear m2 h2 hs2 N3 H3 S3 B3 X3
  go_wp2_with fail
  generalize hW : World.alloc _ _ = W5
  have hk := (Below.refl W4.heap.size W4).alloc (Nat.le_refl _) (.cells #[.int .i64 x', .int .i64 y'] 24)
  have N5 := Lib.hid (show Nil4 w.heap.size W5 by rw [← hW]; exact N4.out.keep hk)
  have H5 := Lib.hid (show Rd W0.heap.size sv p2 W5 by rw [← hW]; exact H4.out.keep hk)
  have S5 := Lib.hid (show Src sv W0.heap.size W5 by rw [← hW]; exact S4.out.keep hk)
  have B5 := Lib.hid (show Moved W0.heap.size W1 W5 by rw [← hW]; exact B4.out.below hk)
  have X5 := Lib.hid (show Box2 W2.heap.size x y W5 by rw [← hW]; exact X4.out.keep hk)
  have Y5 := Lib.hid (show Box2 W4.heap.size x' y' W5 by rw [← hW]; exact Box2.new _ _ _ _)
  clear hW hk N4 H4 S4 B4 X4
  refine (pick_d W0.heap.size sv p2 2 W5 S5.out H5.out ⟨by omega, by omega⟩ ⟨by omega, by omega⟩).mono ?_
  rintro e W6 ⟨v, p3, ⟨k, rfl, k0, k1⟩, rfl, t0, t1, h3, hs3, m3⟩
  have N6 := Lib.hid (N5.out.moved m3 (by omega) (by omega))
  have X6 := Lib.hid (X5.out.moved m3 (by omega))
  have Y6 := Lib.hid (Y5.out.moved m3 (by omega))
  have B6 := Lib.hid (B5.out.trans m3)
  have H6 := Lib.hid h3
  have S6 := Lib.hid hs3
  clear m3 h3 hs3 N5 H5 S5 B5 X5 Y5
  have hk : k = 0 ∨ k = 1 := by omega
  clear k0 k1
  rcases hk with rfl | rfl
  · go_wp2_with fail
    refine (pick_d W0.heap.size sv p3 7 W6 S6.out H6.out ⟨by omega, by omega⟩ ⟨by omega, by omega⟩).mono ?_
    rintro e W7 ⟨v, p4, ⟨c, rfl, c0, c1⟩, rfl, u0, u1, h4, hs4, m4⟩
    have N7 := Lib.hid (N6.out.moved m4 (by omega) (by omega))
    have X7 := Lib.hid (X6.out.moved m4 (by omega))
    have Y7 := Lib.hid (Y6.out.moved m4 (by omega))
    have B7 := Lib.hid (B6.out.trans m4)
    have H7 := Lib.hid h4
    have S7 := Lib.hid hs4
    clear m4 h4 hs4 N6 H6 S6 B6 X6 Y6
    go_wp2_with fail
    refine (pick_d W0.heap.size sv p4 7 W7 S7.out H7.out ⟨by omega, by omega⟩ ⟨by omega, by omega⟩).mono ?_
    rintro e W8 ⟨v, p5, ⟨d, rfl, d0, d1⟩, rfl, -, -, -, -, m5⟩
    have N8 := Lib.hid (N7.out.moved m5 (by omega) (by omega))
    have X8 := Lib.hid (X7.out.moved m5 (by omega))
    have Y8 := Lib.hid (Y7.out.moved m5 (by omega))
    have B8 := Lib.hid (B7.out.trans m5)
    clear m5 N7 H7 S7 B7 X7 Y7
    go_wp2_with fail
    generalize hW : World.alloc _ _ = W9
    have hk := (Below.refl W8.heap.size W8).alloc (Nat.le_refl _) (.cells #[.int .i64 (c - 3), .int .i64 (d - 3)] 24)
    obtain ⟨l5, ⟨k0, k1, k2, k3⟩, f0, f1, f2, f3⟩ : Nil4 w.heap.size W9 := by rw [← hW]; exact N8.out.keep hk
    obtain ⟨lx, x0, x1⟩ : Box2 W2.heap.size x y W9 := by rw [← hW]; exact X8.out.keep hk
    obtain ⟨ly, y0, y1⟩ : Box2 W4.heap.size x' y' W9 := by rw [← hW]; exact Y8.out.keep hk
    obtain ⟨lz, z0, z1⟩ : Box2 W8.heap.size (c - 3) (d - 3) W9 := by rw [← hW]; exact Box2.new _ _ _ _
    have B9 : Below w.heap.size w W9 := (show Moved W0.heap.size W1 W9 by rw [← hW]; exact B8.out.below hk).2.2.2 w (Blw.after HB.out HB1.out) (by omega)
    have l6 : w.heap.size < W9.heap.size := by omega
    clear hW hk N8 X8 Y8 B8 HB HB1
    have i1 : in9 x y := by omega
    have i2 : in9 x' y' := by omega
    have i3 : in9 (c - 3) (d - 3) := by omega
    generalize c - 3 = c at *
    generalize d - 3 = d at *
    refine region_slots (fun _ => True) [] [(24, .is (pr x y)), (25, .is (pr c d)), (26, .is (pr (x * c - y * d) (x * d + y * c))), (27, .is (pr x' y')), (28, .is (pr c d)), (29, .is (pr (x' * c - y' * d) (x' * d + y' * c)))] (by kernel_rfl) (by kernel_rfl) (by kernel_rfl) (fun _ _ => trivial) (fun _ _ _ _ _ _ h => h) ?_
    simp only [Steps, List.contains_cons, List.contains_nil, Nat.reduceBEq, Nat.reduceAdd, Bool.or_false, Bool.false_or, Bool.or_true, Bool.true_or, Bool.false_eq_true, if_false, if_true]
    refine ⟨?_, ?_, ?_, ?_, ?_, ?_, ?_⟩
    · intro u w2 hH hd K hK
      simp only [setU, upd, List.map_cons, List.map_nil, List.contains_cons, List.contains_nil, Nat.reduceBEq, Nat.reduceAdd, Bool.or_false, Bool.false_or, Bool.or_true, Bool.true_or, Bool.false_eq_true, if_false, if_true, ite_true, ite_false, Nat.reduceEqDiff, beq_self_eq_true] at hK ⊢
      go_wp2_with (fail)
      exact hK _ _ (by (repeat' (first | assumption | exact Below.refl _ _ | apply Blw.alloc | apply Blw.drew | apply Blw.drewN | (refine Blw.after ?_ (by assumption)) | (refine Blw.set ?_ (by first | (dsimp only; omega) | (simp; done) | (simp; omega)) _)))) rfl
    · intro u w2 hH hd K hK
      simp only [setU, upd, List.map_cons, List.map_nil, List.contains_cons, List.contains_nil, Nat.reduceBEq, Nat.reduceAdd, Bool.or_false, Bool.false_or, Bool.or_true, Bool.true_or, Bool.false_eq_true, if_false, if_true, ite_true, ite_false, Nat.reduceEqDiff, beq_self_eq_true] at hK ⊢
      go_wp2_with (fail)
      exact hK _ _ (by (repeat' (first | assumption | exact Below.refl _ _ | apply Blw.alloc | apply Blw.drew | apply Blw.drewN | (refine Blw.after ?_ (by assumption)) | (refine Blw.set ?_ (by first | (dsimp only; omega) | (simp; done) | (simp; omega)) _)))) rfl
    · intro u w2 hH hd K hK
      have f24 : u 24 = (pr x y) := hd 24 (by kernel_rfl)
      have f25 : u 25 = (pr c d) := hd 25 (by kernel_rfl)
      simp only [setU, upd, List.map_cons, List.map_nil, List.contains_cons, List.contains_nil, Nat.reduceBEq, Nat.reduceAdd, Bool.or_false, Bool.false_or, Bool.or_true, Bool.true_or, Bool.false_eq_true, if_false, if_true, ite_true, ite_false, Nat.reduceEqDiff, beq_self_eq_true] at hK ⊢
      rw [f24, f25] at hK ⊢
      clear f24 f25
      go_wp2_with ((go_at_call 26; refine (l1Times_c _ _ _ _ _ i1 i3).mono ?_; rintro e w1 ⟨rfl, hb⟩; obtain ⟨hc, hf⟩ := bcell hb; have hz := bsize hb; have hs := hb.size; try simp at hs))
      exact hK _ _ (by (repeat' (first | assumption | exact Below.refl _ _ | apply Blw.alloc | apply Blw.drew | apply Blw.drewN | (refine Blw.after ?_ (by assumption)) | (refine Blw.set ?_ (by first | (dsimp only; omega) | (simp; done) | (simp; omega)) _)))) rfl
    · intro u w2 hH hd K hK
      simp only [setU, upd, List.map_cons, List.map_nil, List.contains_cons, List.contains_nil, Nat.reduceBEq, Nat.reduceAdd, Bool.or_false, Bool.false_or, Bool.or_true, Bool.true_or, Bool.false_eq_true, if_false, if_true, ite_true, ite_false, Nat.reduceEqDiff, beq_self_eq_true] at hK ⊢
      go_wp2_with (fail)
      exact hK _ _ (by (repeat' (first | assumption | exact Below.refl _ _ | apply Blw.alloc | apply Blw.drew | apply Blw.drewN | (refine Blw.after ?_ (by assumption)) | (refine Blw.set ?_ (by first | (dsimp only; omega) | (simp; done) | (simp; omega)) _)))) rfl
    · intro u w2 hH hd K hK
      simp only [setU, upd, List.map_cons, List.map_nil, List.contains_cons, List.contains_nil, Nat.reduceBEq, Nat.reduceAdd, Bool.or_false, Bool.false_or, Bool.or_true, Bool.true_or, Bool.false_eq_true, if_false, if_true, ite_true, ite_false, Nat.reduceEqDiff, beq_self_eq_true] at hK ⊢
      go_wp2_with (fail)
      exact hK _ _ (by (repeat' (first | assumption | exact Below.refl _ _ | apply Blw.alloc | apply Blw.drew | apply Blw.drewN | (refine Blw.after ?_ (by assumption)) | (refine Blw.set ?_ (by first | (dsimp only; omega) | (simp; done) | (simp; omega)) _)))) rfl
    · intro u w2 hH hd K hK
      have f27 : u 27 = (pr x' y') := hd 27 (by kernel_rfl)
      have f28 : u 28 = (pr c d) := hd 28 (by kernel_rfl)
      simp only [setU, upd, List.map_cons, List.map_nil, List.contains_cons, List.contains_nil, Nat.reduceBEq, Nat.reduceAdd, Bool.or_false, Bool.false_or, Bool.or_true, Bool.true_or, Bool.false_eq_true, if_false, if_true, ite_true, ite_false, Nat.reduceEqDiff, beq_self_eq_true] at hK ⊢
      rw [f27, f28] at hK ⊢
      clear f27 f28
      go_wp2_with ((go_at_call 26; refine (l1Times_c _ _ _ _ _ i2 i3).mono ?_; rintro e w1 ⟨rfl, hb⟩; obtain ⟨hc, hf⟩ := bcell hb; have hz := bsize hb; have hs := hb.size; try simp at hs))
      exact hK _ _ (by (repeat' (first | assumption | exact Below.refl _ _ | apply Blw.alloc | apply Blw.drew | apply Blw.drewN | (refine Blw.after ?_ (by assumption)) | (refine Blw.set ?_ (by first | (dsimp only; omega) | (simp; done) | (simp; omega)) _)))) rfl
    intro u w2 hH hF hne
    have hH1 := hH.1
    have hH2 := hH.2.2.2
    simp only [allFacts, SlotFact.h] at hF
    obtain ⟨f24, f25, f26, f27, f28, f29, -⟩ := hF
    simp only [setU, upd, List.map_cons, List.map_nil, List.contains_cons, List.contains_nil, Nat.reduceBEq, Nat.reduceAdd, Bool.or_false, Bool.false_or, Bool.or_true, Bool.true_or, Bool.false_eq_true, if_false, if_true, ite_true, ite_false, Nat.reduceEqDiff, beq_self_eq_true]
    rw [f24, f25, f26, f27, f28, f29]
    clear f24 f25 f26 f27 f28 f29 hne
    refine wpListS_true ?_
    go_wp2_with fail
    exact bodyPost_ret (v := .tuple #[pr (x * c - y * d) (x * d + y * c), pr (x' * c - y' * d) (x' * d + y' * c)]) (by simp [results, Try.results7, go_sem, *]) rfl ⟨_, _, _, _, rfl, by (repeat' (first | assumption | exact Below.refl _ _ | apply Blw.alloc | apply Blw.drew | apply Blw.drewN | (refine Blw.after ?_ (by assumption)) | (refine Blw.set ?_ (by first | (dsimp only; omega) | (simp; done) | (simp; omega)) _)))⟩
  · go_wp2_with fail
    obtain ⟨l5, ⟨k0, k1, k2, k3⟩, f0, f1, f2, f3⟩ : Nil4 w.heap.size W6 := N6.out
    obtain ⟨lx, x0, x1⟩ : Box2 W2.heap.size x y W6 := X6.out
    obtain ⟨ly, y0, y1⟩ : Box2 W4.heap.size x' y' W6 := Y6.out
    have B9 : Below w.heap.size w W6 := B6.out.2.2.2 w (Blw.after HB.out HB1.out) (by omega)
    have l6 : w.heap.size < W6.heap.size := by omega
    clear N6 X6 Y6 B6 H6 S6 HB HB1
    go_region
    all_goals
      go_wp2_with fail
      exact bodyPost_ret (v := .tuple #[pr x y, pr x' y']) (by simp [results, Try.results7, go_sem, *]) rfl ⟨_, _, _, _, rfl, by (repeat' (first | assumption | exact Below.refl _ _ | apply Blw.alloc | apply Blw.drew | apply Blw.drewN | (refine Blw.after ?_ (by assumption)) | (refine Blw.set ?_ (by first | (dsimp only; omega) | (simp; done) | (simp; omega)) _)))⟩
end Go.Proofs.Ytlcafjdinjdllaa

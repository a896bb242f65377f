/- What the laws of chapter 6 draw: levels, and a level with a Gauss. No law is stated here. -/
import Derived.Test.YtaleeoghifcadaaDoorDrawB
import Derived.Test.YtaleeoghifcadaaDoorOw
namespace Go.Proofs.YtaleeoghifcadaaDoor
set_option linter.unusedSimpArgs false
set_option linter.unusedVariables false
open Go.RowKit

theorem Own2.moved {rb : Nat} {w w' : World} {b : Nat} {x y : Int} (h : Own2 w b x y) (m : Moved rb w w') (hn : b ≠ rb) : Own2 w' b x y :=
  ⟨m.cell h.lt hn h.c0, m.cell h.lt hn h.c1, m.froz h.lt hn h.f0, m.froz h.lt hn h.f1⟩
def LevV (v : Value) : Prop := ∃ k : Int, v = .int .i64 k ∧ (-8 ≤ k ∧ k ≤ 13)
set_option maxHeartbeats 2000000 in
theorem l92Level_c (rb : Nat) (sv : Value) (p : Int) (w : World) (hs : Src sv rb w) (h : Rd rb sv p w) (hp : 0 ≤ p ∧ p ≤ 1000) :
    Calls Tryd.prog 45 #[.pointer (some ⟨rb, 0, none⟩)] w (Drawn LevV 3 rb sv p w) := by
  have hrb : rb < w.heap.size := World.block_lt_of_cell? w _ h.1
  go_enter Tryd.func45, Tryd.ntmps45
  go_wp2_with fail
  refine (pick_d rb sv p 7 w hs h ⟨by omega, by omega⟩ ⟨by omega, by omega⟩).mono ?_
  rintro e W1 ⟨v, p1, ⟨a, rfl, a0, a1⟩, rfl, r0, r1, h1, hs1, m1⟩
  have M1 := Lib.hid m1
  go_wp2_with fail
  refine (pick_d rb sv p1 20 W1 hs1 h1 ⟨by omega, by omega⟩ ⟨by omega, by omega⟩).mono ?_
  rintro e W2 ⟨v, p2, ⟨b, rfl, b0, b1⟩, rfl, s0, s1, h2, hs2, m2⟩
  have M2 := Lib.hid m2
  have hq : b.tdiv 19 = 0 ∨ b.tdiv 19 = 1 := by rw [Int.tdiv_eq_ediv_of_nonneg b0]; omega
  have H1 := Lib.hid h1
  clear hs h m1 m2 hs1 h1
  rcases hq with hq | hq
  all_goals
    have hw : IntKind.i64.wrap (b.tdiv 19) = b.tdiv 19 := IntWalk.i64_in _ (by omega)
    go_wp2_with fail
    refine (pick_d rb sv p2 20 W2 hs2 h2 ⟨by omega, by omega⟩ ⟨by omega, by omega⟩).mono ?_
    rintro e W3 ⟨v, p3, ⟨c, rfl, c0, c1⟩, rfl, t0, t1, h3, hs3, m3⟩
    have HF := Lib.hid (And.intro h3 (And.intro hs3 (M1.out.trans (M2.out.trans m3))))
    have hr : c.tdiv 19 = 0 ∨ c.tdiv 19 = 1 := by rw [Int.tdiv_eq_ediv_of_nonneg c0]; omega
    clear hs2 h2 h3 hs3 m3
    rcases hr with hr | hr
    all_goals
      go_wp2_with fail
      go_ret
      exact ⟨_, p3, ⟨_, rfl, by omega⟩, rfl, by omega, by omega, HF.out.1, HF.out.2.1, HF.out.2.2⟩
/-- what a draw of a level leaves -/
def OneLev (w : World) (e : Ending) (w' : World) : Prop := ∃ k : Int, e = .returned (.int .i64 k) ∧ (-8 ≤ k ∧ k ≤ 13) ∧ Below w.heap.size w w'
theorem drawTilePoints_c (v : Value) (w : World) (h : Code v w) : Calls Tryd.prog 21 #[v] w (OneLev w) := by
  go_enter Tryd.func21, Tryd.ntmps21
  go_wp2_with fail
  refine (l6Open_c v w h).mono ?_
  rintro e W1 ⟨sv, rfl, hr, hs, hz, hb⟩
  go_wp2_with fail
  refine (l92Level_c w.heap.size sv 0 W1 hs hr ⟨by omega, by omega⟩).mono ?_
  rintro e W2 ⟨v', p', ⟨k, rfl, hk⟩, rfl, -, -, -, -, m⟩
  have hB2 : Below w.heap.size w W2 := m.2.2.2 w hb (Nat.le_refl _)
  go_wp2_with fail
  go_ret
  exact ⟨k, rfl, hk, hB2⟩
theorem drawTileEdges_c (v : Value) (w : World) (h : Code v w) : Calls Tryd.prog 26 #[v] w (OneLev w) := by
  go_enter Tryd.func26, Tryd.ntmps26
  go_wp2_with fail
  refine (l6Open_c v w h).mono ?_
  rintro e W1 ⟨sv, rfl, hr, hs, hz, hb⟩
  go_wp2_with fail
  refine (l92Level_c w.heap.size sv 0 W1 hs hr ⟨by omega, by omega⟩).mono ?_
  rintro e W2 ⟨v', p', ⟨k, rfl, hk⟩, rfl, -, -, -, -, m⟩
  have hB2 : Below w.heap.size w W2 := m.2.2.2 w hb (Nat.le_refl _)
  go_wp2_with fail
  go_ret
  exact ⟨k, rfl, hk, hB2⟩
theorem drawTileShape_c (v : Value) (w : World) (h : Code v w) : Calls Tryd.prog 29 #[v] w (OneLev w) := by
  go_enter Tryd.func29, Tryd.ntmps29
  go_wp2_with fail
  refine (l6Open_c v w h).mono ?_
  rintro e W1 ⟨sv, rfl, hr, hs, hz, hb⟩
  go_wp2_with fail
  refine (l92Level_c w.heap.size sv 0 W1 hs hr ⟨by omega, by omega⟩).mono ?_
  rintro e W2 ⟨v', p', ⟨k, rfl, hk⟩, rfl, -, -, -, -, m⟩
  have hB2 : Below w.heap.size w W2 := m.2.2.2 w hb (Nat.le_refl _)
  go_wp2_with fail
  go_ret
  exact ⟨k, rfl, hk, hB2⟩
theorem drawTileBox_c (v : Value) (w : World) (h : Code v w) : Calls Tryd.prog 34 #[v] w (OneLev w) := by
  go_enter Tryd.func34, Tryd.ntmps34
  go_wp2_with fail
  refine (l6Open_c v w h).mono ?_
  rintro e W1 ⟨sv, rfl, hr, hs, hz, hb⟩
  go_wp2_with fail
  refine (l92Level_c w.heap.size sv 0 W1 hs hr ⟨by omega, by omega⟩).mono ?_
  rintro e W2 ⟨v', p', ⟨k, rfl, hk⟩, rfl, -, -, -, -, m⟩
  have hB2 : Below w.heap.size w W2 := m.2.2.2 w hb (Nat.le_refl _)
  go_wp2_with fail
  go_ret
  exact ⟨k, rfl, hk, hB2⟩
/-- what a draw of a level and a Gauss leaves -/
def LevG (w : World) (e : Ending) (w' : World) : Prop :=
  ∃ k x y : Int, e = .returned (.tuple #[.int .i64 k, .agg #[.int .i64 x, .int .i64 y]]) ∧ (-8 ≤ k ∧ k ≤ 13) ∧ (-1000001 ≤ x ∧ x ≤ 1000001) ∧ (-1000001 ≤ y ∧ y ≤ 1000001) ∧ Below w.heap.size w w'
set_option maxHeartbeats 2000000 in
theorem drawTileSplit_c (v : Value) (w : World) (h : Code v w) : Calls Tryd.prog 18 #[v] w (LevG w) := by
  go_enter Tryd.func18, Tryd.ntmps18
  go_wp2_with fail
  generalize hW : World.alloc _ _ = W0
  have o0 : Own2 W0 w.heap.size 0 0 := by rw [← hW]; exact Own2.fresh w 0 0 _
  have hB : Below w.heap.size w W0 := by rw [← hW]; (first | ((repeat' with_reducible first | assumption | exact Below.refl _ _ | apply Blw.alloc | apply Blw.drew | apply Blw.drewN | (refine Blw.after ?_ (by assumption)) | (refine Blw.set ?_ (by first | (dsimp only; omega) | (simp; omega)) _)); done) | (repeat' (first | assumption | exact Below.refl _ _ | apply Blw.alloc | apply Blw.drew | apply Blw.drewN | (refine Blw.after ?_ (by assumption)) | (refine Blw.set ?_ (by first | (dsimp only; omega) | (simp; done) | (simp; omega)) _))))
  have h0 : Code v W0 := by rw [← hW]; exact h.keep ((Below.refl _ _).alloc (Nat.le_refl _) _)
  have z0 : w.heap.size < W0.heap.size := o0.lt
  clear hW
  go_wp2_with fail
  refine (l6Open_c v W0 h0).mono ?_
  rintro e W1 ⟨sv, rfl, hr, hs, hz, hb⟩
  have o1 := o0.below hb z0
  go_wp2_with fail
  refine (l92Level_c W0.heap.size sv 0 W1 hs hr ⟨by omega, by omega⟩).mono ?_
  rintro e W2 ⟨v', p2, ⟨k, rfl, hk⟩, rfl, g0, g1, h2, hs2, m⟩
  have o2 := o1.moved m (by omega)
  have hB2 : Below w.heap.size w W2 := m.2.2.2 w (Blw.after hB hb) (by omega)
  have z2 : w.heap.size < W2.heap.size := o2.lt
  clear o0 o1 hr hs hb m
  go_wp2_with fail
  refine (l91Gauss_c W0.heap.size sv p2 W2 hs2 h2 ⟨by omega, by omega⟩).mono ?_
  rintro e W3 ⟨v', p3, ⟨x, y, rfl, hx, hy⟩, rfl, -, -, -, -, m3⟩
  have o3 := o2.moved m3 (by omega)
  have hB3 : Below w.heap.size w W3 := m3.2.2.2 w hB2 (by omega)
  obtain ⟨d0, d1, e0, e1⟩ := o3
  clear o2 h2 hs2 m3
  go_wp2_with fail
  exact bodyPost_ret (v := .tuple #[.int .i64 k, .agg #[.int .i64 x, .int .i64 y]]) (by simp [results, Tryd.results18, go_sem, *]) rfl ⟨k, x, y, rfl, hk, hx, hy, by (first | ((repeat' with_reducible first | assumption | exact Below.refl _ _ | apply Blw.alloc | apply Blw.drew | apply Blw.drewN | (refine Blw.after ?_ (by assumption)) | (refine Blw.set ?_ (by first | (dsimp only; omega) | (simp; omega)) _)); done) | (repeat' (first | assumption | exact Below.refl _ _ | apply Blw.alloc | apply Blw.drew | apply Blw.drewN | (refine Blw.after ?_ (by assumption)) | (refine Blw.set ?_ (by first | (dsimp only; omega) | (simp; done) | (simp; omega)) _))))⟩
set_option maxHeartbeats 2000000 in
theorem drawTileHas_c (v : Value) (w : World) (h : Code v w) : Calls Tryd.prog 14 #[v] w (LevG w) := by
  go_enter Tryd.func14, Tryd.ntmps14
  go_wp2_with fail
  generalize hW : World.alloc _ _ = W0
  have o0 : Own2 W0 w.heap.size 0 0 := by rw [← hW]; exact Own2.fresh w 0 0 _
  have hB : Below w.heap.size w W0 := by rw [← hW]; (first | ((repeat' with_reducible first | assumption | exact Below.refl _ _ | apply Blw.alloc | apply Blw.drew | apply Blw.drewN | (refine Blw.after ?_ (by assumption)) | (refine Blw.set ?_ (by first | (dsimp only; omega) | (simp; omega)) _)); done) | (repeat' (first | assumption | exact Below.refl _ _ | apply Blw.alloc | apply Blw.drew | apply Blw.drewN | (refine Blw.after ?_ (by assumption)) | (refine Blw.set ?_ (by first | (dsimp only; omega) | (simp; done) | (simp; omega)) _))))
  have h0 : Code v W0 := by rw [← hW]; exact h.keep ((Below.refl _ _).alloc (Nat.le_refl _) _)
  have z0 : w.heap.size < W0.heap.size := o0.lt
  clear hW
  go_wp2_with fail
  refine (l6Open_c v W0 h0).mono ?_
  rintro e W1 ⟨sv, rfl, hr, hs, hz, hb⟩
  have o1 := o0.below hb z0
  go_wp2_with fail
  refine (l92Level_c W0.heap.size sv 0 W1 hs hr ⟨by omega, by omega⟩).mono ?_
  rintro e W2 ⟨v', p2, ⟨k, rfl, hk⟩, rfl, g0, g1, h2, hs2, m⟩
  have o2 := o1.moved m (by omega)
  have hB2 : Below w.heap.size w W2 := m.2.2.2 w (Blw.after hB hb) (by omega)
  have z2 : w.heap.size < W2.heap.size := o2.lt
  clear o0 o1 hr hs hb m
  go_wp2_with fail
  refine (pick_d W0.heap.size sv p2 2 W2 hs2 h2 ⟨by omega, by omega⟩ ⟨by omega, by omega⟩).mono ?_
  rintro e W3 ⟨v', p3, ⟨c, rfl, c0, c1⟩, rfl, g2, g3, h3, hs3, m3⟩
  have o3 := o2.moved m3 (by omega)
  have hB3 : Below w.heap.size w W3 := m3.2.2.2 w hB2 (by omega)
  have z3 : w.heap.size < W3.heap.size := o3.lt
  clear o2 h2 hs2 m3
  by_cases hc : c = 0
  · subst hc
    go_wp2_with fail
    refine (pick_d W0.heap.size sv p3 9 W3 hs3 h3 ⟨by omega, by omega⟩ ⟨by omega, by omega⟩).mono ?_
    rintro e W4 ⟨v', p4, ⟨x, rfl, x0, x1⟩, rfl, g4, g5, h4, hs4, m4⟩
    have o4 := o3.moved m4 (by omega)
    have hB4 : Below w.heap.size w W4 := m4.2.2.2 w hB3 (by omega)
    have z4 : w.heap.size < W4.heap.size := o4.lt
    clear o3 h3 hs3 m4
    go_wp2_with fail
    refine (pick_d W0.heap.size sv p4 9 W4 hs4 h4 ⟨by omega, by omega⟩ ⟨by omega, by omega⟩).mono ?_
    rintro e W5 ⟨v', p5, ⟨y, rfl, y0, y1⟩, rfl, -, -, -, -, m5⟩
    have o5 := o4.moved m5 (by omega)
    have hB5 : Below w.heap.size w W5 := m5.2.2.2 w hB4 (by omega)
    obtain ⟨d0, d1, e0, e1⟩ := o5
    clear o4 h4 hs4 m5
    go_wp2_with fail
    exact bodyPost_ret (v := .tuple #[.int .i64 k, .agg #[.int .i64 (x - 4), .int .i64 (y - 4)]]) (by simp [results, Tryd.results14, go_sem, *]) rfl ⟨k, x - 4, y - 4, rfl, hk, by omega, by omega, by (first | ((repeat' with_reducible first | assumption | exact Below.refl _ _ | apply Blw.alloc | apply Blw.drew | apply Blw.drewN | (refine Blw.after ?_ (by assumption)) | (refine Blw.set ?_ (by first | (dsimp only; omega) | (simp; omega)) _)); done) | (repeat' (first | assumption | exact Below.refl _ _ | apply Blw.alloc | apply Blw.drew | apply Blw.drewN | (refine Blw.after ?_ (by assumption)) | (refine Blw.set ?_ (by first | (dsimp only; omega) | (simp; done) | (simp; omega)) _))))⟩
  · go_wp2_with fail
    refine (l91Gauss_c W0.heap.size sv p3 W3 hs3 h3 ⟨by omega, by omega⟩).mono ?_
    rintro e W4 ⟨v', p4, ⟨x, y, rfl, hx, hy⟩, rfl, -, -, -, -, m4⟩
    have o4 := o3.moved m4 (by omega)
    have hB4 : Below w.heap.size w W4 := m4.2.2.2 w hB3 (by omega)
    obtain ⟨d0, d1, e0, e1⟩ := o4
    clear o3 h3 hs3 m4
    go_wp2_with fail
    exact bodyPost_ret (v := .tuple #[.int .i64 k, .agg #[.int .i64 x, .int .i64 y]]) (by simp [results, Tryd.results14, go_sem, *]) rfl ⟨k, x, y, rfl, hk, hx, hy, by (first | ((repeat' with_reducible first | assumption | exact Below.refl _ _ | apply Blw.alloc | apply Blw.drew | apply Blw.drewN | (refine Blw.after ?_ (by assumption)) | (refine Blw.set ?_ (by first | (dsimp only; omega) | (simp; omega)) _)); done) | (repeat' (first | assumption | exact Below.refl _ _ | apply Blw.alloc | apply Blw.drew | apply Blw.drewN | (refine Blw.after ?_ (by assumption)) | (refine Blw.set ?_ (by first | (dsimp only; omega) | (simp; done) | (simp; omega)) _))))⟩
end Go.Proofs.YtaleeoghifcadaaDoor

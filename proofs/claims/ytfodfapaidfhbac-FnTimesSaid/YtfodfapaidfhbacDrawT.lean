/- What the laws of chapter 1 draw: two Gauss. No law is stated here. -/
import Derived.Test.YtfodfapaidfhbacDrawB
import Derived.Test.YtfodfapaidfhbacGa
import Derived.StillTailTactics
import Derived.Deep.DeepCutAuto
import Derived.Deep.Cut
import Derived.RegionCalls
namespace Go.Proofs.Ytfodfapaidfhbac
set_option linter.unusedSimpArgs false
set_option linter.unusedVariables false
open Go.RowKit

/-- what a draw of two Gauss leaves -/
def TwoG (w : World) (e : Ending) (w' : World) : Prop :=
  ∃ x y x' y' : Int, e = .returned (.tuple #[.agg #[.int .i64 x, .int .i64 y], .agg #[.int .i64 x', .int .i64 y']]) ∧ (-1000001 ≤ x ∧ x ≤ 1000001) ∧ (-1000001 ≤ y ∧ y ≤ 1000001) ∧ (-1000001 ≤ x' ∧ x' ≤ 1000001) ∧ (-1000001 ≤ y' ∧ y' ≤ 1000001) ∧ Below w.heap.size w w'
/-- the blocks of two results, all nought -/
def Nil4 (b : Nat) (w : World) : Prop := b + 1 < w.heap.size ∧ (w.cell? ⟨b, 0, none⟩ = some (.int .i64 0) ∧ w.cell? ⟨b, 1, none⟩ = some (.int .i64 0) ∧ w.cell? ⟨b + 1, 0, none⟩ = some (.int .i64 0) ∧ w.cell? ⟨b + 1, 1, none⟩ = some (.int .i64 0)) ∧ w.frozen? ⟨b, 0, none⟩ = false ∧ w.frozen? ⟨b, 1, none⟩ = false ∧ w.frozen? ⟨b + 1, 0, none⟩ = false ∧ w.frozen? ⟨b + 1, 1, none⟩ = false
theorem Nil4.keep {b : Nat} {w w' : World} (h : Nil4 b w) (hb : Below w.heap.size w w') : Nil4 b w' := by
  obtain ⟨hl, ⟨c0, c1, c2, c3⟩, f0, f1, f2, f3⟩ := h
  have k := (bcell hb).2
  exact ⟨Nat.lt_of_lt_of_le hl hb.size, ⟨keepcell hb c0, keepcell hb c1, keepcell hb c2, keepcell hb c3⟩, (k _ _ (by omega)).trans f0, (k _ _ (by omega)).trans f1, (k _ _ (by omega)).trans f2, (k _ _ (by omega)).trans f3⟩
theorem Nil4.moved {b rb : Nat} {w w' : World} (h : Nil4 b w) (m : Moved rb w w') (h1 : b ≠ rb) (h2 : b + 1 ≠ rb) : Nil4 b w' := by
  obtain ⟨hl, ⟨c0, c1, c2, c3⟩, f0, f1, f2, f3⟩ := h
  exact ⟨Nat.lt_of_lt_of_le hl m.1, ⟨m.cell (by omega) h1 c0, m.cell (by omega) h1 c1, m.cell hl h2 c2, m.cell hl h2 c3⟩, m.froz (by omega) h1 f0, m.froz (by omega) h1 f1, m.froz hl h2 f2, m.froz hl h2 f3⟩
set_option maxHeartbeats 1000000 in
theorem l91Two_c (v : Value) (w : World) (h : Code v w) : Calls Try.prog 58 #[v] w (TwoG w) := by
  go_enter Try.func58, Try.ntmps58
  go_wp2_with fail
  generalize hW : World.alloc _ _ = W0
  have kW0_1 : W0.cell? ⟨w.heap.size, 0, none⟩ = some (.int .i64 (0)) := by rw [← hW]; clear hW; first | (go_simp; done) | ((repeat refine keepcell ((Below.refl _ _).alloc (Nat.le_refl _) _) ?_); go_simp; done) | (simp only [frozen?_alloc_cells]; go_simp; done)
  have zW0_1 : W0.frozen? ⟨w.heap.size, 0, none⟩ = false := by rw [← hW]; clear hW; first | (go_simp; done) | ((repeat refine keepcell ((Below.refl _ _).alloc (Nat.le_refl _) _) ?_); go_simp; done) | (simp only [frozen?_alloc_cells]; go_simp; done)
  have kW0_2 : W0.cell? ⟨w.heap.size, 1, none⟩ = some (.int .i64 (0)) := by rw [← hW]; clear hW; first | (go_simp; done) | ((repeat refine keepcell ((Below.refl _ _).alloc (Nat.le_refl _) _) ?_); go_simp; done) | (simp only [frozen?_alloc_cells]; go_simp; done)
  have zW0_2 : W0.frozen? ⟨w.heap.size, 1, none⟩ = false := by rw [← hW]; clear hW; first | (go_simp; done) | ((repeat refine keepcell ((Below.refl _ _).alloc (Nat.le_refl _) _) ?_); go_simp; done) | (simp only [frozen?_alloc_cells]; go_simp; done)
  have : w.heap.size < W0.heap.size := World.block_lt_of_cell? W0 ⟨w.heap.size, 0, none⟩ (by assumption)
  have kW0_3 : W0.cell? ⟨w.heap.size + 1, 0, none⟩ = some (.int .i64 (0)) := by rw [← hW]; clear hW; first | (go_simp; done) | ((repeat refine keepcell ((Below.refl _ _).alloc (Nat.le_refl _) _) ?_); go_simp; done) | (simp only [frozen?_alloc_cells]; go_simp; done)
  have zW0_3 : W0.frozen? ⟨w.heap.size + 1, 0, none⟩ = false := by rw [← hW]; clear hW; first | (go_simp; done) | ((repeat refine keepcell ((Below.refl _ _).alloc (Nat.le_refl _) _) ?_); go_simp; done) | (simp only [frozen?_alloc_cells]; go_simp; done)
  have kW0_4 : W0.cell? ⟨w.heap.size + 1, 1, none⟩ = some (.int .i64 (0)) := by rw [← hW]; clear hW; first | (go_simp; done) | ((repeat refine keepcell ((Below.refl _ _).alloc (Nat.le_refl _) _) ?_); go_simp; done) | (simp only [frozen?_alloc_cells]; go_simp; done)
  have zW0_4 : W0.frozen? ⟨w.heap.size + 1, 1, none⟩ = false := by rw [← hW]; clear hW; first | (go_simp; done) | ((repeat refine keepcell ((Below.refl _ _).alloc (Nat.le_refl _) _) ?_); go_simp; done) | (simp only [frozen?_alloc_cells]; go_simp; done)
  have : w.heap.size + 1 < W0.heap.size := World.block_lt_of_cell? W0 ⟨w.heap.size + 1, 0, none⟩ (by assumption)
  have hBW0 : Below w.heap.size w W0 := by rw [← hW]; (repeat' (first | assumption | exact Below.refl _ _ | apply Blw.alloc | apply Blw.drew | apply Blw.drewN | (refine Blw.after ?_ (by assumption)) | (refine Blw.set ?_ (by first | (dsimp only; omega) | (simp; done) | (simp; omega)) _)))
  have hsW0 := hBW0.size
  clear hW
  have h0 : Code v W0 := h.keep hBW0
  have N0 : Nil4 w.heap.size W0 := ⟨by assumption, ⟨by assumption, by assumption, by assumption, by assumption⟩, by assumption, by assumption, by assumption, by assumption⟩
  have HB := Lib.hid hBW0
  clear hBW0
  try clear kW0_1; try clear zW0_1; try clear kW0_2; try clear zW0_2; try clear kW0_3; try clear zW0_3; try clear kW0_4; try clear zW0_4
  refine (l6Open_c v W0 h0).mono ?_
  rintro e W1 ⟨sv, rfl, hr, hs, hz, hb⟩
  go_wp2_with fail
  refine (l91Gauss_c W0.heap.size sv 0 W1 hs hr ⟨by omega, by omega⟩).mono ?_
  rintro e W2 ⟨v', p1, ⟨x, y, rfl, hx, hy⟩, rfl, q0, q1, h1, hs1, m1⟩
  have l0 := N0.1
  have N2 := Lib.hid ((N0.keep hb).moved m1 (by omega) (by omega))
  have M1 := Lib.hid m1
  have H1 := Lib.hid h1
  have HS := Lib.hid hs1
  have HB1 := Lib.hid hb
  have z2 : W0.heap.size < W2.heap.size := by have := m1.1; omega
  clear m1 h1 hs1 hb N0 hr hs h0
  go_upto_region 3 with fail
  generalize hW : World.alloc _ _ = W3
  have hk := (Below.refl W2.heap.size W2).alloc (Nat.le_refl _) (.cells #[.int .i64 x, .int .i64 y] 24)
  have N3 := Lib.hid (show Nil4 w.heap.size W3 by rw [← hW]; exact N2.out.keep hk)
  have H3 := Lib.hid (show Rd W0.heap.size sv p1 W3 by rw [← hW]; exact H1.out.keep hk)
  have S3 := Lib.hid (show Src sv W0.heap.size W3 by rw [← hW]; exact HS.out.keep hk)
  have B3 := Lib.hid (show Moved W0.heap.size W1 W3 by rw [← hW]; exact M1.out.below hk)
  have c0 : W3.cell? ⟨W2.heap.size, 0, none⟩ = some (.int .i64 x) := by rw [← hW]; clear hW; go_simp
  have c1 : W3.cell? ⟨W2.heap.size, 1, none⟩ = some (.int .i64 y) := by rw [← hW]; clear hW; go_simp
  clear hW hk
  have hd : Below W3.heap.size W3 W3.drew := (Below.refl _ _).drew
  refine wp_region_any (by kernel_rfl) ?_
  change wpAny _ _ _ _ _ _ _ (World.drew _)
  generalize hW4 : W3.drew = W4 at *
  have N4 := Lib.hid (N3.out.keep hd)
  have H4 := Lib.hid (H3.out.keep hd)
  have S4 := Lib.hid (S3.out.keep hd)
  have B4 := Lib.hid (B3.out.below hd)
  have l3 : W2.heap.size < W3.heap.size := World.block_lt_of_cell? W3 _ c0
  have l4 : W2.heap.size < W4.heap.size := Nat.lt_of_lt_of_le l3 hd.size
  have d0 := keepcell hd c0
  have d1 := keepcell hd c1
  clear hW4 hd c0 c1
  refine wpAny_take (i := 1) (v := ?_) rfl (by kernel_rfl) (by kernel_rfl) (by kernel_rfl) (fun _ _ _ h => h) (Or.inl ⟨by rfl, ?_⟩) ?_
  case refine_1 => exact .pointer (some ⟨W0.heap.size, 0, none⟩)
  · intro w; go_simp
  refine wpAny_ready (rs := [0, 2]) (by kernel_rfl) (by simp) ?_
  refine AllReady.cons rfl (fun K hK => ?_) (AllReady.cons rfl (fun K hK => ?_) AllReady.nil)
  · go_simp
    refine hK _ _ ?_; clear hK K
    refine wpAny_ready (rs := [2]) (by kernel_rfl) (by simp) ?_
    refine AllReady.cons rfl (fun K hK => ?_) AllReady.nil
    go_wp2_with fail
    refine (l91Gauss_c W0.heap.size sv p1 W4 S4.out H4.out ⟨by omega, by omega⟩).mono ?_
    rintro e W5 ⟨v', p2, ⟨x', y', rfl, hx', hy'⟩, rfl, -, -, -, -, m⟩
    refine hK _ _ ?_; clear hK K
    have N5 := N4.out.moved m (by omega) (by omega)
    have B5 : Below w.heap.size w W5 := (B4.out.trans m).2.2.2 w (Blw.after HB.out HB1.out) (by omega)
    obtain ⟨l5, ⟨k0, k1, k2, k3⟩, f0, f1, f2, f3⟩ := N5
    have l6 : w.heap.size < W5.heap.size := by omega
    refine wpAny_ready (rs := [3]) (by kernel_rfl) (by simp) ?_
    refine AllReady.cons rfl (fun K hK => ?_) AllReady.nil
    go_simp
    refine hK _ _ ?_; clear hK K
    refine wpAny_ready (rs := [4]) (by kernel_rfl) (by simp) ?_
    refine AllReady.cons rfl (fun K hK => ?_) AllReady.nil
    go_simp
    refine hK _ _ ?_; clear hK K
    refine wpAny_done (by kernel_rfl) ?_ _
    go_wp2_with fail
    exact bodyPost_ret (v := .tuple #[.agg #[.int .i64 x, .int .i64 y], .agg #[.int .i64 x', .int .i64 y']]) (by simp [results, Try.results58, go_sem, *]) rfl ⟨x, y, x', y', rfl, hx, hy, hx', hy', by (repeat' (first | assumption | exact Below.refl _ _ | apply Blw.alloc | apply Blw.drew | apply Blw.drewN | (refine Blw.after ?_ (by assumption)) | (refine Blw.set ?_ (by first | (dsimp only; omega) | (simp; done) | (simp; omega)) _)))⟩
  · go_wp2_with fail
    refine (l91Gauss_c W0.heap.size sv p1 W4 S4.out H4.out ⟨by omega, by omega⟩).mono ?_
    rintro e W5 ⟨v', p2, ⟨x', y', rfl, hx', hy'⟩, rfl, -, -, -, -, m⟩
    refine hK _ _ ?_; clear hK K
    have N5 := N4.out.moved m (by omega) (by omega)
    have B5 : Below w.heap.size w W5 := (B4.out.trans m).2.2.2 w (Blw.after HB.out HB1.out) (by omega)
    obtain ⟨l5, ⟨k0, k1, k2, k3⟩, f0, f1, f2, f3⟩ := N5
    have l6 : w.heap.size < W5.heap.size := by omega
    have e0 := m.cell l4 (by omega) d0
    have e1 := m.cell l4 (by omega) d1
    refine wpAny_ready (rs := [0]) (by kernel_rfl) (by simp) ?_
    refine AllReady.cons rfl (fun K hK => ?_) AllReady.nil
    go_simp
    refine hK _ _ ?_; clear hK K
    refine wpAny_ready (rs := [3]) (by kernel_rfl) (by simp) ?_
    refine AllReady.cons rfl (fun K hK => ?_) AllReady.nil
    go_simp
    refine hK _ _ ?_; clear hK K
    refine wpAny_ready (rs := [4]) (by kernel_rfl) (by simp) ?_
    refine AllReady.cons rfl (fun K hK => ?_) AllReady.nil
    go_simp
    refine hK _ _ ?_; clear hK K
    refine wpAny_done (by kernel_rfl) ?_ _
    go_wp2_with fail
    exact bodyPost_ret (v := .tuple #[.agg #[.int .i64 x, .int .i64 y], .agg #[.int .i64 x', .int .i64 y']]) (by simp [results, Try.results58, go_sem, *]) rfl ⟨x, y, x', y', rfl, hx, hy, hx', hy', by (repeat' (first | assumption | exact Below.refl _ _ | apply Blw.alloc | apply Blw.drew | apply Blw.drewN | (refine Blw.after ?_ (by assumption)) | (refine Blw.set ?_ (by first | (dsimp only; omega) | (simp; done) | (simp; omega)) _)))⟩

end Go.Proofs.Ytfodfapaidfhbac

/- What the laws of chapter 1 draw: one Gauss. No law is stated here. -/
import Derived.Test.YtmcnioahnflgaaaDraw
namespace Go.Proofs.Ytmcnioahnflgaaa
set_option linter.unusedSimpArgs false
set_option linter.unusedVariables false
open Go.RowKit

/-- what a draw of one Gauss leaves -/
def One (w : World) (e : Ending) (w' : World) : Prop :=
  ∃ x y : Int, e = .returned (.agg #[.int .i64 x, .int .i64 y]) ∧ (-1000001 ≤ x ∧ x ≤ 1000001) ∧ (-1000001 ≤ y ∧ y ≤ 1000001) ∧ Below w.heap.size w w'

theorem drawSmall_c (v : Value) (w : World) (h : Code v w) : Calls Try.prog 13 #[v] w (One w) := by
  go_enter Try.func13, Try.ntmps13
  go_wp2_with fail
  generalize hW : World.alloc _ _ = W0
  have c0 : W0.cell? ⟨w.heap.size, 0, none⟩ = some (.int .i64 0) := by rw [← hW]; clear hW; go_simp
  have c1 : W0.cell? ⟨w.heap.size, 1, none⟩ = some (.int .i64 0) := by rw [← hW]; clear hW; go_simp
  have f0 : W0.frozen? ⟨w.heap.size, 0, none⟩ = false := by rw [← hW]; clear hW; go_simp
  have f1 : W0.frozen? ⟨w.heap.size, 1, none⟩ = false := by rw [← hW]; clear hW; go_simp
  have hB : Below w.heap.size w W0 := by rw [← hW]; (repeat' (first | assumption | exact Below.refl _ _ | apply Blw.alloc | apply Blw.drew | apply Blw.drewN | (refine Blw.after ?_ (by assumption)) | (refine Blw.set ?_ (by first | (dsimp only; omega) | (simp; done) | (simp; omega)) _)))
  have h0 : Code v W0 := by rw [← hW]; exact h.keep ((Below.refl _ _).alloc (Nat.le_refl _) _)
  have z0 : w.heap.size < W0.heap.size := World.block_lt_of_cell? W0 _ c0
  clear hW
  go_wp2_with fail
  refine (l6Open_c v W0 h0).mono ?_
  rintro e W1 ⟨sv, rfl, hr, hs, hz, hb⟩
  go_wp2_with fail
  refine (l91Gauss_c W0.heap.size sv 0 W1 hs hr ⟨by omega, by omega⟩).mono ?_
  rintro e W2 ⟨v', p', ⟨x, y, rfl, hx, hy⟩, rfl, -, -, -, -, m⟩
  have d0 := m.cell (by omega) (by omega) (keepcell hb c0)
  have d1 := m.cell (by omega) (by omega) (keepcell hb c1)
  have e0 := m.froz (by omega) (by omega) (((bcell hb).2 _ _ z0).trans f0)
  have e1 := m.froz (by omega) (by omega) (((bcell hb).2 _ _ z0).trans f1)
  have hB2 : Below w.heap.size w W2 := m.2.2.2 w (Blw.after hB hb) (by omega)
  go_wp2_with fail
  exact bodyPost_ret (v := .agg #[.int .i64 x, .int .i64 y]) (by simp [results, Try.results13, go_sem, *]) rfl ⟨x, y, rfl, hx, hy, by (repeat' (first | assumption | exact Below.refl _ _ | apply Blw.alloc | apply Blw.drew | apply Blw.drewN | (refine Blw.after ?_ (by assumption)) | (refine Blw.set ?_ (by first | (dsimp only; omega) | (simp; done) | (simp; omega)) _)))⟩
end Go.Proofs.Ytmcnioahnflgaaa

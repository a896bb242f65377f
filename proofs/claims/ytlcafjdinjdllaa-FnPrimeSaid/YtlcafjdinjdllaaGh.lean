/- Chapter 1: first turns, of both sides. -/
import Derived.Test.YtlcafjdinjdllaaGf
import Derived.Deep.LoopGhost
import Derived.Outline
namespace Go.Proofs.Ytlcafjdinjdllaa
set_option linter.unusedSimpArgs false
set_option linter.unusedVariables false
open Go.RowKit

/-- what holds at the loop's head: a turn of x, y stands in the box, at most k turns are to come -/
def FirstRel (w : World) (x y : Int) (k : Nat) (wr : World) : Prop :=
  ∃ a b, in6 a b ∧ firstX a b = firstX x y ∧ firstY a b = firstY x y ∧ turns a b ≤ k ∧ Below w.heap.size w wr ∧
    wr.cell? ⟨w.heap.size, 0, none⟩ = some (.int .i64 a) ∧ wr.cell? ⟨w.heap.size, 1, none⟩ = some (.int .i64 b) ∧ wr.frozen? ⟨w.heap.size, 0, none⟩ = false ∧ wr.frozen? ⟨w.heap.size, 1, none⟩ = false ∧
    wr.cell? ⟨w.heap.size + 1, 0, none⟩ = some (.int .i64 0) ∧ wr.cell? ⟨w.heap.size + 1, 1, none⟩ = some (.int .i64 0) ∧ wr.frozen? ⟨w.heap.size + 1, 0, none⟩ = false ∧ wr.frozen? ⟨w.heap.size + 1, 1, none⟩ = false

/-- the same, of a number that is not 0 -/
def FirstRel2 (w : World) (x y : Int) (k : Nat) (wr : World) : Prop :=
  ∃ a b, in6 a b ∧ ¬ (a = 0 ∧ b = 0) ∧ firstX a b = firstX x y ∧ firstY a b = firstY x y ∧ turns a b ≤ k ∧ Below w.heap.size w wr ∧
    wr.cell? ⟨w.heap.size, 0, none⟩ = some (.int .i64 a) ∧ wr.cell? ⟨w.heap.size, 1, none⟩ = some (.int .i64 b) ∧ wr.frozen? ⟨w.heap.size, 0, none⟩ = false ∧ wr.frozen? ⟨w.heap.size, 1, none⟩ = false ∧
    wr.cell? ⟨w.heap.size + 1, 0, none⟩ = some (.int .i64 0) ∧ wr.cell? ⟨w.heap.size + 1, 1, none⟩ = some (.int .i64 0) ∧ wr.frozen? ⟨w.heap.size + 1, 0, none⟩ = false ∧ wr.frozen? ⟨w.heap.size + 1, 1, none⟩ = false

set_option maxHeartbeats 1000000 in
theorem l1First_c (x y : Int) (w : World) (h : in6 x y) : Calls Try.prog 34 #[pr x y] w fun e w' => e = .returned (pr (firstX x y) (firstY x y)) ∧ Below w.heap.size w w' := by
  have H := Lib.hid h
  clear h
  go_enter Try.func34, Try.ntmps34
  go_wp2_with fail
  go_loopg [] 3 (fun k wr => FirstRel w x y k wr)
  case atStart => exact ⟨x, y, H.out, rfl, rfl, turns_le _ _, by (repeat' (first | assumption | exact Below.refl _ _ | apply Blw.alloc | apply Blw.drew | apply Blw.drewN | (refine Blw.after ?_ (by assumption)) | (refine Blw.set ?_ (by first | (dsimp only; omega) | (simp; done) | (simp; omega)) _))), by go_simp, by go_simp, by go_simp, by go_simp, by go_simp, by go_simp, by go_simp, by go_simp⟩
  case round =>
    obtain ⟨a, b, hab, h1, h2, h3, hBw, c0, c1, f0, f1, d0, d1, g0, g1⟩ := hrel
    have A1 := Lib.hid h1
    have A2 := Lib.hid h2
    have A3 := Lib.hid h3
    clear h1 h2 h3
    by_cases hz : a = 0 ∧ b = 0
    · obtain ⟨rfl, rfl⟩ := hz
      go_wp2
      exact bodyPost_ret (v := pr 0 0) (by simp [results, Try.results34, go_sem, *]) rfl ⟨by rw [← A1.out, ← A2.out, first_zero.1, first_zero.2], by (repeat' (first | assumption | exact Below.refl _ _ | apply Blw.alloc | apply Blw.drew | apply Blw.drewN | (refine Blw.after ?_ (by assumption)) | (refine Blw.set ?_ (by first | (dsimp only; omega) | (simp; done) | (simp; omega)) _)))⟩
    · by_cases hs : 0 < a ∧ 0 ≤ b
      · have A4 := Lib.hid (first_stop hs)
        obtain ⟨s1, s2⟩ := hs
        clear hz
        go_wp2
        exact bodyPost_ret (v := pr a b) (by simp [results, Try.results34, go_sem, *]) rfl ⟨by rw [← A1.out, ← A2.out, A4.out.1, A4.out.2], by (repeat' (first | assumption | exact Below.refl _ _ | apply Blw.alloc | apply Blw.drew | apply Blw.drewN | (refine Blw.after ?_ (by assumption)) | (refine Blw.set ?_ (by first | (dsimp only; omega) | (simp; done) | (simp; omega)) _)))⟩
      · have A4 := Lib.hid (first_turn hs hz)
        obtain ⟨k', hk1, hk2⟩ : ∃ k', turns (-b) a ≤ k' ∧ k' < gk := ⟨_, Nat.le_refl _, Nat.lt_of_lt_of_le A4.out.2.2 A3.out⟩
        have hn := neg_in6 hab
        have A5 := Lib.hid hk1
        have A6 := Lib.hid hk2
        clear hk1 hk2
        obtain ⟨i1, i2, i3, i4⟩ := hab
        have T1 : a < 0 ∨ (a = 0 ∧ ¬ b = 0) ∨ (0 < a ∧ b < 0) := by omega
        clear hs hz
        rcases T1 with T1 | ⟨rfl, T1⟩ | ⟨T1, T2⟩
        all_goals
          go_wp2
          go_roundg k'
          case measure => exact A6.out
          case rel => exact ⟨_, _, hn, A4.out.1.trans A1.out, A4.out.2.1.trans A2.out, A5.out, by (repeat' (first | assumption | exact Below.refl _ _ | apply Blw.alloc | apply Blw.drew | apply Blw.drewN | (refine Blw.after ?_ (by assumption)) | (refine Blw.set ?_ (by first | (dsimp only; omega) | (simp; done) | (simp; omega)) _))), by go_simp, by go_simp, by go_simp, by go_simp, by go_simp, by go_simp, by go_simp, by go_simp⟩

theorem timesI_c (a b : Int) (w : World) (h : in9 a b) : Calls Try.prog 48 #[pr a b, pr 0 1] w fun e w' => e = .returned (pr (-b) a) ∧ Below w.heap.size w w' :=
  (times_c a b 0 1 w h (by unfold in9; omega)).mono fun e w' ⟨he, hw⟩ => ⟨by rw [he]; simp, hw⟩

set_option maxHeartbeats 1000000 in
theorem first_c (x y : Int) (w : World) (h : in6 x y) : Calls Try.prog 30 #[pr x y] w fun e w' => e = .returned (pr (firstX x y) (firstY x y)) ∧ Below w.heap.size w w' := by
  by_cases hz : x = 0 ∧ y = 0
  · obtain ⟨rfl, rfl⟩ := hz
    go_enter Try.func30, Try.ntmps30
    go_wp2
    exact bodyPost_ret (v := pr 0 0) (by simp [results, Try.results30, go_sem, *]) rfl ⟨by rw [first_zero.1, first_zero.2], by (repeat' (first | assumption | exact Below.refl _ _ | apply Blw.alloc | apply Blw.drew | apply Blw.drewN | (refine Blw.after ?_ (by assumption)) | (refine Blw.set ?_ (by first | (dsimp only; omega) | (simp; done) | (simp; omega)) _)))⟩
  · have H := Lib.hid h
    have hz2 : (x = 0 ∧ ¬ y = 0) ∨ ¬ x = 0 := by omega
    clear h hz
    rcases hz2 with ⟨rfl, hz2⟩ | hz2
    all_goals
      go_enter Try.func30, Try.ntmps30
      go_wp2_with fail
      go_loopg [] 3 (fun k wr => FirstRel2 w _ y k wr)
      case atStart => exact ⟨_, y, H.out, by omega, rfl, rfl, turns_le _ _, by (repeat' (first | assumption | exact Below.refl _ _ | apply Blw.alloc | apply Blw.drew | apply Blw.drewN | (refine Blw.after ?_ (by assumption)) | (refine Blw.set ?_ (by first | (dsimp only; omega) | (simp; done) | (simp; omega)) _))), by go_simp, by go_simp, by go_simp, by go_simp, by go_simp, by go_simp, by go_simp, by go_simp⟩
      case round =>
        obtain ⟨a, b, hab, hz, h1, h2, h3, hBw, c0, c1, f0, f1, d0, d1, g0, g1⟩ := hrel
        have A1 := Lib.hid h1
        have A2 := Lib.hid h2
        have A3 := Lib.hid h3
        clear h1 h2 h3
        by_cases hs : 0 < a ∧ 0 ≤ b
        · have A4 := Lib.hid (first_stop hs)
          obtain ⟨s1, s2⟩ := hs
          clear hz
          go_wp2
          exact bodyPost_ret (v := pr a b) (by simp [results, Try.results30, go_sem, *]) rfl ⟨by rw [← A1.out, ← A2.out, A4.out.1, A4.out.2], by (repeat' (first | assumption | exact Below.refl _ _ | apply Blw.alloc | apply Blw.drew | apply Blw.drewN | (refine Blw.after ?_ (by assumption)) | (refine Blw.set ?_ (by first | (dsimp only; omega) | (simp; done) | (simp; omega)) _)))⟩
        · have A4 := Lib.hid (first_turn hs hz)
          obtain ⟨k', hk1, hk2⟩ : ∃ k', turns (-b) a ≤ k' ∧ k' < gk := ⟨_, Nat.le_refl _, Nat.lt_of_lt_of_le A4.out.2.2 A3.out⟩
          have hn := neg_in6 hab
          have hnz : ¬ (-b = 0 ∧ a = 0) := by omega
          have A5 := Lib.hid hk1
          have A6 := Lib.hid hk2
          have A7 := Lib.hid hnz
          have A8 := Lib.hid hab
          clear hk1 hk2 hnz
          obtain ⟨i1, i2, i3, i4⟩ := hab
          have T1 : a ≤ 0 ∨ (0 < a ∧ b < 0) := by omega
          have L0 : w.heap.size < wr.heap.size := World.block_lt_of_cell? wr _ c0
          have L1 : w.heap.size + 1 < wr.heap.size := World.block_lt_of_cell? wr _ d0
          clear hs hz
          rcases T1 with T1 | ⟨T1, T2⟩
          all_goals
            go_wp2_with (go_at_call 48; refine (timesI_c _ _ _ (small9 A8.out)).mono ?_; rintro e w1 ⟨rfl, hb⟩; have hk : Hld wr w1 := heldM (by (repeat' (first | assumption | exact Below.refl _ _ | apply Blw.alloc | apply Blw.drew | apply Blw.drewN | (refine Blw.after ?_ (by assumption)) | (refine Blw.set ?_ (by first | (dsimp only; omega) | (simp; done) | (simp; omega)) _)))); have hk1 := hk.1)
            go_roundg k'
            case measure => exact A6.out
            case rel => exact ⟨_, _, hn, A7.out, A4.out.1.trans A1.out, A4.out.2.1.trans A2.out, A5.out, by (repeat' (first | assumption | exact Below.refl _ _ | apply Blw.alloc | apply Blw.drew | apply Blw.drewN | (refine Blw.after ?_ (by assumption)) | (refine Blw.set ?_ (by first | (dsimp only; omega) | (simp; done) | (simp; omega)) _))), by go_simp, by go_simp, by go_simp, by go_simp, by go_simp, by go_simp, by go_simp, by go_simp⟩
end Go.Proofs.Ytlcafjdinjdllaa

/- What the laws of chapter 5 draw: a path, often. No law is stated here. -/
import Derived.Test.YtljmmmkehieboaaDrawL
namespace Go.Proofs.Ytljmmmkehieboaa
set_option linter.unusedSimpArgs false
set_option linter.unusedVariables false
open Go.RowKit Ieee

/-- what a draw of a list of points leaves -/
def PathOf (w : World) (e : Ending) (w' : World) : Prop :=
  ∃ (v : Value) (L : List SZ), e = .returned v ∧ w'.ownsRow w.heap.size 31 1 v L.length (L.map encZ) ∧ L.length ≤ 70 ∧ (∀ q ∈ L, Bq 200 q) ∧ Below w.heap.size w w'
theorem pathOf_of {w W1 : World} {sv : Value} {e : Ending} {w' : World} (hb : Below w.heap.size w W1) (h : PathDr w.heap.size sv 0 W1 e w') : PathOf w e w' := by
  obtain ⟨v, L, p', rfl, ho, hl, hq, -, -, -, -, hm⟩ := h
  exact ⟨v, L, rfl, ownsRow_low hb.size ho, hl, hq, hm.2.2.2 w hb (Nat.le_refl _)⟩
theorem drawCurvePath_c (v : Value) (w : World) (h : Code v w) : Calls Try.prog 17 #[v] w (PathOf w) := by
  go_enter Try.func17, Try.ntmps17
  go_wp2_with fail
  refine (l6Open_c v w h).mono ?_
  rintro e W1 ⟨sv, rfl, hr, hs, hz, hb⟩
  go_wp2_with fail
  refine (l92Path_c w.heap.size sv 0 W1 hs hr ⟨by omega, by omega⟩).mono ?_
  intro e W2 hp
  obtain ⟨v', L, rfl, h1, h2, h3, h4⟩ := pathOf_of hb hp
  go_wp2_with fail
  go_ret
  exact ⟨v', L, rfl, h1, h2, h3, h4⟩
theorem drawCurveBox_c (v : Value) (w : World) (h : Code v w) : Calls Try.prog 27 #[v] w (PathOf w) := by
  go_enter Try.func27, Try.ntmps27
  go_wp2_with fail
  refine (l6Open_c v w h).mono ?_
  rintro e W1 ⟨sv, rfl, hr, hs, hz, hb⟩
  go_wp2_with fail
  refine (l92Path_c w.heap.size sv 0 W1 hs hr ⟨by omega, by omega⟩).mono ?_
  intro e W2 hp
  obtain ⟨v', L, rfl, h1, h2, h3, h4⟩ := pathOf_of hb hp
  go_wp2_with fail
  go_ret
  exact ⟨v', L, rfl, h1, h2, h3, h4⟩
theorem drawCurveCorners_c (v : Value) (w : World) (h : Code v w) : Calls Try.prog 24 #[v] w (PathOf w) := by
  go_enter Try.func24, Try.ntmps24
  go_wp2_with fail
  refine (l6Open_c v w h).mono ?_
  rintro e W1 ⟨sv, rfl, hr, hs, hz, hb⟩
  go_wp2_with fail
  refine (l92Path_c w.heap.size sv 0 W1 hs hr ⟨by omega, by omega⟩).mono ?_
  intro e W2 hp
  obtain ⟨v', L, rfl, h1, h2, h3, h4⟩ := pathOf_of hb hp
  go_wp2_with fail
  go_ret
  exact ⟨v', L, rfl, h1, h2, h3, h4⟩
theorem drawCurveOnce_c (v : Value) (w : World) (h : Code v w) : Calls Try.prog 21 #[v] w (PathOf w) := by
  go_enter Try.func21, Try.ntmps21
  go_wp2_with fail
  refine (l6Open_c v w h).mono ?_
  rintro e W1 ⟨sv, rfl, hr, hs, hz, hb⟩
  go_wp2_with fail
  refine (l92Path_c w.heap.size sv 0 W1 hs hr ⟨by omega, by omega⟩).mono ?_
  intro e W2 hp
  obtain ⟨v', L, rfl, h1, h2, h3, h4⟩ := pathOf_of hb hp
  go_wp2_with fail
  go_ret
  exact ⟨v', L, rfl, h1, h2, h3, h4⟩
theorem drawCurveTwice_c (v : Value) (w : World) (h : Code v w) : Calls Try.prog 34 #[v] w (PathOf w) := by
  go_enter Try.func34, Try.ntmps34
  go_wp2_with fail
  refine (l6Open_c v w h).mono ?_
  rintro e W1 ⟨sv, rfl, hr, hs, hz, hb⟩
  go_wp2_with fail
  refine (l92Path_c w.heap.size sv 0 W1 hs hr ⟨by omega, by omega⟩).mono ?_
  intro e W2 hp
  obtain ⟨v', L, rfl, h1, h2, h3, h4⟩ := pathOf_of hb hp
  go_wp2_with fail
  go_ret
  exact ⟨v', L, rfl, h1, h2, h3, h4⟩
theorem drawCurveWord_c (v : Value) (w : World) (h : Code v w) : Calls Try.prog 19 #[v] w (PathOf w) := by
  go_enter Try.func19, Try.ntmps19
  go_wp2_with fail
  refine (l6Open_c v w h).mono ?_
  rintro e W1 ⟨sv, rfl, hr, hs, hz, hb⟩
  go_wp2_with fail
  refine (l92Path_c w.heap.size sv 0 W1 hs hr ⟨by omega, by omega⟩).mono ?_
  intro e W2 hp
  obtain ⟨v', L, rfl, h1, h2, h3, h4⟩ := pathOf_of hb hp
  go_wp2_with fail
  go_ret
  exact ⟨v', L, rfl, h1, h2, h3, h4⟩
end Go.Proofs.Ytljmmmkehieboaa

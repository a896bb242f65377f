/- What the laws of sums and products draw: two texts. No law is stated here. -/
import Derived.Test.YtlcafjdinjdllaaDoorDrawD
namespace Go.Proofs.YtlcafjdinjdllaaDoor
set_option linter.unusedSimpArgs false
set_option linter.unusedVariables false
open Go.RowKit

/-- what a draw of two texts leaves -/
def TwoTxt (w : World) (e : Ending) (w' : World) : Prop := ∃ t u : ByteArray, e = .returned (.tuple #[.string t, .string u]) ∧ t.size ≤ 400 ∧ u.size ≤ 400 ∧ Below w.heap.size w w'
set_option maxHeartbeats 1000000 in
theorem l91Pair_c (v : Value) (w : World) (h : Code v w) : Calls Tryd.prog 56 #[v] w (TwoTxt w) := by
  go_enter Tryd.func56, Tryd.ntmps56
  go_wp2_with fail
  refine (l6Open_c v w h).mono ?_
  rintro e W1 ⟨sv, rfl, hr, hs, hz, hb⟩
  go_wp2_with fail
  refine (pick_d w.heap.size sv 0 12 W1 hs hr ⟨by omega, by omega⟩ ⟨by omega, by omega⟩).mono ?_
  rintro e W2 ⟨v, p1, ⟨k, rfl, k0, k1⟩, rfl, q0, q1, h1, hs1, m1⟩
  have hk : k / 11 = 0 ∨ k / 11 = 1 := by omega
  rcases hk with hk | hk
  all_goals
    go_wp2_with fail
    refine (l91Digits_c w.heap.size sv p1 _ W2 hs1 h1 ⟨by omega, by omega⟩ ⟨by omega, by omega⟩).mono ?_
    rintro e W3 ⟨v', p2, ⟨t, rfl, ht⟩, rfl, r0, r1, h2, hs2, m2⟩
    go_wp2_with fail
    refine (l91Digits_c w.heap.size sv p2 12 W3 hs2 h2 ⟨by omega, by omega⟩ ⟨by omega, by omega⟩).mono ?_
    rintro e W4 ⟨v', p3, ⟨u, rfl, hu⟩, rfl, -, -, -, -, m3⟩
    have hB4 : Below w.heap.size w W4 := ((m1.trans m2).trans m3).2.2.2 w hb (Nat.le_refl _)
    go_wp2_with fail
    go_ret2
    exact ⟨t, u, rfl, ht, hu, hB4⟩
theorem drawDigitsAdd_c (v : Value) (w : World) (h : Code v w) : Calls Tryd.prog 22 #[v] w (TwoTxt w) := by
  go_enter Tryd.func22, Tryd.ntmps22
  go_wp2_with fail
  refine (l91Pair_c v w h).mono ?_
  rintro e W1 ⟨t, u, rfl, ht, hu, hb⟩
  go_wp2_with fail
  go_ret2
  exact ⟨t, u, rfl, ht, hu, hb⟩
theorem drawDigitsTimes_c (v : Value) (w : World) (h : Code v w) : Calls Tryd.prog 31 #[v] w (TwoTxt w) := by
  go_enter Tryd.func31, Tryd.ntmps31
  go_wp2_with fail
  refine (l91Pair_c v w h).mono ?_
  rintro e W1 ⟨t, u, rfl, ht, hu, hb⟩
  go_wp2_with fail
  go_ret2
  exact ⟨t, u, rfl, ht, hu, hb⟩
theorem drawDigitsCarries_c (v : Value) (w : World) (h : Code v w) : Calls Tryd.prog 24 #[v] w (TwoTxt w) := by
  go_enter Tryd.func24, Tryd.ntmps24
  go_wp2_with fail
  refine (l91Pair_c v w h).mono ?_
  rintro e W1 ⟨t, u, rfl, ht, hu, hb⟩
  go_wp2_with fail
  go_ret2
  exact ⟨t, u, rfl, ht, hu, hb⟩
theorem drawDigitsNegate_c (v : Value) (w : World) (h : Code v w) : Calls Tryd.prog 28 #[v] w (OneText w) := by
  go_enter Tryd.func28, Tryd.ntmps28
  go_wp2_with fail
  refine (l6Open_c v w h).mono ?_
  rintro e W1 ⟨sv, rfl, hr, hs, hz, hb⟩
  go_wp2_with fail
  refine (l91Digits_c w.heap.size sv 0 14 W1 hs hr ⟨by omega, by omega⟩ ⟨by omega, by omega⟩).mono ?_
  rintro e W2 ⟨v', p', ⟨t, rfl, ht⟩, rfl, -, -, -, -, m⟩
  have hB2 : Below w.heap.size w W2 := m.2.2.2 w hb (Nat.le_refl _)
  go_wp2_with fail
  go_ret
  exact ⟨t, rfl, ht, hB2⟩
theorem drawDigitsValid_c (v : Value) (w : World) (h : Code v w) : Calls Tryd.prog 11 #[v] w (OneText w) := by
  go_enter Tryd.func11, Tryd.ntmps11
  go_wp2_with fail
  refine (l6Open_c v w h).mono ?_
  rintro e W1 ⟨sv, rfl, hr, hs, hz, hb⟩
  go_wp2_with fail
  refine (l91Digits_c w.heap.size sv 0 12 W1 hs hr ⟨by omega, by omega⟩ ⟨by omega, by omega⟩).mono ?_
  rintro e W2 ⟨v', p', ⟨t, rfl, ht⟩, rfl, -, -, -, -, m⟩
  have hB2 : Below w.heap.size w W2 := m.2.2.2 w hb (Nat.le_refl _)
  go_wp2_with fail
  go_ret
  exact ⟨t, rfl, ht, hB2⟩
end Go.Proofs.YtlcafjdinjdllaaDoor

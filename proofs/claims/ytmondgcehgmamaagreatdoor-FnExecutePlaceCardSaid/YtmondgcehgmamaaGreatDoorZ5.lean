/- Merged texts: DrawP. No law is stated here. -/
import Derived.Test.YtmondgcehgmamaaGreatDoorZ4
namespace Go.Proofs.YtmondgcehgmamaaGreatDoor
set_option linter.unusedSimpArgs false
set_option linter.unusedVariables false
open Go.RowKit

/-- what a draw of one number leaves -/
def OneInt (w : World) (e : Ending) (w' : World) : Prop := ∃ k : Int, e = .returned (.int .i64 k) ∧ (-1 ≤ k ∧ k ≤ 321) ∧ Below w.heap.size w w'
set_option maxHeartbeats 2000000 in
theorem l91Power_c (v : Value) (w : World) (h : Code v w) : Calls Tryz.prog 43 #[v] w (OneInt w) := by
  go_enter Tryz.func43, Tryz.ntmps43
  go_wp2_with fail
  refine (l6Open_c v w h).mono ?_
  rintro e W1 ⟨sv, rfl, hr, hs, hz, hb⟩
  go_wp2_with fail
  refine (pick_d w.heap.size sv 0 4 W1 hs hr ⟨by omega, by omega⟩ ⟨by omega, by omega⟩).mono ?_
  rintro e W2 ⟨v', p1, ⟨c, rfl, c0, c1⟩, rfl, s0, s1, h2, hs2, m2⟩
  have H2 := Lib.hid h2
  have HS := Lib.hid hs2
  have M2 := Lib.hid m2
  have HB := Lib.hid hb
  clear h2 hs2 m2 hb hr hs
  by_cases e0 : c = 0
  · subst e0
    go_wp2_with fail
    refine (pick_d w.heap.size sv p1 65 W2 HS.out H2.out ⟨by omega, by omega⟩ ⟨by omega, by omega⟩).mono ?_
    rintro e W3 ⟨v', p2, ⟨k, rfl, k0, k1⟩, rfl, -, -, -, -, m3⟩
    have HB3 := Lib.hid ((M2.out.trans m3).2.2.2 w HB.out (Nat.le_refl _))
    clear m3
    go_wp2_with fail
    go_ret
    exact ⟨245 + k, rfl, by omega, HB3.out⟩
  by_cases e1 : c = 1
  · subst e1
    go_wp2_with fail
    have hk := (Below.refl W2.heap.size W2).alloc (Nat.le_refl _) (.cells #[.int .i64 (-1), .int .i64 321, .int .i64 320, .int .i64 0] 3)
    have m0 := (Moved.refl w.heap.size W2).below hk
    have hlt : w.heap.size < W2.heap.size := by
      have := (M2.out).1
      omega
    have z0 : W2.heap.size ≠ w.heap.size := by omega
    refine (pick_d w.heap.size sv p1 4 _ (HS.out.moved m0) (H2.out.keep hk) ⟨by omega, by omega⟩ ⟨by omega, by omega⟩).mono ?_
    rintro e W3 ⟨v', p2, ⟨k, rfl, k0, k1⟩, rfl, -, -, -, -, m3⟩
    have HB3 := Lib.hid ((M2.out.trans (m0.trans m3)).2.2.2 w HB.out (Nat.le_refl _))
    have hsz : W2.heap.size < (W2.alloc (.cells #[.int .i64 (-1), .int .i64 321, .int .i64 320, .int .i64 0] 3)).heap.size := by go_simp
    have q0 := m3.cell (b := W2.heap.size) (o := 0) (v := .int .i64 (-1)) hsz z0 (by go_simp)
    have q1 := m3.cell (b := W2.heap.size) (o := 1) (v := .int .i64 321) hsz z0 (by go_simp)
    have q2 := m3.cell (b := W2.heap.size) (o := 2) (v := .int .i64 320) hsz z0 (by go_simp)
    have q3 := m3.cell (b := W2.heap.size) (o := 3) (v := .int .i64 0) hsz z0 (by go_simp)
    clear m3 m0 hk hsz
    obtain rfl | rfl | rfl | rfl : k = 0 ∨ k = 1 ∨ k = 2 ∨ k = 3 := by omega
    all_goals
      go_wp2_with fail
      go_ret
      exact ⟨_, rfl, by omega, HB3.out⟩
  · go_wp2_with fail
    refine (pick_d w.heap.size sv p1 250 W2 HS.out H2.out ⟨by omega, by omega⟩ ⟨by omega, by omega⟩).mono ?_
    rintro e W3 ⟨v', p2, ⟨k, rfl, k0, k1⟩, rfl, -, -, -, -, m3⟩
    have HB3 := Lib.hid ((M2.out.trans m3).2.2.2 w HB.out (Nat.le_refl _))
    clear m3
    go_wp2_with fail
    go_ret
    exact ⟨k, rfl, by omega, HB3.out⟩
theorem drawPowerS_c (v : Value) (w : World) (h : Code v w) : Calls Tryz.prog 19 #[v] w (OneInt w) := by
  go_enter Tryz.func19, Tryz.ntmps19
  go_wp2_with fail
  refine (l91Power_c v w h).mono ?_
  rintro e W1 ⟨k, rfl, hk, hb⟩
  have HB := Lib.hid hb
  clear hb
  go_wp2_with fail
  go_ret
  exact ⟨k, rfl, hk, HB.out⟩
end Go.Proofs.YtmondgcehgmamaaGreatDoor

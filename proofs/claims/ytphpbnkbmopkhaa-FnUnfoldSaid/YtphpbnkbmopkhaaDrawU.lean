/- What FnUnfold draws: a word and a letter, seldom a long one. No law is stated here. -/
import Derived.Test.YtphpbnkbmopkhaaDrawW
namespace Go.Proofs.Ytphpbnkbmopkhaa
set_option linter.unusedSimpArgs false
set_option linter.unusedVariables false
open Go.RowKit

def ManyRelW (w : World) (m : Nat) (nv ov sv : Value) (wr : World) : Prop :=
  ∃ (o s : ByteArray), nv = .int .i64 (m : Nat) ∧ ov = .string o ∧ sv = .string s ∧ m ≤ 1000 ∧ s.size ≤ 4000 ∧ o.size + s.size * m ≤ 1000 ∧ wr = w
set_option maxHeartbeats 2000000 in
theorem manyW_c (n : Nat) (w : World) (hn : n ≤ 1000) : Calls Try.prog 25 #[.string ⟨#[108]⟩, .int .i64 n] w fun e w' => ∃ t : ByteArray, e = .returned (.string t) ∧ t.size ≤ 1000 ∧ w = w' := by
  have S0 := Lib.hid (show ManyRelW w n (.int .i64 n) (.string ⟨#[]⟩) (.string ⟨#[108]⟩) w from ⟨_, _, rfl, rfl, rfl, hn, by decide, by show 0 + 1 * n ≤ 1000; omega, rfl⟩)
  go_enter Try.func25, Try.ntmps25
  go_wp2_with fail
  go_loopg [1, 5, 0] n (fun m nv ov sv wr => ManyRelW w m nv ov sv wr)
  case atStart => exact S0.out
  case round =>
    clear S0
    obtain ⟨o, s, rfl, rfl, rfl, h60, hs, hos, rfl⟩ := hrel
    by_cases h0 : 0 < gk
    · have hd : ((gk : Int).tdiv 2) = ((gk / 2 : Nat) : Int) := by rw [Int.tdiv_eq_ediv_of_nonneg (by omega)]; omega
      have hss : (s ++ s).size ≤ 2000 := by
        have := Nat.mul_le_mul_left s.size h0
        rw [ByteArray.size_append]; omega
      rcases Nat.mod_two_eq_zero_or_one gk with h2 | h2
      · have a1 : ((gk : Int).tmod 2 == 1) = false := by rw [Int.tmod_eq_emod_of_nonneg (by omega)]; simp; omega
        have HI := Lib.hid (show o.size + (s ++ s).size * (gk / 2) ≤ 1000 by
          have e : s.size * gk = s.size * (2 * (gk / 2)) := by congr 1; omega
          rw [ByteArray.size_append]; rw [e] at hos
          have e2 : (s.size + s.size) * (gk / 2) = s.size * (2 * (gk / 2)) := by rw [← Nat.two_mul, Nat.mul_comm 2 s.size, Nat.mul_assoc]
          omega)
        go_wp2_with fail
        go_roundg (gk / 2)
        case measure => omega
        case rel => exact ⟨o, s ++ s, by go_num, rfl, rfl, by omega, by omega, HI.out, rfl⟩
      · have a1 : ((gk : Int).tmod 2 == 1) = true := by rw [Int.tmod_eq_emod_of_nonneg (by omega)]; simp; omega
        have hop : (o ++ s).size ≤ 4000 := by
          have := Nat.mul_le_mul_left s.size h0
          rw [ByteArray.size_append]; omega
        have HI := Lib.hid (show (o ++ s).size + (s ++ s).size * (gk / 2) ≤ 1000 by
          have e : s.size * gk = s.size * (2 * (gk / 2) + 1) := by congr 1; omega
          rw [ByteArray.size_append, ByteArray.size_append]; rw [e, Nat.mul_add] at hos
          have e2 : (s.size + s.size) * (gk / 2) = s.size * (2 * (gk / 2)) := by rw [← Nat.two_mul, Nat.mul_comm 2 s.size, Nat.mul_assoc]
          omega)
        go_wp2_with fail
        go_roundg (gk / 2)
        case measure => omega
        case rel => exact ⟨o ++ s, s ++ s, by go_num, rfl, rfl, by omega, by omega, HI.out, rfl⟩
    · obtain rfl : gk = 0 := by omega
      have ho : o.size ≤ 1000 := by omega
      go_wp2_with fail
      go_ret
      exact ⟨o, rfl, ho, rfl⟩
/-- what a draw of two texts leaves -/
def TwoText (w : World) (e : Ending) (w' : World) : Prop := ∃ t u : ByteArray, e = .returned (.tuple #[.string t, .string u]) ∧ t.size ≤ 1100 ∧ u.size ≤ 1100 ∧ Below w.heap.size w w'
set_option maxHeartbeats 4000000 in
theorem drawTurnUnfold_c (v : Value) (w : World) (h : Code v w) : Calls Try.prog 13 #[v] w (TwoText w) := by
  go_enter Try.func13, Try.ntmps13
  go_wp2_with fail
  refine (l6Open_c v w h).mono ?_
  rintro e W1 ⟨sv, rfl, hr, hs, hz, hb⟩
  go_wp2_with fail
  refine (l92Word_c w.heap.size sv 0 10 W1 hs hr ⟨by omega, by omega⟩ ⟨by omega, by omega⟩).mono ?_
  rintro e W2 ⟨v', p1, ⟨t, rfl, ht⟩, rfl, q0, q1, h1, hs1, m1⟩
  go_wp2_with fail
  refine (pick_d w.heap.size sv p1 20 W2 hs1 h1 ⟨by omega, by omega⟩ ⟨by omega, by omega⟩).mono ?_
  rintro e W3 ⟨v, p2, ⟨k, rfl, k0, k1⟩, rfl, r0, r1, h2, hs2, m2⟩
  have M2 := m1.trans m2
  have hB3 : Below w.heap.size w W3 := M2.2.2.2 w hb (Nat.le_refl _)
  have z3 : w.heap.size < W3.heap.size := World.block_lt_of_cell? W3 _ h2.1
  by_cases e0 : k = 0
  · subst e0
    go_wp2_with fail
    refine (manyW_c 512 W3 (by decide)).mono ?_
    rintro e W4 ⟨u, rfl, hu, rfl⟩
    go_wp2_with fail
    go_ret2
    exact ⟨u, ⟨#[108]⟩, rfl, by omega, by decide, hB3⟩
  by_cases e1 : k = 1
  · subst e1
    go_wp2_with fail
    have hk := (Below.refl W3.heap.size W3).alloc (Nat.le_refl _) (.cells #[.string ⟨#[]⟩, .string ⟨#[108, 108]⟩, .string ⟨#[120]⟩] 9)
    have m0 := (Moved.refl w.heap.size W3).below hk
    have z0 : W3.heap.size ≠ w.heap.size := Nat.ne_of_gt z3
    refine (of_c w.heap.size sv p2 2 W3.heap.size 3 3 _ (hs2.moved m0) (h2.keep hk) ⟨by omega, by omega⟩ ⟨by omega, by omega⟩ z0 (strsC W3 _)).mono ?_
    rintro e W4 ⟨v, p4, ⟨u, rfl, hu⟩, rfl, y0, y1, h4, -, m4⟩
    have hB4 : Below w.heap.size w W4 := ((M2.trans m0).trans m4).2.2.2 w hb (Nat.le_refl _)
    clear m0 hk z0 h4 m4
    go_wp2_with fail
    go_ret2
    exact ⟨t, u, rfl, by omega, by omega, hB4⟩
  · go_wp2_with fail
    have hk := (Below.refl W3.heap.size W3).alloc (Nat.le_refl _) (.cells #[.string ⟨#[108]⟩, .string ⟨#[114]⟩] 9)
    have m0 := (Moved.refl w.heap.size W3).below hk
    have z0 : W3.heap.size ≠ w.heap.size := Nat.ne_of_gt z3
    refine (of_c w.heap.size sv p2 2 W3.heap.size 2 2 _ (hs2.moved m0) (h2.keep hk) ⟨by omega, by omega⟩ ⟨by omega, by omega⟩ z0 (strsLR W3 _)).mono ?_
    rintro e W4 ⟨v, p4, ⟨u, rfl, hu⟩, rfl, y0, y1, h4, -, m4⟩
    have hB4 : Below w.heap.size w W4 := ((M2.trans m0).trans m4).2.2.2 w hb (Nat.le_refl _)
    clear m0 hk z0 h4 m4
    go_wp2_with fail
    go_ret2
    exact ⟨t, u, rfl, by omega, by omega, hB4⟩
end Go.Proofs.Ytphpbnkbmopkhaa

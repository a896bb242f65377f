/- What FnNext draws: one text, seldom a long one of ones. No law is stated here. -/
import Derived.Test.YtlcafjdinjdllaaDoorDrawD
namespace Go.Proofs.YtlcafjdinjdllaaDoor
set_option linter.unusedSimpArgs false
set_option linter.unusedVariables false
open Go.RowKit

def ManyRel (w : World) (m : Nat) (nv ov sv : Value) (wr : World) : Prop :=
  ∃ (o s : ByteArray), nv = .int .i64 (m : Nat) ∧ ov = .string o ∧ sv = .string s ∧ m ≤ 60 ∧ s.size ≤ 200 ∧ o.size + s.size * m ≤ 60 ∧ wr = w
set_option maxHeartbeats 2000000 in
theorem many_c (n : Nat) (w : World) (hn : n ≤ 60) : Calls Tryd.prog 58 #[.string ⟨#[49]⟩, .int .i64 n] w fun e w' => ∃ t : ByteArray, e = .returned (.string t) ∧ t.size ≤ 400 ∧ w = w' := by
  have S0 := Lib.hid (show ManyRel w n (.int .i64 n) (.string ⟨#[]⟩) (.string ⟨#[49]⟩) w from ⟨_, _, rfl, rfl, rfl, hn, by decide, by show 0 + 1 * n ≤ 60; omega, rfl⟩)
  go_enter Tryd.func58, Tryd.ntmps58
  go_wp2_with fail
  go_loopg [1, 5, 0] n (fun m nv ov sv wr => ManyRel w m nv ov sv wr)
  case atStart => exact S0.out
  case round =>
    clear S0
    obtain ⟨o, s, rfl, rfl, rfl, h60, hs, hos, rfl⟩ := hrel
    by_cases h0 : 0 < gk
    · have hd : ((gk : Int).tdiv 2) = ((gk / 2 : Nat) : Int) := by rw [Int.tdiv_eq_ediv_of_nonneg (by omega)]; omega
      have hss : (s ++ s).size ≤ 120 := by
        have := Nat.mul_le_mul_left s.size h0
        rw [ByteArray.size_append]; omega
      rcases Nat.mod_two_eq_zero_or_one gk with h2 | h2
      · have a1 : ((gk : Int).tmod 2 == 1) = false := by rw [Int.tmod_eq_emod_of_nonneg (by omega)]; simp; omega
        have HI := Lib.hid (show o.size + (s ++ s).size * (gk / 2) ≤ 60 by
          have e : s.size * gk = s.size * (2 * (gk / 2)) := by congr 1; omega
          rw [ByteArray.size_append]; rw [e] at hos
          have e2 : (s.size + s.size) * (gk / 2) = s.size * (2 * (gk / 2)) := by rw [← Nat.two_mul, Nat.mul_comm 2 s.size, Nat.mul_assoc]
          omega)
        go_wp2_with fail
        go_roundg (gk / 2)
        case measure => omega
        case rel => exact ⟨o, s ++ s, by go_num, rfl, rfl, by omega, by omega, HI.out, rfl⟩
      · have a1 : ((gk : Int).tmod 2 == 1) = true := by rw [Int.tmod_eq_emod_of_nonneg (by omega)]; simp; omega
        have hop : (o ++ s).size ≤ 400 := by
          have := Nat.mul_le_mul_left s.size h0
          rw [ByteArray.size_append]; omega
        have HI := Lib.hid (show (o ++ s).size + (s ++ s).size * (gk / 2) ≤ 60 by
          have e : s.size * gk = s.size * (2 * (gk / 2) + 1) := by congr 1; omega
          rw [ByteArray.size_append, ByteArray.size_append]; rw [e, Nat.mul_add] at hos
          have e2 : (s.size + s.size) * (gk / 2) = s.size * (2 * (gk / 2)) := by rw [← Nat.two_mul, Nat.mul_comm 2 s.size, Nat.mul_assoc]
          omega)
        go_wp2_with fail
        go_roundg (gk / 2)
        case measure => omega
        case rel => exact ⟨o ++ s, s ++ s, by go_num, rfl, rfl, by omega, by omega, HI.out, rfl⟩
    · obtain rfl : gk = 0 := by omega
      have ho : o.size ≤ 400 := by omega
      go_wp2_with fail
      go_ret
      exact ⟨o, rfl, ho, rfl⟩

theorem drawNext_c (v : Value) (w : World) (h : Code v w) : Calls Tryd.prog 33 #[v] w (OneText w) := by
  go_enter Tryd.func33, Tryd.ntmps33
  go_wp2_with fail
  refine (l6Open_c v w h).mono ?_
  rintro e W1 ⟨sv, rfl, hr, hs, hz, hb⟩
  go_wp2_with fail
  refine (pick_d w.heap.size sv 0 6 W1 hs hr ⟨by omega, by omega⟩ ⟨by omega, by omega⟩).mono ?_
  rintro e W2 ⟨v, p1, ⟨k, rfl, k0, k1⟩, rfl, q0, q1, h1, hs1, m1⟩
  by_cases hk : k = 0
  · subst hk
    go_wp2_with fail
    refine (pick_d w.heap.size sv p1 60 W2 hs1 h1 ⟨by omega, by omega⟩ ⟨by omega, by omega⟩).mono ?_
    rintro e W3 ⟨v, p2, ⟨j, rfl, j0, j1⟩, rfl, r0, r1, h2, hs2, m2⟩
    have hB2 : Below w.heap.size w W3 := (m1.trans m2).2.2.2 w hb (Nat.le_refl _)
    obtain ⟨n, hn⟩ : ∃ n : Nat, 1 + j = (n : Int) := ⟨(1 + j).toNat, by omega⟩
    go_wp2_with fail
    refine (many_c n W3 (by omega)).mono ?_
    rintro e W4 ⟨t, rfl, ht, rfl⟩
    go_wp2_with fail
    go_ret
    exact ⟨t, rfl, ht, hB2⟩
  · go_wp2_with fail
    refine (l91Digits_c w.heap.size sv p1 14 W2 hs1 h1 ⟨by omega, by omega⟩ (by decide)).mono ?_
    rintro e W3 ⟨v', p', ⟨t, rfl, ht⟩, rfl, -, -, -, -, m⟩
    have hB2 : Below w.heap.size w W3 := (m1.trans m).2.2.2 w hb (Nat.le_refl _)
    go_wp2_with fail
    go_ret
    exact ⟨t, rfl, ht, hB2⟩
end Go.Proofs.YtlcafjdinjdllaaDoor

/- What the laws of chapter 3 draw: a number text. No law is stated here. -/
import Derived.Test.YtlcafjdinjdllabDrawD
namespace Go.Proofs.Ytlcafjdinjdllab
set_option linter.unusedSimpArgs false
set_option linter.unusedVariables false
open Go.RowKit

def ManyG (w : World) (m : Nat) (nv ov sv : Value) (wr : World) : Prop :=
  ∃ (o s : ByteArray), nv = .int .i64 (m : Nat) ∧ ov = .string o ∧ sv = .string s ∧ m ≤ 400 ∧ s.size ≤ 800 ∧ o.size + s.size * m ≤ 400 ∧ wr = w
set_option maxHeartbeats 2000000 in
theorem manyG_c (c : ByteArray) (n : Nat) (w : World) (hc : c.size = 1) (hn : n ≤ 400) : Calls Try.prog 56 #[.string c, .int .i64 n] w fun e w' => ∃ t : ByteArray, e = .returned (.string t) ∧ t.size ≤ 400 ∧ w = w' := by
  have S0 := Lib.hid (show ManyG w n (.int .i64 n) (.string ⟨#[]⟩) (.string c) w from ⟨_, _, rfl, rfl, rfl, hn, by omega, by rw [hc]; show 0 + 1 * n ≤ 400; omega, rfl⟩)
  go_enter Try.func56, Try.ntmps56
  go_wp2_with fail
  go_loopg [1, 5, 0] n (fun m nv ov sv wr => ManyG w m nv ov sv wr)
  case atStart => exact S0.out
  case round =>
    clear S0
    obtain ⟨o, s, rfl, rfl, rfl, h60, hs, hos, rfl⟩ := hrel
    by_cases h0 : 0 < gk
    · have hd : ((gk : Int).tdiv 2) = ((gk / 2 : Nat) : Int) := by rw [Int.tdiv_eq_ediv_of_nonneg (by omega)]; omega
      have hle := Nat.mul_le_mul_left s.size h0
      have hss : (s ++ s).size ≤ 800 := by
        rw [ByteArray.size_append]; omega
      rcases Nat.mod_two_eq_zero_or_one gk with h2 | h2
      · have a1 : ((gk : Int).tmod 2 == 1) = false := by rw [Int.tmod_eq_emod_of_nonneg (by omega)]; simp; omega
        have HI := Lib.hid (show o.size + (s ++ s).size * (gk / 2) ≤ 400 by
          have e : s.size * gk = s.size * (2 * (gk / 2)) := by congr 1; omega
          rw [ByteArray.size_append]; rw [e] at hos
          have e2 : (s.size + s.size) * (gk / 2) = s.size * (2 * (gk / 2)) := by rw [← Nat.two_mul, Nat.mul_comm 2 s.size, Nat.mul_assoc]
          omega)
        go_wp2_with fail
        go_roundg (gk / 2)
        case measure => omega
        case rel => exact ⟨o, s ++ s, by go_num, rfl, rfl, by omega, by omega, HI.out, rfl⟩
      · have a1 : ((gk : Int).tmod 2 == 1) = true := by rw [Int.tmod_eq_emod_of_nonneg (by omega)]; simp; omega
        have hop : (o ++ s).size ≤ 400 := by
          rw [ByteArray.size_append]; omega
        have HI := Lib.hid (show (o ++ s).size + (s ++ s).size * (gk / 2) ≤ 400 by
          have e : s.size * gk = s.size * (2 * (gk / 2) + 1) := by congr 1; omega
          rw [ByteArray.size_append, ByteArray.size_append]; rw [e, Nat.mul_add] at hos
          have e2 : (s.size + s.size) * (gk / 2) = s.size * (2 * (gk / 2)) := by rw [← Nat.two_mul, Nat.mul_comm 2 s.size, Nat.mul_assoc]
          omega)
        go_wp2_with fail
        go_roundg (gk / 2)
        case measure => omega
        case rel => exact ⟨o ++ s, s ++ s, by go_num, rfl, rfl, by omega, by omega, HI.out, rfl⟩
    · obtain rfl : gk = 0 := by omega
      have ho : o.size ≤ 400 := by omega
      go_wp2_with fail
      go_ret
      exact ⟨o, rfl, ho, rfl⟩
def PlRel (rb : Nat) (sv : Value) (p : Int) (n : Nat) (w : World) (m : Nat) (tv iv : Value) (wr : World) : Prop :=
  ∃ (i : Nat) (t : ByteArray) (p' : Int), i + m = n ∧ iv = .int .i64 i ∧ tv = .string t ∧ t.size ≤ 401 + 2 * i ∧ p ≤ p' ∧ p' ≤ p + i ∧ Rd rb sv p' wr ∧ Moved rb w wr
set_option maxHeartbeats 4000000 in
theorem l91Places_c (rb : Nat) (sv : Value) (p : Int) (w : World) (hs : Src sv rb w) (h : Rd rb sv p w) (hp : 0 ≤ p ∧ p ≤ 100) :
    Calls Try.prog 35 #[.pointer (some ⟨rb, 0, none⟩)] w (Drawn (StrTo 900) 300 rb sv p w) := by
  have hrb : rb < w.heap.size := World.block_lt_of_cell? w _ h.1
  have HS := Lib.hid hs
  go_enter Try.func35, Try.ntmps35
  go_wp2_with fail
  refine (l91Digits_c rb sv p 6 w hs h ⟨by omega, by omega⟩ ⟨by omega, by omega⟩).mono ?_
  rintro e W1 ⟨v, p1, ⟨d, rfl, hd⟩, rfl, q0, q1, h1, -, m1⟩
  have H1 := Lib.hid h1
  have M1 := Lib.hid m1
  have ht : (d ++ ⟨#[46]⟩).size ≤ 401 := by rw [ByteArray.size_append]; show d.size + 1 ≤ 401; omega
  clear h h1 m1 hs
  go_wp2_with fail
  refine (pick_d rb sv p1 20 W1 (HS.out.moved M1.out) H1.out ⟨by omega, by omega⟩ ⟨by omega, by omega⟩).mono ?_
  rintro e W2 ⟨v, p2, ⟨n20, rfl, k0, k1⟩, rfl, r0, r1, h2, -, m2⟩
  have H2 := Lib.hid h2
  have M2 := Lib.hid (M1.out.trans m2)
  clear h2 m2 H1
  go_wp2_with fail
  refine (pick_d rb sv p2 10 W2 (HS.out.moved M2.out) H2.out ⟨by omega, by omega⟩ ⟨by omega, by omega⟩).mono ?_
  rintro e W3 ⟨v, p3, ⟨c, rfl, c0, c1⟩, rfl, s0, s1, h3, -, m3⟩
  have H3 := Lib.hid h3
  have M3 := Lib.hid (M2.out.trans m3)
  clear h3 m3 H2 M1
  generalize d ++ ⟨#[46]⟩ = t at *
  have fin : ∀ (t : ByteArray) (w' : World) (p' : Int), t.size ≤ 900 → p ≤ p' → p' ≤ p + 300 → Rd rb sv p' w' → Moved rb w w' → Drawn (StrTo 900) 300 rb sv p w (.returned (.string t)) w' :=
    fun t w' p' ht hp1 hp2 hr hm => ⟨_, p', ⟨t, rfl, ht⟩, rfl, hp1, hp2, hr, HS.out.moved hm, hm⟩
  by_cases e0 : c = 0
  · subst e0
    have S0 := Lib.hid (show PlRel rb sv p3 40 W3 40 (.string t) (.int .i64 0) W3 from ⟨0, t, p3, by omega, rfl, rfl, by omega, by omega, by omega, H3.out, Moved.refl _ _⟩)
    go_wp2_with fail
    go_loopg [3, 5] 40 (fun m tv iv wr => PlRel rb sv p3 40 W3 m tv iv wr)
    case atStart => exact S0.out
    case round =>
      clear S0
      obtain ⟨i, u, p5, hi, rfl, rfl, hu, g0, g1, h5, m5⟩ := hrel
      have M5 := Lib.hid (M3.out.trans m5)
      have H5 := Lib.hid h5
      have M7 := Lib.hid m5
      have z2 : rb < wr.heap.size := Nat.lt_of_lt_of_le hrb M5.out.1
      clear m5 h5
      by_cases hin : i < 40
      · go_wp2_with fail
        have m0 := (Moved.refl rb wr).alloc (.cells #[.string ⟨#[48]⟩, .string ⟨#[49]⟩] 9)
        have hk := (Below.refl wr.heap.size wr).alloc (Nat.le_refl _) (.cells #[.string ⟨#[48]⟩, .string ⟨#[49]⟩] 9)
        have z0 : wr.heap.size ≠ rb := Nat.ne_of_gt z2
        refine (of_c rb sv p5 2 wr.heap.size 2 2 _ ((HS.out.moved M5.out).moved m0) (H5.out.keep hk) ⟨by omega, by omega⟩ ⟨by omega, by omega⟩ z0 (strs2 wr _)).mono ?_
        rintro e W6 ⟨v, p6, ⟨x, rfl, hx⟩, rfl, y0, y1, h6, -, m6⟩
        have M6 := Lib.hid (M5.out.trans (m0.trans m6))
        have HT := Lib.hid (show (u ++ x).size ≤ 401 + 2 * (i + 1) by rw [ByteArray.size_append]; omega)
        have H6 := Lib.hid h6
        have M6' := Lib.hid (m0.trans m6)
        clear m0 hk z0 h6 m6
        go_wp2_with fail
        go_roundg (gk - 1)
        case measure => omega
        case rel => exact ⟨i + 1, u ++ x, p6, by omega, by go_num, rfl, HT.out, by omega, by omega, H6.out, M7.out.trans M6'.out⟩
      · go_wp2_with fail
        refine (pick_d rb sv p5 24 wr (HS.out.moved M5.out) H5.out ⟨by omega, by omega⟩ ⟨by omega, by omega⟩).mono ?_
        rintro e W6 ⟨v, p6, ⟨c', rfl, c0', c1'⟩, rfl, y0, y1, h6, -, m6⟩
        have M6 := Lib.hid (M5.out.trans m6)
        have H6 := Lib.hid h6
        clear h6 m6
        by_cases b0 : c' = 0
        · subst b0
          go_wp2_with fail
          go_ret
          exact fin _ _ p6 (by rw [ByteArray.size_append]; show u.size + 1 ≤ 900; omega) (by omega) (by omega) H6.out M6.out
        by_cases b1 : c' = 1
        · subst b1
          go_wp2_with fail
          go_ret
          exact fin _ _ p6 (by rw [ByteArray.size_append]; show u.size + 1 ≤ 900; omega) (by omega) (by omega) H6.out M6.out
        · go_wp2_with fail
          go_ret
          exact fin _ _ p6 (by omega) (by omega) (by omega) H6.out M6.out
  by_cases e1 : c = 1
  · subst e1
    go_wp2_with fail
    refine (pick_d rb sv p3 70 W3 (HS.out.moved M3.out) H3.out ⟨by omega, by omega⟩ ⟨by omega, by omega⟩).mono ?_
    rintro e W4 ⟨v, p4, ⟨k, rfl, j0, j1⟩, rfl, y0, y1, h4, -, m4⟩
    have M4 := Lib.hid (M3.out.trans m4)
    have H4 := Lib.hid h4
    clear h4 m4
    obtain ⟨k', rfl⟩ : ∃ k' : Nat, k = (k' : Int) := ⟨k.toNat, by omega⟩
    go_wp2_with fail
    have ek : (240 : Int) + (k' : Int) = ((240 + k' : Nat) : Int) := by omega
    rw [ek]
    clear ek
    refine (manyG_c ⟨#[48]⟩ (240 + k') W4 rfl (by omega)).mono ?_
    rintro e W5 ⟨x, rfl, hx, rfl⟩
    have hx2 : (t ++ x).size ≤ 801 := by rw [ByteArray.size_append]; omega
    go_wp2_with fail
    go_ret
    exact fin _ _ p4 (by rw [ByteArray.size_append]; show (t ++ x).size + 4 ≤ 900; omega) (by omega) (by omega) H4.out M4.out
  by_cases e2 : c = 2
  · subst e2
    go_wp2_with fail
    refine (pick_d rb sv p3 60 W3 (HS.out.moved M3.out) H3.out ⟨by omega, by omega⟩ ⟨by omega, by omega⟩).mono ?_
    rintro e W4 ⟨v, p4, ⟨k, rfl, j0, j1⟩, rfl, y0', y1', h4, -, m4⟩
    have M4 := Lib.hid (M3.out.trans m4)
    have H4 := Lib.hid h4
    clear h4 m4
    obtain ⟨k', rfl⟩ : ∃ k' : Nat, k = (k' : Int) := ⟨k.toNat, by omega⟩
    have hk' : k' ≤ 60 := by omega
    have S0 := Lib.hid (show PlRel rb sv p4 k' W4 k' (.string t) (.int .i64 0) W4 from ⟨0, t, p4, by omega, rfl, rfl, by omega, by omega, by omega, H4.out, Moved.refl _ _⟩)
    go_wp2_with fail
    go_loopg [3, 5] k' (fun m tv iv wr => PlRel rb sv p4 k' W4 m tv iv wr)
    case atStart => exact S0.out
    case round =>
      clear S0
      obtain ⟨i, u, p5, hi, rfl, rfl, hu, g0, g1, h5, m5⟩ := hrel
      have M5 := Lib.hid (M4.out.trans m5)
      have H5 := Lib.hid h5
      have M7 := Lib.hid m5
      have z2 : rb < wr.heap.size := Nat.lt_of_lt_of_le hrb M5.out.1
      clear m5 h5
      by_cases hin : i < k'
      · go_wp2_with fail
        have m0 := (Moved.refl rb wr).alloc (.cells #[.string ⟨#[48]⟩, .string ⟨#[49]⟩] 9)
        have hk := (Below.refl wr.heap.size wr).alloc (Nat.le_refl _) (.cells #[.string ⟨#[48]⟩, .string ⟨#[49]⟩] 9)
        have z0 : wr.heap.size ≠ rb := Nat.ne_of_gt z2
        refine (of_c rb sv p5 2 wr.heap.size 2 2 _ ((HS.out.moved M5.out).moved m0) (H5.out.keep hk) ⟨by omega, by omega⟩ ⟨by omega, by omega⟩ z0 (strs2 wr _)).mono ?_
        rintro e W6 ⟨v, p6, ⟨x, rfl, hx⟩, rfl, y0, y1, h6, -, m6⟩
        have M6 := Lib.hid (M5.out.trans (m0.trans m6))
        have HT := Lib.hid (show (u ++ x).size ≤ 401 + 2 * (i + 1) by rw [ByteArray.size_append]; omega)
        have H6 := Lib.hid h6
        have M6' := Lib.hid (m0.trans m6)
        clear m0 hk z0 h6 m6
        go_wp2_with fail
        go_roundg (gk - 1)
        case measure => omega
        case rel => exact ⟨i + 1, u ++ x, p6, by omega, by go_num, rfl, HT.out, by omega, by omega, H6.out, M7.out.trans M6'.out⟩
      · go_wp2_with fail
        refine (pick_d rb sv p5 24 wr (HS.out.moved M5.out) H5.out ⟨by omega, by omega⟩ ⟨by omega, by omega⟩).mono ?_
        rintro e W6 ⟨v, p6, ⟨c', rfl, c0', c1'⟩, rfl, y0, y1, h6, -, m6⟩
        have M6 := Lib.hid (M5.out.trans m6)
        have H6 := Lib.hid h6
        clear h6 m6
        by_cases b0 : c' = 0
        · subst b0
          go_wp2_with fail
          go_ret
          exact fin _ _ p6 (by rw [ByteArray.size_append]; show u.size + 1 ≤ 900; omega) (by omega) (by omega) H6.out M6.out
        by_cases b1 : c' = 1
        · subst b1
          go_wp2_with fail
          go_ret
          exact fin _ _ p6 (by rw [ByteArray.size_append]; show u.size + 1 ≤ 900; omega) (by omega) (by omega) H6.out M6.out
        · go_wp2_with fail
          go_ret
          exact fin _ _ p6 (by omega) (by omega) (by omega) H6.out M6.out
  · obtain ⟨k', rfl⟩ : ∃ k' : Nat, n20 = (k' : Int) := ⟨n20.toNat, by omega⟩
    have d0 : (c == 0) = false := by simp [e0]
    have d1 : (c == 1) = false := by simp [e1]
    have d2 : (c == 2) = false := by simp [e2]
    have hk' : k' ≤ 60 := by omega
    have S0 := Lib.hid (show PlRel rb sv p3 k' W3 k' (.string t) (.int .i64 0) W3 from ⟨0, t, p3, by omega, rfl, rfl, by omega, by omega, by omega, H3.out, Moved.refl _ _⟩)
    go_wp2_with fail
    go_loopg [3, 5] k' (fun m tv iv wr => PlRel rb sv p3 k' W3 m tv iv wr)
    case atStart => exact S0.out
    case round =>
      clear S0
      obtain ⟨i, u, p5, hi, rfl, rfl, hu, g0, g1, h5, m5⟩ := hrel
      have M5 := Lib.hid (M3.out.trans m5)
      have H5 := Lib.hid h5
      have M7 := Lib.hid m5
      have z2 : rb < wr.heap.size := Nat.lt_of_lt_of_le hrb M5.out.1
      clear m5 h5
      by_cases hin : i < k'
      · go_wp2_with fail
        have m0 := (Moved.refl rb wr).alloc (.cells #[.string ⟨#[48]⟩, .string ⟨#[49]⟩] 9)
        have hk := (Below.refl wr.heap.size wr).alloc (Nat.le_refl _) (.cells #[.string ⟨#[48]⟩, .string ⟨#[49]⟩] 9)
        have z0 : wr.heap.size ≠ rb := Nat.ne_of_gt z2
        refine (of_c rb sv p5 2 wr.heap.size 2 2 _ ((HS.out.moved M5.out).moved m0) (H5.out.keep hk) ⟨by omega, by omega⟩ ⟨by omega, by omega⟩ z0 (strs2 wr _)).mono ?_
        rintro e W6 ⟨v, p6, ⟨x, rfl, hx⟩, rfl, y0, y1, h6, -, m6⟩
        have M6 := Lib.hid (M5.out.trans (m0.trans m6))
        have HT := Lib.hid (show (u ++ x).size ≤ 401 + 2 * (i + 1) by rw [ByteArray.size_append]; omega)
        have H6 := Lib.hid h6
        have M6' := Lib.hid (m0.trans m6)
        clear m0 hk z0 h6 m6
        go_wp2_with fail
        go_roundg (gk - 1)
        case measure => omega
        case rel => exact ⟨i + 1, u ++ x, p6, by omega, by go_num, rfl, HT.out, by omega, by omega, H6.out, M7.out.trans M6'.out⟩
      · go_wp2_with fail
        refine (pick_d rb sv p5 24 wr (HS.out.moved M5.out) H5.out ⟨by omega, by omega⟩ ⟨by omega, by omega⟩).mono ?_
        rintro e W6 ⟨v, p6, ⟨c', rfl, c0', c1'⟩, rfl, y0, y1, h6, -, m6⟩
        have M6 := Lib.hid (M5.out.trans m6)
        have H6 := Lib.hid h6
        clear h6 m6
        by_cases b0 : c' = 0
        · subst b0
          go_wp2_with fail
          go_ret
          exact fin _ _ p6 (by rw [ByteArray.size_append]; show u.size + 1 ≤ 900; omega) (by omega) (by omega) H6.out M6.out
        by_cases b1 : c' = 1
        · subst b1
          go_wp2_with fail
          go_ret
          exact fin _ _ p6 (by rw [ByteArray.size_append]; show u.size + 1 ≤ 900; omega) (by omega) (by omega) H6.out M6.out
        · go_wp2_with fail
          go_ret
          exact fin _ _ p6 (by omega) (by omega) (by omega) H6.out M6.out
theorem drawPlV_c (v : Value) (w : World) (h : Code v w) : Calls Try.prog 10 #[v] w fun e w' => ∃ t : ByteArray, e = .returned (.string t) ∧ t.size ≤ 900 ∧ Below w.heap.size w w' := by
  go_enter Try.func10, Try.ntmps10
  go_wp2_with fail
  refine (l6Open_c v w h).mono ?_
  rintro e W1 ⟨sv, rfl, hr, hs, hz, hb⟩
  go_wp2_with fail
  refine (l91Places_c w.heap.size sv 0 W1 hs hr ⟨by omega, by omega⟩).mono ?_
  rintro e W2 ⟨v', p', ⟨t, rfl, ht⟩, rfl, -, -, -, -, m⟩
  have hB2 : Below w.heap.size w W2 := m.2.2.2 w hb (Nat.le_refl _)
  go_wp2_with fail
  go_ret
  exact ⟨t, rfl, ht, hB2⟩
theorem drawPlE_c (v : Value) (w : World) (h : Code v w) : Calls Try.prog 15 #[v] w fun e w' => ∃ t : ByteArray, e = .returned (.string t) ∧ t.size ≤ 900 ∧ Below w.heap.size w w' := by
  go_enter Try.func15, Try.ntmps15
  go_wp2_with fail
  refine (l6Open_c v w h).mono ?_
  rintro e W1 ⟨sv, rfl, hr, hs, hz, hb⟩
  go_wp2_with fail
  refine (l91Places_c w.heap.size sv 0 W1 hs hr ⟨by omega, by omega⟩).mono ?_
  rintro e W2 ⟨v', p', ⟨t, rfl, ht⟩, rfl, -, -, -, -, m⟩
  have hB2 : Below w.heap.size w W2 := m.2.2.2 w hb (Nat.le_refl _)
  go_wp2_with fail
  go_ret
  exact ⟨t, rfl, ht, hB2⟩
theorem drawPlW_c (v : Value) (w : World) (h : Code v w) : Calls Try.prog 20 #[v] w fun e w' => ∃ t : ByteArray, e = .returned (.string t) ∧ t.size ≤ 900 ∧ Below w.heap.size w w' := by
  go_enter Try.func20, Try.ntmps20
  go_wp2_with fail
  refine (l6Open_c v w h).mono ?_
  rintro e W1 ⟨sv, rfl, hr, hs, hz, hb⟩
  go_wp2_with fail
  refine (l91Places_c w.heap.size sv 0 W1 hs hr ⟨by omega, by omega⟩).mono ?_
  rintro e W2 ⟨v', p', ⟨t, rfl, ht⟩, rfl, -, -, -, -, m⟩
  have hB2 : Below w.heap.size w W2 := m.2.2.2 w hb (Nat.le_refl _)
  go_wp2_with fail
  go_ret
  exact ⟨t, rfl, ht, hB2⟩
theorem drawPlS_c (v : Value) (w : World) (h : Code v w) : Calls Try.prog 24 #[v] w fun e w' => ∃ t : ByteArray, e = .returned (.string t) ∧ t.size ≤ 900 ∧ Below w.heap.size w w' := by
  go_enter Try.func24, Try.ntmps24
  go_wp2_with fail
  refine (l6Open_c v w h).mono ?_
  rintro e W1 ⟨sv, rfl, hr, hs, hz, hb⟩
  go_wp2_with fail
  refine (l91Places_c w.heap.size sv 0 W1 hs hr ⟨by omega, by omega⟩).mono ?_
  rintro e W2 ⟨v', p', ⟨t, rfl, ht⟩, rfl, -, -, -, -, m⟩
  have hB2 : Below w.heap.size w W2 := m.2.2.2 w hb (Nat.le_refl _)
  go_wp2_with fail
  go_ret
  exact ⟨t, rfl, ht, hB2⟩
theorem drawPlL_c (v : Value) (w : World) (h : Code v w) : Calls Try.prog 27 #[v] w fun e w' => ∃ t : ByteArray, e = .returned (.string t) ∧ t.size ≤ 900 ∧ Below w.heap.size w w' := by
  go_enter Try.func27, Try.ntmps27
  go_wp2_with fail
  refine (l6Open_c v w h).mono ?_
  rintro e W1 ⟨sv, rfl, hr, hs, hz, hb⟩
  go_wp2_with fail
  refine (l91Places_c w.heap.size sv 0 W1 hs hr ⟨by omega, by omega⟩).mono ?_
  rintro e W2 ⟨v', p', ⟨t, rfl, ht⟩, rfl, -, -, -, -, m⟩
  have hB2 : Below w.heap.size w W2 := m.2.2.2 w hb (Nat.le_refl _)
  go_wp2_with fail
  go_ret
  exact ⟨t, rfl, ht, hB2⟩
end Go.Proofs.Ytlcafjdinjdllab

/- What the laws of chapter 5 draw: short words. No law is stated here. -/
import Derived.Test.YtmdnfamjdogogaaDoorDrawW
namespace Go.Proofs.YtmdnfamjdogogaaDoor
set_option linter.unusedSimpArgs false
set_option linter.unusedVariables false
open Go.RowKit

theorem strs1LR (w : World) (t : TypeId) : Strs 1 w.heap.size 2 (w.alloc (.cells #[.string ⟨#[108]⟩, .string ⟨#[114]⟩] t)) := by
  intro i hi
  match i, hi with
  | 0, _ => exact ⟨⟨#[108]⟩, by go_simp, by decide⟩
  | 1, _ => exact ⟨⟨#[114]⟩, by go_simp, by decide⟩
theorem strs1X (w : World) (t : TypeId) : Strs 1 w.heap.size 3 (w.alloc (.cells #[.string ⟨#[120]⟩, .string ⟨#[32]⟩, .string ⟨#[76]⟩] t)) := by
  intro i hi
  match i, hi with
  | 0, _ => exact ⟨⟨#[120]⟩, by go_simp, by decide⟩
  | 1, _ => exact ⟨⟨#[32]⟩, by go_simp, by decide⟩
  | 2, _ => exact ⟨⟨#[76]⟩, by go_simp, by decide⟩
def WDrawRel1 (rb : Nat) (sv : Value) (p : Int) (n : Nat) (w : World) (m : Nat) (tv iv : Value) (wr : World) : Prop :=
  ∃ (i : Nat) (t : ByteArray) (p' : Int), i + m = n ∧ iv = .int .i64 i ∧ tv = .string t ∧ t.size ≤ i ∧ p ≤ p' ∧ p' ≤ p + i ∧ Rd rb sv p' wr ∧ Moved rb w wr
set_option maxHeartbeats 4000000 in
theorem l92Word_s (rb : Nat) (sv : Value) (p : Int) (most : Nat) (w : World) (hs : Src sv rb w) (h : Rd rb sv p w) (hp : 0 ≤ p ∧ p ≤ 1000) (hm : most ≤ 100) :
    Calls Tryd.prog 23 #[.pointer (some ⟨rb, 0, none⟩), .int .i64 most] w (Drawn (StrTo (most + 1)) 110 rb sv p w) := by
  have hrb : rb < w.heap.size := World.block_lt_of_cell? w _ h.1
  go_enter Tryd.func23, Tryd.ntmps23
  go_wp2_with fail
  refine (pick_d rb sv p (most + 1) w hs h ⟨by omega, by omega⟩ ⟨by omega, by omega⟩).mono ?_
  rintro e W1 ⟨v, p1, ⟨k, rfl, k0, k1⟩, rfl, q0, q1, h1, -, m1⟩
  obtain ⟨n, rfl⟩ : ∃ n : Nat, k = (n : Int) := ⟨k.toNat, by omega⟩
  have hn : n ≤ most := by omega
  have S0 := Lib.hid (show WDrawRel1 rb sv p1 n W1 n (.string ⟨#[]⟩) (.int .i64 0) W1 from ⟨0, ⟨#[]⟩, p1, by omega, rfl, rfl, by decide, by omega, by omega, h1, Moved.refl _ _⟩)
  have HS := Lib.hid hs
  have M1 := Lib.hid m1
  clear h h1 m1 hs
  go_wp2_with fail
  go_loopg [5, 7] n (fun m tv iv wr => WDrawRel1 rb sv p1 n W1 m tv iv wr)
  case atStart => exact S0.out
  case round =>
    clear S0
    obtain ⟨i, t, p2, hi, rfl, rfl, ht, r0, r1, h2, m2⟩ := hrel
    have M2 := Lib.hid (M1.out.trans m2)
    have m2' := Lib.hid m2
    have H2 := Lib.hid h2
    have z2 : rb < wr.heap.size := Nat.lt_of_lt_of_le hrb M2.out.1
    clear m2 h2
    by_cases hin : i < n
    · go_wp2_with fail
      have m0 := (Moved.refl rb wr).alloc (.cells #[.string ⟨#[108]⟩, .string ⟨#[114]⟩] 9)
      have hk := (Below.refl wr.heap.size wr).alloc (Nat.le_refl _) (.cells #[.string ⟨#[108]⟩, .string ⟨#[114]⟩] 9)
      have z0 : wr.heap.size ≠ rb := Nat.ne_of_gt z2
      refine (of_c rb sv p2 1 wr.heap.size 2 2 _ ((HS.out.moved M2.out).moved m0) (H2.out.keep hk) ⟨by omega, by omega⟩ ⟨by omega, by omega⟩ z0 (strs1LR wr _)).mono ?_
      rintro e W3 ⟨v, p3, ⟨u, rfl, hu⟩, rfl, s0, s1, h3, -, m3⟩
      have M3 := Lib.hid (m2'.out.trans (m0.trans m3))
      have HT := Lib.hid (show (t ++ u).size ≤ i + 1 by rw [ByteArray.size_append]; omega)
      have H3 := Lib.hid h3
      clear m0 hk z0 h3 m3
      go_wp2_with fail
      go_roundg (gk - 1)
      case measure => omega
      case rel => exact ⟨i + 1, t ++ u, p3, by omega, by go_num, rfl, HT.out, by omega, by omega, H3.out, M3.out⟩
    · go_wp2_with fail
      refine (pick_d rb sv p2 20 wr (HS.out.moved M2.out) H2.out ⟨by omega, by omega⟩ ⟨by omega, by omega⟩).mono ?_
      rintro e W3 ⟨v, p3, ⟨c, rfl, c0, c1⟩, rfl, s0, s1, h3, -, m3⟩
      have M3 := Lib.hid (M2.out.trans m3)
      have H3 := Lib.hid h3
      have z3 : rb < W3.heap.size := Nat.lt_of_lt_of_le hrb M3.out.1
      clear h3 m3
      have fin : ∀ (t : ByteArray) (w' : World) (p' : Int), t.size ≤ most + 1 → p ≤ p' → p' ≤ p + 110 → Rd rb sv p' w' → Moved rb w w' → Drawn (StrTo (most + 1)) 110 rb sv p w (.returned (.string t)) w' :=
        fun t w' p' ht hp1 hp2 hr hm => ⟨_, p', ⟨t, rfl, ht⟩, rfl, hp1, hp2, hr, HS.out.moved hm, hm⟩
      by_cases e0 : c = 0
      · subst e0
        go_wp2_with fail
        have hk := (Below.refl W3.heap.size W3).alloc (Nat.le_refl _) (.cells #[.string ⟨#[120]⟩, .string ⟨#[32]⟩, .string ⟨#[76]⟩] 9)
        have m0 := (Moved.refl rb W3).below hk
        have z0 : W3.heap.size ≠ rb := Nat.ne_of_gt z3
        refine (of_c rb sv p3 1 W3.heap.size 3 3 _ ((HS.out.moved M3.out).moved m0) (H3.out.keep hk) ⟨by omega, by omega⟩ ⟨by omega, by omega⟩ z0 (strs1X W3 _)).mono ?_
        rintro e W4 ⟨v, p4, ⟨u, rfl, hu⟩, rfl, y0, y1, h4, -, m4⟩
        have M4 := Lib.hid (M3.out.trans (m0.trans m4))
        have H4 := Lib.hid h4
        have hsz : (t ++ u).size ≤ most + 1 := by rw [ByteArray.size_append]; omega
        clear m0 hk z0 h4 m4
        go_wp2_with fail
        go_ret
        exact fin (t ++ u) _ p4 hsz (by omega) (by omega) H4.out M4.out
      · go_wp2_with fail
        go_ret
        exact fin t _ p3 (by omega) (by omega) (by omega) H3.out M3.out
/-- a word of turns of few creases is short -/
theorem twV_short {k : Nat} (t : ByteArray) (h : t.size ≤ k) : (selW (wdB 10 t) (turnsL (toL t))).size + 1 ≤ 2 ^ k := by
  rcases Bool.eq_false_or_eq_true (wdB 10 t) with h1 | h1
  · have hl := turnsL_len (toL t)
    have hp : 2 ^ (toL t).length ≤ 2 ^ k := Nat.pow_le_pow_right (by omega) (by rw [toL_len]; exact h)
    unfold selW
    rw [h1, if_pos rfl, bsz]; omega
  · unfold selW; rw [h1]
    have := Nat.two_pow_pos k
    show 0 + 1 ≤ _
    omega
/-- what a draw of one text of at most 127 bytes leaves -/
def OneTextS (w : World) (e : Ending) (w' : World) : Prop := ∃ t : ByteArray, e = .returned (.string t) ∧ t.size ≤ 127 ∧ Below w.heap.size w w'
end Go.Proofs.YtmdnfamjdogogaaDoor

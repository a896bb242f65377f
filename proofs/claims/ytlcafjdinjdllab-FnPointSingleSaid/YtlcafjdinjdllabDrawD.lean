/- What the laws of chapter 2 draw: one text. No law is stated here. -/
import Derived.Test.YtlcafjdinjdllabDrawB
import Derived.Deep.LoopGhost
import Derived.Laws.RangeString
namespace Go.Proofs.Ytlcafjdinjdllab
set_option linter.unusedSimpArgs false
set_option linter.unusedVariables false
open Go.RowKit

def StrTo (K : Nat) (v : Value) : Prop := ∃ t : ByteArray, v = .string t ∧ t.size ≤ K
def Strs (K b n : Nat) (w : World) : Prop := ∀ i, i < n → ∃ t : ByteArray, w.cell? ⟨b, i, none⟩ = some (.string t) ∧ t.size ≤ K
theorem Moved.strs {rb K b n : Nat} {w w' : World} (h : Moved rb w w') (hb : b ≠ rb) (k : Strs K b n w) : Strs K b n w' := fun i hi => by
  obtain ⟨t, h1, h2⟩ := k i hi
  exact ⟨t, h.cell (World.block_lt_of_cell? w _ h1) hb h1, h2⟩
set_option maxHeartbeats 1000000 in
theorem of_c (rb : Nat) (sv : Value) (p : Int) (K b n cap : Nat) (w : World) (hs : Src sv rb w) (h : Rd rb sv p w) (hp : 0 ≤ p ∧ p ≤ 1000000) (hn : 1 ≤ n ∧ n ≤ 1000) (hb : b ≠ rb) (hK : Strs K b n w) :
    Calls Try.prog 57 #[.pointer (some ⟨rb, 0, none⟩), .slice (some ⟨b, 0, none⟩) n cap] w (Drawn (StrTo K) 1 rb sv p w) := by
  go_enter Try.func57, Try.ntmps57
  go_wp2_with fail
  refine (pick_d rb sv p n w hs h hp ⟨by omega, by omega⟩).mono ?_
  rintro e W1 ⟨v, p1, ⟨k, rfl, k0, k1⟩, rfl, q0, q1, h1, -, m1⟩
  obtain ⟨j, rfl⟩ : ∃ j : Nat, k = (j : Int) := ⟨k.toNat, by omega⟩
  have hj : j < n := by omega
  obtain ⟨t, ht, ht2⟩ := m1.strs hb hK j hj
  go_wp2_with fail
  go_ret
  exact ⟨_, p1, ⟨t, rfl, ht2⟩, rfl, q0, q1, h1, hs.moved m1, m1⟩

theorem strs2 (w : World) (t : TypeId) : Strs 2 w.heap.size 2 (w.alloc (.cells #[.string ⟨#[48]⟩, .string ⟨#[49]⟩] t)) := by
  intro i hi
  match i, hi with
  | 0, _ => exact ⟨⟨#[48]⟩, by go_simp, by decide⟩
  | 1, _ => exact ⟨⟨#[49]⟩, by go_simp, by decide⟩
theorem strs7 (w : World) (t : TypeId) : Strs 2 w.heap.size 7 (w.alloc (.cells #[.string ⟨#[]⟩, .string ⟨#[48]⟩, .string ⟨#[48, 49]⟩, .string ⟨#[50]⟩, .string ⟨#[49, 32]⟩, .string ⟨#[48, 48]⟩, .string ⟨#[45, 49]⟩] t)) := by
  intro i hi
  match i, hi with
  | 0, _ => exact ⟨⟨#[]⟩, by go_simp, by decide⟩
  | 1, _ => exact ⟨⟨#[48]⟩, by go_simp, by decide⟩
  | 2, _ => exact ⟨⟨#[48, 49]⟩, by go_simp, by decide⟩
  | 3, _ => exact ⟨⟨#[50]⟩, by go_simp, by decide⟩
  | 4, _ => exact ⟨⟨#[49, 32]⟩, by go_simp, by decide⟩
  | 5, _ => exact ⟨⟨#[48, 48]⟩, by go_simp, by decide⟩
  | 6, _ => exact ⟨⟨#[45, 49]⟩, by go_simp, by decide⟩
def DrawRel (rb : Nat) (sv : Value) (p : Int) (n : Nat) (w : World) (m : Nat) (tv iv : Value) (wr : World) : Prop :=
  ∃ (i : Nat) (t : ByteArray) (p' : Int), i + m = n ∧ iv = .int .i64 i ∧ tv = .string t ∧ t.size ≤ 1 + 2 * i ∧ p ≤ p' ∧ p' ≤ p + i ∧ Rd rb sv p' wr ∧ Moved rb w wr
set_option maxHeartbeats 4000000 in
theorem l91Digits_c (rb : Nat) (sv : Value) (p most : Int) (w : World) (hs : Src sv rb w) (h : Rd rb sv p w) (hp : 0 ≤ p ∧ p ≤ 1000) (hm : 1 ≤ most ∧ most ≤ 100) :
    Calls Try.prog 54 #[.pointer (some ⟨rb, 0, none⟩), .int .i64 most] w (Drawn (StrTo 400) 110 rb sv p w) := by
  have hrb : rb < w.heap.size := World.block_lt_of_cell? w _ h.1
  go_enter Try.func54, Try.ntmps54
  go_wp2_with fail
  refine (pick_d rb sv p most w hs h ⟨by omega, by omega⟩ ⟨by omega, by omega⟩).mono ?_
  rintro e W1 ⟨v, p1, ⟨k, rfl, k0, k1⟩, rfl, q0, q1, h1, -, m1⟩
  obtain ⟨n, rfl⟩ : ∃ n : Nat, k = (n : Int) := ⟨k.toNat, by omega⟩
  have hn : n ≤ 100 := by omega
  have S0 := Lib.hid (show DrawRel rb sv p1 n W1 n (.string ⟨#[49]⟩) (.int .i64 0) W1 from ⟨0, ⟨#[49]⟩, p1, by omega, rfl, rfl, by decide, by omega, by omega, h1, Moved.refl _ _⟩)
  have HS := Lib.hid hs
  have M1 := Lib.hid m1
  clear h h1 m1 hs
  go_wp2_with fail
  go_loopg [5, 7] n (fun m tv iv wr => DrawRel rb sv p1 n W1 m tv iv wr)
  case atStart => exact S0.out
  case round =>
    clear S0
    obtain ⟨i, t, p2, hi, rfl, rfl, ht, r0, r1, h2, m2⟩ := hrel
    have M2 := Lib.hid (M1.out.trans m2)
    have m2' := Lib.hid m2
    have H2 := Lib.hid h2
    have z2 : rb < wr.heap.size := Nat.lt_of_lt_of_le hrb M2.out.1
    clear m2 h2
    by_cases hin : i < n
    · go_wp2_with fail
      have m0 := (Moved.refl rb wr).alloc (.cells #[.string ⟨#[48]⟩, .string ⟨#[49]⟩] 9)
      have hk := (Below.refl wr.heap.size wr).alloc (Nat.le_refl _) (.cells #[.string ⟨#[48]⟩, .string ⟨#[49]⟩] 9)
      have z0 : wr.heap.size ≠ rb := Nat.ne_of_gt z2
      refine (of_c rb sv p2 2 wr.heap.size 2 2 _ ((HS.out.moved M2.out).moved m0) (H2.out.keep hk) ⟨by omega, by omega⟩ ⟨by omega, by omega⟩ z0 (strs2 wr _)).mono ?_
      rintro e W3 ⟨v, p3, ⟨u, rfl, hu⟩, rfl, s0, s1, h3, -, m3⟩
      have M3 := Lib.hid (m2'.out.trans (m0.trans m3))
      have HT := Lib.hid (show (t ++ u).size ≤ 1 + 2 * (i + 1) by rw [ByteArray.size_append]; omega)
      have H3 := Lib.hid h3
      clear m0 hk z0 h3 m3
      go_wp2_with fail
      go_roundg (gk - 1)
      case measure => omega
      case rel => exact ⟨i + 1, t ++ u, p3, by omega, by go_num, rfl, HT.out, by omega, by omega, H3.out, M3.out⟩
    · go_wp2_with fail
      refine (pick_d rb sv p2 20 wr (HS.out.moved M2.out) H2.out ⟨by omega, by omega⟩ ⟨by omega, by omega⟩).mono ?_
      rintro e W3 ⟨v, p3, ⟨c, rfl, c0, c1⟩, rfl, s0, s1, h3, -, m3⟩
      have M3 := Lib.hid (M2.out.trans m3)
      have H3 := Lib.hid h3
      have z3 : rb < W3.heap.size := Nat.lt_of_lt_of_le hrb M3.out.1
      clear h3 m3
      have fin : ∀ (t : ByteArray) (w' : World) (p' : Int), t.size ≤ 400 → p ≤ p' → p' ≤ p + 110 → Rd rb sv p' w' → Moved rb w w' → Drawn (StrTo 400) 110 rb sv p w (.returned (.string t)) w' :=
        fun t w' p' ht hp1 hp2 hr hm => ⟨_, p', ⟨t, rfl, ht⟩, rfl, hp1, hp2, hr, HS.out.moved hm, hm⟩
      by_cases e0 : c = 0
      · subst e0
        go_wp2_with fail
        have hk := (Below.refl W3.heap.size W3).alloc (Nat.le_refl _) (.cells #[.string ⟨#[]⟩, .string ⟨#[48]⟩, .string ⟨#[48, 49]⟩, .string ⟨#[50]⟩, .string ⟨#[49, 32]⟩, .string ⟨#[48, 48]⟩, .string ⟨#[45, 49]⟩] 9)
        have m0 := (Moved.refl rb W3).below hk
        have z0 : W3.heap.size ≠ rb := Nat.ne_of_gt z3
        refine (of_c rb sv p3 2 W3.heap.size 7 7 _ ((HS.out.moved M3.out).moved m0) (H3.out.keep hk) ⟨by omega, by omega⟩ ⟨by omega, by omega⟩ z0 (strs7 W3 _)).mono ?_
        rintro e W4 ⟨v, p4, ⟨u, rfl, hu⟩, rfl, y0, y1, h4, -, m4⟩
        have M4 := Lib.hid (M3.out.trans (m0.trans m4))
        have H4 := Lib.hid h4
        clear m0 hk z0 h4 m4
        go_wp2_with fail
        go_ret
        exact fin u _ p4 (by omega) (by omega) (by omega) H4.out M4.out
      by_cases e1 : c = 1
      · subst e1
        go_wp2_with fail
        go_ret
        exact fin _ _ p3 (by decide) (by omega) (by omega) H3.out M3.out
      by_cases e2 : c = 2
      · subst e2
        go_wp2_with fail
        go_ret
        exact fin _ _ p3 (by decide) (by omega) (by omega) H3.out M3.out
      · go_wp2_with fail
        go_ret
        exact fin t _ p3 (by omega) (by omega) (by omega) H3.out M3.out

/-- what a draw of one text leaves -/
def OneText (w : World) (e : Ending) (w' : World) : Prop := ∃ t : ByteArray, e = .returned (.string t) ∧ t.size ≤ 400 ∧ Below w.heap.size w w'
end Go.Proofs.Ytlcafjdinjdllab

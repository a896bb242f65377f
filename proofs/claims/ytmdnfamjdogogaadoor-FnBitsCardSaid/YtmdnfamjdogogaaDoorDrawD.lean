/- What the laws of chapter 2 draw: one text. No law is stated here. -/
import Derived.Test.YtmdnfamjdogogaaDoorDrawB
import Derived.Deep.LoopGhost
import Derived.Laws.RangeString
namespace Go.Proofs.YtmdnfamjdogogaaDoor
set_option linter.unusedSimpArgs false
set_option linter.unusedVariables false
open Go.RowKit

def StrTo (K : Nat) (v : Value) : Prop := ∃ t : ByteArray, v = .string t ∧ t.size ≤ K
def Strs (K b n : Nat) (w : World) : Prop := ∀ i, i < n → ∃ t : ByteArray, w.cell? ⟨b, i, none⟩ = some (.string t) ∧ t.size ≤ K
theorem Moved.strs {rb K b n : Nat} {w w' : World} (h : Moved rb w w') (hb : b ≠ rb) (k : Strs K b n w) : Strs K b n w' := fun i hi => by
  obtain ⟨t, h1, h2⟩ := k i hi
  exact ⟨t, h.cell (World.block_lt_of_cell? w _ h1) hb h1, h2⟩
set_option maxHeartbeats 1000000 in
theorem of_c (rb : Nat) (sv : Value) (p : Int) (K b n cap : Nat) (w : World) (hs : Src sv rb w) (h : Rd rb sv p w) (hp : 0 ≤ p ∧ p ≤ 1000000) (hn : 1 ≤ n ∧ n ≤ 1000) (hb : b ≠ rb) (hK : Strs K b n w) :
    Calls Tryd.prog 36 #[.pointer (some ⟨rb, 0, none⟩), .slice (some ⟨b, 0, none⟩) n cap] w (Drawn (StrTo K) 1 rb sv p w) := by
  go_enter Tryd.func36, Tryd.ntmps36
  go_wp2_with fail
  refine (pick_d rb sv p n w hs h hp ⟨by omega, by omega⟩).mono ?_
  rintro e W1 ⟨v, p1, ⟨k, rfl, k0, k1⟩, rfl, q0, q1, h1, -, m1⟩
  obtain ⟨j, rfl⟩ : ∃ j : Nat, k = (j : Int) := ⟨k.toNat, by omega⟩
  have hj : j < n := by omega
  obtain ⟨t, ht, ht2⟩ := m1.strs hb hK j hj
  go_wp2_with fail
  go_ret
  exact ⟨_, p1, ⟨t, rfl, ht2⟩, rfl, q0, q1, h1, hs.moved m1, m1⟩

theorem strs2 (w : World) (t : TypeId) : Strs 2 w.heap.size 2 (w.alloc (.cells #[.string ⟨#[48]⟩, .string ⟨#[49]⟩] t)) := by
  intro i hi
  match i, hi with
  | 0, _ => exact ⟨⟨#[48]⟩, by go_simp, by decide⟩
  | 1, _ => exact ⟨⟨#[49]⟩, by go_simp, by decide⟩
theorem strs7 (w : World) (t : TypeId) : Strs 2 w.heap.size 7 (w.alloc (.cells #[.string ⟨#[]⟩, .string ⟨#[48]⟩, .string ⟨#[48, 49]⟩, .string ⟨#[50]⟩, .string ⟨#[49, 32]⟩, .string ⟨#[48, 48]⟩, .string ⟨#[45, 49]⟩] t)) := by
  intro i hi
  match i, hi with
  | 0, _ => exact ⟨⟨#[]⟩, by go_simp, by decide⟩
  | 1, _ => exact ⟨⟨#[48]⟩, by go_simp, by decide⟩
  | 2, _ => exact ⟨⟨#[48, 49]⟩, by go_simp, by decide⟩
  | 3, _ => exact ⟨⟨#[50]⟩, by go_simp, by decide⟩
  | 4, _ => exact ⟨⟨#[49, 32]⟩, by go_simp, by decide⟩
  | 5, _ => exact ⟨⟨#[48, 48]⟩, by go_simp, by decide⟩
  | 6, _ => exact ⟨⟨#[45, 49]⟩, by go_simp, by decide⟩
def DrawRel (rb : Nat) (sv : Value) (p : Int) (n : Nat) (w : World) (m : Nat) (tv iv : Value) (wr : World) : Prop :=
  ∃ (i : Nat) (t : ByteArray) (p' : Int), i + m = n ∧ iv = .int .i64 i ∧ tv = .string t ∧ t.size ≤ 1 + 2 * i ∧ p ≤ p' ∧ p' ≤ p + i ∧ Rd rb sv p' wr ∧ Moved rb w wr
/-- what a draw of one text leaves -/
def OneText (w : World) (e : Ending) (w' : World) : Prop := ∃ t : ByteArray, e = .returned (.string t) ∧ t.size ≤ 400 ∧ Below w.heap.size w w'
end Go.Proofs.YtmdnfamjdogogaaDoor

/- Chapter 3: what points are, plain. No law is stated here. -/
import Derived.Test.YtlcafjdinjdllabPo
import Derived.Test.YtlcafjdinjdllabCut
import Derived.Test.YtlcafjdinjdllabGd
namespace Go.Proofs.Ytlcafjdinjdllab
set_option linter.unusedSimpArgs false
set_option linter.unusedVariables false
open Go.RowKit

def ptB (s : ByteArray) : Bool := cutB s && inB 1000000 (valX (toL (hdS s))) (valY (toL (hdS s)))
def ptR (k : FloatKind) (s : ByteArray) : Nat := whR k (pv k (toL (tlS s))) (valX (toL (hdS s)))
def ptI (k : FloatKind) (s : ByteArray) : Nat := whI k (pv k (toL (tlS s))) (valY (toL (hdS s)))
abbrev ptV (k : FloatKind) (s : ByteArray) : Value := .tuple #[.complex k (pickN (ptB s) (ptR k s)) (pickN (ptB s) (ptI k s)), .bool (ptB s)]
theorem ptV_yes {k : FloatKind} {s : ByteArray} (h : cutB s = true) (hi : inB 1000000 (valX (toL (hdS s))) (valY (toL (hdS s))) = true) :
    ptV k s = .tuple #[.complex k (whR k (pv k (toL (tlS s))) (valX (toL (hdS s)))) (whI k (pv k (toL (tlS s))) (valY (toL (hdS s)))), .bool true] := by
  have : ptB s = true := by unfold ptB; rw [h, hi]; rfl
  unfold ptV pickN; rw [this]; rfl
theorem ptV_no {k : FloatKind} {s : ByteArray} (h : cutB s = false ∨ inB 1000000 (valX (toL (hdS s))) (valY (toL (hdS s))) = false) :
    ptV k s = .tuple #[.complex k 0 0, .bool false] := by
  have : ptB s = false := by unfold ptB; rcases h with h | h <;> rw [h] <;> simp
  unfold ptV pickN; rw [this]; rfl
theorem bitW_int (k : FloatKind) {c : UInt8} (h : c.toNat = 48 ∨ c.toNat = 49) : bitW k c = floatOfInt k ((c.toNat : Int) - 48) := by
  have e : c = 48 ∨ c = 49 := by
    rcases h with h | h
    · exact .inl (UInt8.toNat_inj.1 (by rw [h]; rfl))
    · exact .inr (UInt8.toNat_inj.1 (by rw [h]; rfl))
  rcases e with rfl | rfl
  · exact (zero_word k).symm
  · exact (one_word k).symm
theorem drop_consB (T : ByteArray) (i : Nat) (h : i < T.size) : (toL T).drop i = T[i] :: (toL T).drop (i + 1) := by
  have h' : i < (toL T).length := by rw [toL_len]; exact h
  rw [List.drop_eq_getElem_cons h']
  congr 1
/-- what one place asks of the floats -/
theorem place_ops (k : FloatKind) {T : ByteArray} (hb : ∀ c ∈ toL T, bitC c = true) (hs : T.size ≤ 320) {i : Nat} (h : i < T.size) :
    ∃ r j, floatBits .add k (pv k ((toL T).drop (i + 1))).1 (floatOfInt k ((T[i].toNat : Int) - 48)) = some r ∧ floatBits .add k (pv k ((toL T).drop (i + 1))).2 0 = some j ∧
      Div k r j (pv k ((toL T).drop i)).1 (pv k ((toL T).drop i)).2 := by
  have hl : ((toL T).drop (i + 1)).length ≤ 320 := by rw [List.length_drop, toL_len]; omega
  obtain ⟨h1, h2, h3, -⟩ := pv_step (k := k) (c := T[i]) (B := ((toL T).drop (i + 1)).length) (by omega) (pv_pt k _ (by omega))
  have hbit : T[i].toNat = 48 ∨ T[i].toNat = 49 := (bitC_iff _).1 (hb _ (List.mem_of_getElem? (toL_get T i h)))
  rw [bitW_int k hbit] at h1
  rw [drop_consB T i h]
  exact ⟨_, _, h1, h2, h3⟩
theorem last_ops (k : FloatKind) {T : ByteArray} (hs : T.size ≤ 320) {X Y : Int} (hX : -1000000 ≤ X ∧ X ≤ 1000000) (hY : -1000000 ≤ Y ∧ Y ≤ 1000000) :
    floatBits .add k (pv k (toL T)).1 (floatOfInt k X) = some (whR k (pv k (toL T)) X) ∧ floatBits .add k (pv k (toL T)).2 (floatOfInt k Y) = some (whI k (pv k (toL T)) Y) ∧
    Pt k.format (un k) 1001000 (whR k (pv k (toL T)) X) (whI k (pv k (toL T)) Y) :=
  wh_ops ((pv_pt k (toL T) (by rw [toL_len]; omega)).mono (by rw [toL_len]; omega)) hX hY
def PtRel (k : FloatKind) (T : ByteArray) (W : World) (m : Nat) (z i : Value) (wr : World) : Prop :=
  m ≤ T.size ∧ i = .int .i64 ((m : Int) - 1) ∧ wr = W ∧ z = .complex k (pv k ((toL T).drop m)).1 (pv k ((toL T).drop m)).2
def PtRelI (k : FloatKind) (T : ByteArray) (w : World) (b : Nat) (X Y : Int) (m : Nat) (z i : Value) (wr : World) : Prop :=
  m ≤ T.size ∧ i = .int .i64 ((m : Int) - 1) ∧ Below w.heap.size w wr ∧ wr.cell? ⟨b, 0, none⟩ = some (.int .i64 X) ∧ wr.cell? ⟨b, 1, none⟩ = some (.int .i64 Y) ∧ z = .complex k (pv k ((toL T).drop m)).1 (pv k ((toL T).drop m)).2
theorem drop_end (T : ByteArray) : (toL T).drop T.size = [] := List.drop_of_length_le (by rw [toL_len]; exact Nat.le_refl _)
end Go.Proofs.Ytlcafjdinjdllab

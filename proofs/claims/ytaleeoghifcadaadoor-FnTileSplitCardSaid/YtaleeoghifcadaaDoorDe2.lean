/- Chapter 2, the model's side: digits as texts, leading zeros. -/
import Derived.Test.YtaleeoghifcadaaDoorDe
namespace Go.Proofs.YtaleeoghifcadaaDoor
set_option linter.unusedSimpArgs false
set_option linter.unusedVariables false
open Go.RowKit

theorem toL_from1 (t : ByteArray) : toL (t.extract 1 t.size) = (toL t).drop 1 := by
  rw [← bs_toL t]
  generalize toL t = l
  show toL ((ByteArray.mk l.toArray).extract 1 _) = _
  rw [ByteArray.extract_mk]
  simp [toL, bs, ByteArray.size]
  exact List.take_of_length_le (by simp)
def DoneRel (s : ByteArray) (w : World) (m : Nat) (v : Value) (wr : World) : Prop := ∃ t : ByteArray, v = .string t ∧ t.size ≤ m ∧ wr = w ∧ strip (toL t) = strip (toL s)
abbrev resD (l : List UInt8) : Value := .tuple #[.string (selS (vldL (strip l)) (strip l)), .bool (vldL (strip l))]
theorem resD_t {l : List UInt8} {t : ByteArray} (h : strip l = toL t) (hv : vldB t = true) : resD l = .tuple #[.string t, .bool true] := by
  unfold resD; rw [h, show vldL (toL t) = true from hv]; simp [selS, bs_toL]
theorem resD_f {l : List UInt8} {t : ByteArray} (h : strip l = toL t) (hv : vldB t = false) : resD l = .tuple #[.string ⟨#[]⟩, .bool false] := by
  unfold resD; rw [h, show vldL (toL t) = false from hv]; simp [selS, bs]
theorem strip_short {l : List UInt8} (h : l.length ≤ 1) : strip l = l := by
  cases l with
  | nil => rfl
  | cons c r =>
    cases r with
    | nil => rfl
    | cons d r => simp at h
theorem strip_cons48 {l : List UInt8} (h0 : 1 < l.length) (h : l[0]? = some 48) : strip (l.drop 1) = strip l := by
  cases l with
  | nil => simp at h0
  | cons c r =>
    cases r with
    | nil => simp at h0
    | cons d r =>
      simp at h
      subst h
      simp [strip]
theorem strip_keep {l : List UInt8} (h : l[0]? ≠ some 48) : strip l = l := by
  cases l with
  | nil => rfl
  | cons c r =>
    cases r with
    | nil => rfl
    | cons d r =>
      simp at h
      simp [strip, h]
end Go.Proofs.YtaleeoghifcadaaDoor

/- Chapter 3: number texts put together and taken apart. No law is stated here. -/
import Derived.Test.YtlcafjdinjdllabPx0
namespace Go.Proofs.Ytlcafjdinjdllab
set_option linter.unusedSimpArgs false
set_option linter.unusedVariables false
open Go.RowKit

theorem toL_app (a b : ByteArray) : toL (a ++ b) = toL a ++ toL b := by
  show (a ++ b).data.toList = _
  rw [ByteArray.data_append, Array.toList_append]
theorem toL_hd (s : ByteArray) : toL (hdS s) = (toL s).take (atP s) := by
  show toL (s.extract 0 (atP s)) = _
  rw [toL_extract, List.drop_zero]
theorem toL_tl (s : ByteArray) : toL (tlS s) = (toL s).drop (atP s + 1) := by
  show toL (s.extract (atP s + 1) s.size) = _
  rw [toL_extract, List.take_of_length_le (by rw [toL_len]; exact Nat.le_refl _)]
theorem split_at {s : ByteArray} (h : atP s < s.size) : toL s = toL (hdS s) ++ 46 :: toL (tlS s) := by
  have hl : atP s < (toL s).length := by rw [toL_len]; exact h
  have hg : (toL s)[atP s]? = some 46 := dotL_get hl
  rw [toL_hd, toL_tl]
  conv => lhs; rw [← List.take_append_drop (atP s) (toL s)]
  congr 1
  rw [List.drop_eq_getElem_cons hl]
  rw [List.getElem?_eq_getElem hl, Option.some.injEq] at hg
  rw [hg]
theorem nodot (s : ByteArray) : ∀ c ∈ toL (hdS s), c ≠ 46 := by
  intro c hc e
  subst e
  rw [toL_hd] at hc
  obtain ⟨i, hi, he⟩ := List.mem_iff_getElem.1 hc
  rw [List.length_take] at hi
  have : (toL s)[i]? = some 46 := by
    rw [List.getElem_take] at he
    rw [List.getElem?_eq_getElem (by omega), he]
  exact dotL_before (l := toL s) (by show i < atP s; omega) this
theorem dotL_app : ∀ {a : List UInt8} (r : List UInt8), (∀ c ∈ a, c ≠ 46) → dotL (a ++ 46 :: r) = a.length
  | [], r, _ => rfl
  | c :: a, r, h => by
    have hc : ¬ (c == 46) = true := by simpa using h c (by simp)
    show (if c == 46 then 0 else dotL (a ++ 46 :: r) + 1) = _
    rw [if_neg hc, dotL_app r (fun c hc => h c (by simp [hc]))]; rfl
theorem cut_of {s : ByteArray} {a r : List UInt8} (h : toL s = a ++ 46 :: r) (ha : ∀ c ∈ a, c ≠ 46) : atP s = a.length ∧ atP s < s.size ∧ toL (hdS s) = a ∧ toL (tlS s) = r := by
  have e : atP s = a.length := by unfold atP; rw [h]; exact dotL_app r ha
  have hs : s.size = a.length + (r.length + 1) := by rw [← toL_len, h, List.length_append, List.length_cons]
  refine ⟨e, by omega, ?_, ?_⟩
  · rw [toL_hd, e, h, List.take_left]
  · rw [toL_tl, e, h]
    have : (a ++ 46 :: r).drop (a.length + 1) = r := by
      rw [← List.drop_drop, List.drop_left]; rfl
    exact this
theorem onlyB_iff (s : ByteArray) : onlyB s = true ↔ ∀ c ∈ toL s, bitC c = true := ⟨onlyB_bits, onlyB_good⟩
/-- what is a number text, told by its lists -/
theorem cutB_iff {s : ByteArray} {a r : List UInt8} (h : toL s = a ++ 46 :: r) (ha : ∀ c ∈ a, c ≠ 46) : cutB s = true ↔ (∀ c ∈ r, bitC c = true) ∧ vldL a = true ∧ r.length ≤ 320 := by
  obtain ⟨h1, h2, h3, h4⟩ := cut_of h ha
  have ht : (tlS s).size = r.length := by rw [← toL_len, h4]
  unfold cutB dotB
  simp only [Bool.and_eq_true, decide_eq_true_eq]
  rw [onlyB_iff, h4, ht]
  unfold vldB
  rw [h3]
  exact ⟨fun h => ⟨h.1.2, h.2.1, h.2.2⟩, fun h => ⟨⟨h2, h.1⟩, h.2.1, h.2.2⟩⟩
theorem hd_same {s t : ByteArray} {a r q : List UInt8} (hs : toL s = a ++ 46 :: r) (ht : toL t = a ++ 46 :: q) (ha : ∀ c ∈ a, c ≠ 46) : hdS t = hdS s := by
  apply toL_ext
  rw [(cut_of hs ha).2.2.1, (cut_of ht ha).2.2.1]
/-- two number texts with the same digits ahead of the point -/
theorem ptB_same {s t : ByteArray} (h : hdS t = hdS s) (hs : cutB s = true) (ht : cutB t = true) : ptB t = ptB s := by
  unfold ptB; rw [h, hs, ht]
theorem pv_nought (k : FloatKind) : pv k [48] = (0, 0) := by cases k <;> decide +kernel
theorem pv_snoc0 (k : FloatKind) : ∀ l : List UInt8, pv k (l ++ [48]) = pv k l
  | [] => pv_nought k
  | c :: l => by
    have ih := pv_snoc0 k l
    rw [List.cons_append]
    simp only [pv, ih]
theorem pt_fin' (k : FloatKind) {s : ByteArray} (h : ptB s = true) : Pt k.format (un k) 1001000 (ptR k s) (ptI k s) := by
  unfold ptB at h
  rw [Bool.and_eq_true] at h
  obtain ⟨h, hi⟩ := h
  obtain ⟨x1, x2, y1, y2⟩ := inB_le hi
  exact (last_ops k (cutB_facts h).2.2.2 ⟨x1, x2⟩ ⟨y1, y2⟩).2.2
end Go.Proofs.Ytlcafjdinjdllab

/- Chapter 2, the program's side: the expansion of a row of digits; DigitsOf. -/
import Derived.Test.YtlcafjdinjdllacDoorDg
namespace Go.Proofs.YtlcafjdinjdllacDoor
set_option linter.unusedSimpArgs false
set_option linter.unusedVariables false
open Go.RowKit Go.Lib Go.Sort

def TrimRel (s : ByteArray) (w : World) (m : Nat) (v : Value) (wr : World) : Prop := ∃ t : ByteArray, v = .string t ∧ t.size ≤ m ∧ wr = w ∧ drop0 (toL t) = drop0 (toL s)
theorem drop0_cons48 {l : List UInt8} (h : l[0]? = some 48) : drop0 (l.drop 1) = drop0 l := by
  cases l with
  | nil => simp at h
  | cons c r => simp at h; subst h; simp [drop0]
theorem drop0_keep {l : List UInt8} (h : l[0]? ≠ some 48) : drop0 l = l := by
  cases l with
  | nil => rfl
  | cons c r => simp at h; simp [drop0, h]
/-- the expansion of digits that stand from the last one on -/
def exV (l : List UInt8) : Value := resD (if l = [] then [48] else l.reverse)
theorem exV_shape (l : List UInt8) : ∃ a b, exV l = .tuple #[.string a, .bool b] := ⟨_, _, rfl⟩
theorem exV_none {l : List UInt8} (h : ∀ c ∈ l, bitC c = true) (h0 : drop0 l.reverse = []) : exV l = .tuple #[.string ⟨#[48]⟩, .bool true] := by
  unfold exV
  by_cases hl : l = []
  · subst hl; rfl
  · rw [if_neg hl]
    have hs : strip l.reverse = [48] := by rw [strip_drop0 (by simpa using hl), if_pos h0]
    unfold resD
    rw [hs]; rfl
theorem exV_some {l : List UInt8} (h : ∀ c ∈ l, bitC c = true) (h0 : drop0 l.reverse ≠ []) : exV l = .tuple #[.string (selS (decide ((drop0 l.reverse).length ≤ 50)) (drop0 l.reverse)), .bool (decide ((drop0 l.reverse).length ≤ 50))] := by
  unfold exV
  have hl : l ≠ [] := by rintro rfl; exact h0 rfl
  rw [if_neg hl]
  have hs : strip l.reverse = drop0 l.reverse := by rw [strip_drop0 (by simpa using hl), if_neg h0]
  unfold resD
  rw [vldL_strip (by intro c hc; exact h c (by simpa using hc)) (by simpa using hl), hs]

theorem own_holds {w : World} {B g cap : Nat} {l : List UInt8} (h : w.ownsRow B 5 1 (.slice (some ⟨g, 0, none⟩) l.length cap) l.length (l.map encB)) : Holds encB w g 0 l.toArray := by
  intro j hj
  have hj' : j < l.length := by simpa using hj
  rw [Nat.zero_add]
  refine ⟨?_, h.frozenAt j⟩
  rw [h.cellAt j (by omega)]
  simp [List.getElem?_map, List.getElem?_eq_getElem hj', getElem!_pos, hj']
theorem putRow_grown {w : World} {n g : Nat} {d : Array UInt8} : w.grownBy (putRow encB (Sort.ahead w n) g 0 d) (some g) :=
  ⟨rfl, rfl, rfl, by rw [size_putRow]; exact Nat.le_refl _, fun k _ hk => by
    show (w.heap.modify g _)[k]? = _
    rw [Array.getElem?_modify, if_neg (fun e => hk (by rw [e]))]⟩

/-- the world behind the exchange -/
def Turned (l : List UInt8) (v : Value) (w : World) (W : World) : Prop :=
  (convert 34 9 v).run Tryd.prog W = .ok (.string (bs l.reverse)) W ∧ w.grownBy W v.ownBlock
theorem conv_none (w : World) : (convert 34 9 (.slice none 0 0)).run Tryd.prog w = .ok (.string ⟨#[]⟩) w := by
  rw [run_convert_bytes_string w _ _ _ none 0 0 Tryd.underlying34 Tryd.underlying5 Tryd.underlying9]
  rfl
end Go.Proofs.YtlcafjdinjdllacDoor

/- Where curves of words of turns end. Plain mathematics, and one comparison; no law is stated here. -/
import Derived.Test.YtljmmmkehieboaaDoorCe
namespace Go.Proofs.YtljmmmkehieboaaDoor
set_option linter.unusedSimpArgs false
set_option linter.unusedVariables false
open Go.RowKit Ieee

theorem addP_assoc (a b c : Int × Int) : addP (addP a b) c = addP a (addP b c) := by unfold addP; simp only [Int.add_assoc]
theorem trn_add (c : UInt8) (x y : Int × Int) : trn c (addP x y) = addP (trn c x) (trn c y) := by
  unfold trn addP
  split <;> (apply Prod.ext <;> dsimp only <;> omega)
theorem trn_comm (c d : UInt8) (z : Int × Int) : trn c (trn d z) = trn d (trn c z) := by
  unfold trn
  split <;> split <;> simp
theorem trn_oth {c : UInt8} (h : wdC c = true) (z : Int × Int) : trn c (trn (oth c) z) = z := by
  rcases wdC_or h with rfl | rfl
  · show trn 108 (trn 114 z) = z
    simp [trn]
  · show trn 114 (trn 108 z) = z
    simp [trn]
def rot (w : List UInt8) (z : Int × Int) : Int × Int := w.foldl (fun z c => trn c z) z
theorem rot_cons (c : UInt8) (w : List UInt8) (z : Int × Int) : rot (c :: w) z = rot w (trn c z) := rfl
theorem rot_add (w : List UInt8) : ∀ x y, rot w (addP x y) = addP (rot w x) (rot w y) := by
  induction w with
  | nil => intro x y; rfl
  | cons c w ih => intro x y; rw [rot_cons, trn_add, ih]; rfl
theorem rot_trn (w : List UInt8) (c : UInt8) : ∀ z, rot w (trn c z) = trn c (rot w z) := by
  induction w with
  | nil => intro z; rfl
  | cons d w ih => intro z; rw [rot_cons, trn_comm, ih]; rfl
theorem rot_back (w : List UInt8) (hw : ∀ c ∈ w, wdC c = true) : ∀ z, rot w (rot (backL w) z) = z := by
  induction w with
  | nil => intro z; rfl
  | cons c w ih =>
    intro z
    have e : rot (backL (c :: w)) z = trn (oth c) (rot (backL w) z) := by
      rw [backL_cons]; unfold rot; rw [List.foldl_append]; rfl
    rw [e, rot_cons, trn_oth (hw c (by simp))]
    exact ih (fun d hd => hw d (by simp [hd])) z
theorem stP_cons (c : UInt8) (b : List UInt8) : stP (c :: b) = trn c (stP b) := by
  induction b using rev_ind with
  | h0 => rfl
  | h1 l d ih => rw [← List.cons_append, stP_snoc, ih, stP_snoc, trn_comm]
theorem psP_cons (c : UInt8) (b : List UInt8) : psP (c :: b) = addP (1, 0) (trn c (psP b)) := by
  induction b using rev_ind with
  | h0 => rfl
  | h1 l d ih => rw [← List.cons_append, psP_snoc, ih, stP_cons, psP_snoc, trn_add, trn_comm d c, addP_assoc]
theorem psP_mid (a : List UInt8) (c : UInt8) (b : List UInt8) : psP (a ++ c :: b) = addP (psP a) (rot a (trn c (psP b))) := by
  induction a with
  | nil => rw [List.nil_append, psP_cons]; rfl
  | cons d a ih => rw [List.cons_append, psP_cons, ih, trn_add, ← addP_assoc, ← psP_cons, ← rot_trn]; rfl
theorem psP_back (w : List UInt8) (hw : ∀ c ∈ w, wdC c = true) : rot w (psP (backL w)) = psP w := by
  induction w with
  | nil => rfl
  | cons d w ih =>
    have hw' : ∀ c ∈ w, wdC c = true := fun c hc => hw c (by simp [hc])
    rw [backL_cons, psP_mid, rot_add, psP_cons, rot_cons, rot_cons, rot_trn, ih hw']
    have e : rot w (trn d (rot (backL w) (trn (oth d) (psP [])))) = (1, 0) := by
      rw [← rot_trn (backL w), trn_oth (hw d (by simp)), rot_back w hw']; rfl
    rw [e]
    unfold addP
    simp only [Int.add_comm]
theorem enS_trn (c : UInt8) (z : Int × Int) : enS c z = addP z (trn c z) := by
  unfold enS trn addP
  by_cases h : c = 108
  · rw [if_pos h, if_pos h]; apply Prod.ext <;> dsimp only <;> omega
  · rw [if_neg h, if_neg h]; apply Prod.ext <;> dsimp only <;> omega
/-- the end of the curve of a word of turns -/
theorem psP_turns (cs : List UInt8) (hw : ∀ c ∈ cs, wdC c = true) : psP (turnsL cs) = endP cs := by
  induction cs using rev_ind with
  | h0 => rfl
  | h1 l c ih =>
    have hw' : ∀ d ∈ l, wdC d = true := fun d hd => hw d (by simp [hd])
    rw [turnsL_snoc, List.append_assoc, List.singleton_append, psP_mid, rot_trn, psP_back _ (turnsL_wd l hw'), ih hw', endP_snoc, enS_trn]
theorem enS_comm (c d : UInt8) (z : Int × Int) : enS c (enS d z) = enS d (enS c z) := by
  unfold enS
  split <;> split <;> (apply Prod.ext <;> dsimp only <;> omega)
theorem fold_push (l : List UInt8) (c : UInt8) : ∀ z, l.foldl (fun z c => enS c z) (enS c z) = enS c (l.foldl (fun z c => enS c z) z) := by
  induction l with
  | nil => intro z; rfl
  | cons d l ih => intro z; simp only [List.foldl_cons]; rw [enS_comm, ih]
/-- .. is that of the creases in the opposite order -/
theorem endP_rev (l : List UInt8) : endP l.reverse = endP l := by
  unfold endP
  generalize ((1, 0) : Int × Int) = z
  induction l with
  | nil => rfl
  | cons c l ih => rw [List.reverse_cons, List.foldl_append, ih, List.foldl_cons, List.foldl_cons, List.foldl_nil, fold_push]
theorem run_ceqE {P : Program} (w : World) (t : TypeId) (d : Int × Int) (h : d.1.natAbs ≤ 2000000 ∧ d.2.natAbs ≤ 2000000) : (binOp .eql t (encP d) (encP d)).run P w = .ok (.bool true) w := by
  have e := run_ceqS (P := P) w (k := .f32) t (decide (d.1 < 0)) (decide (d.2 < 0)) (decide (d.1 < 0)) (decide (d.2 < 0)) (a := d.1.natAbs) (b := d.2.natAbs) (c := d.1.natAbs) (d := d.2.natAbs) h.1 h.2 h.1 h.2
  rw [own_sg, own_sg, decide_eq_true rfl, decide_eq_true rfl] at e
  exact e
end Go.Proofs.YtljmmmkehieboaaDoor

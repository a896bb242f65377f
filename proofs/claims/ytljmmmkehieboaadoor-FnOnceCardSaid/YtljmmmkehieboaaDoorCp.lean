/- Chapter 5: the curve of a word is a path. No law is stated here. -/
import Derived.Test.YtljmmmkehieboaaDoorCwi
import Derived.Test.YtljmmmkehieboaaDoorCm
namespace Go.Proofs.YtljmmmkehieboaaDoor
set_option linter.unusedSimpArgs false
set_option linter.unusedVariables false
open Go.RowKit Ieee

theorem crv_stepO {l : List UInt8} {k : Nat} (h : k ≤ l.length) : stpZ (crvL l) k = stP (l.take k) := by
  have hk : k + 1 < (crvL l).length := by rw [crvL_len]; omega
  unfold stpZ
  rw [crvL_succ h]
  cases k with
  | zero => rw [crvL_zero, List.take_zero]; rfl
  | succ k =>
    rw [crvL_succ (by omega)]
    have hl : l[k]? = some l[k] := List.getElem?_eq_getElem (by omega)
    rw [take_snocL hl, psP_snoc, stP_snoc]
    unfold subP addP
    simp only [Option.getD_some]
    apply Prod.ext <;> dsimp only <;> omega
theorem sqN_trnO (c : UInt8) (z : Int × Int) : sqN (trn c z) = sqN z := by
  unfold sqN trn
  split <;> dsimp only
  · rw [Int.neg_mul_neg]; omega
  · rw [Int.neg_mul_neg]; omega
theorem stP_sqO (l : List UInt8) : sqN (stP l) = 1 := by
  induction l using rev_ind with
  | h0 => rfl
  | h1 l c ih => rw [stP_snoc, sqN_trnO]; exact ih
theorem crv_pathO {l : List UInt8} (h : l.length ≤ 1023) : PathP (crvL l) := by
  refine ⟨by rw [crvL_len]; omega, by rw [crvL_len]; omega, fun j a b ha hb => ?_⟩
  have hj := (List.getElem?_eq_some_iff.1 hb).1
  rw [crvL_len] at hj
  have e := crv_stepO (l := l) (k := j) (by omega)
  unfold stpZ at e
  rw [ha, hb] at e
  unfold nbr
  simp only [Option.getD_some] at e
  rw [e, stP_sqO]; rfl
end Go.Proofs.YtljmmmkehieboaaDoor

/- Chapter 3's powers lead back: a table of their values, gone through once. No law is stated here. -/
import Derived.Test.YtfodfapaidfhbabPt
import Derived.Test.YtfodfapaidfhbabTb
namespace Go.Proofs.Ytfodfapaidfhbab
set_option linter.unusedSimpArgs false
set_option linter.unusedVariables false
open Ieee
/-- the units that a word stands for -/
def valW (x : Nat) : Int := match double.read x with
  | .number s m e => signed s m (e + 1074).toNat
  | _ => 0
theorem valW_fl {x : Nat} {s : Bool} {V : Nat} (h : Fl double x s V) : valW x = sg s V := by
  obtain ⟨m, k, h1, rfl, _⟩ := h
  unfold valW
  rw [h1]
  show signed s m (double.leastPlace + (k : Int) + 1074).toNat = _
  rw [least_d, show (-1074 + (k : Int) + 1074).toNat = k by omega, signed_sg]
def val2 (w : Nat × Nat) : Int × Int := (valW w.1, valW w.2)
def chkBack (_k : Nat) (_z w : Nat × Nat) : Bool := tb (val2 (stp .f64 w)) == val2 w
theorem back_tab : tabRun chkBack 320 0 (pw .f32 0) (pw .f64 0) = true := by decide +kernel
theorem back_at {k : Nat} (h : k < 320) : tb (val2 (pw .f64 (k + 1))) = val2 (pw .f64 k) := by
  have := tab_all back_tab k h
  rw [Nat.zero_add] at this
  exact beq_iff_eq.1 this
theorem pw_vl (n : Nat) : Vl2 .f64 (pw .f64 n).1 (pw .f64 n).2 (val2 (pw .f64 n)) ∧ Okv2 .f64 (val2 (pw .f64 n)) := by
  obtain ⟨s, V, t, W, h1, h2, h3, h4⟩ := pw_pt .f64 n
  have e1 := valW_fl h1
  have e2 := valW_fl h2
  refine ⟨⟨⟨s, V, h1, e1.symm⟩, t, W, h2, e2.symm⟩, ⟨?_, ?_⟩, ?_, ?_⟩
  · show Rep double (valW _).natAbs; rw [e1, sg_abs]; exact fl_rep h1
  · show (valW _).natAbs ≤ _; rw [e1, sg_abs]; exact Nat.le_trans h3 (Nat.mul_le_mul_right _ (by omega))
  · show Rep double (valW _).natAbs; rw [e2, sg_abs]; exact fl_rep h2
  · show (valW _).natAbs ≤ _; rw [e2, sg_abs]; exact Nat.le_trans h4 (Nat.mul_le_mul_right _ (by omega))
theorem back_all {t : Nat} (ht : t ≤ 320) : ∀ j, j ≤ t → tbI j (val2 (pw .f64 t)) = val2 (pw .f64 (t - j))
  | 0, _ => rfl
  | j + 1, h => by
    show tb (tbI j _) = _
    rw [back_all ht j (by omega), show t - j = (t - (j + 1)) + 1 by omega, back_at (by omega)]
theorem one_val : Vl .f64 4607182418800017408 (val2 (pw .f64 0)).1 ∧ Vl .f64 0 (val2 (pw .f64 0)).2 := (pw_vl 0).1
theorem pw_lt64 (t : Nat) : (pw .f64 t).1 < 18446744073709551616 := by
  cases t with
  | zero => decide
  | succ t =>
    obtain ⟨d, n, e, ⟨h1, h2, h3, h4, h5⟩, -⟩ := pw_div .f64 t
    exact Format.div_lt _ h2
end Go.Proofs.Ytfodfapaidfhbab

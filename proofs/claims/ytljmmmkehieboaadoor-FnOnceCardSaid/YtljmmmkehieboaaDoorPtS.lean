/- Chapter 5: CurvePath, the model's side. No law is stated here. -/
import Derived.Test.YtljmmmkehieboaaDoorPth
import Derived.Test.YtljmmmkehieboaaDoorReg
import Derived.Deep.Cut
namespace Go.Proofs.YtljmmmkehieboaaDoor
set_option linter.unusedSimpArgs false
set_option linter.unusedVariables false
open Go.RowKit Ieee

theorem run_ceqP {P : Program} (w : World) (t : TypeId) {d e : Int × Int} (hd : Bp 100000 d) (he : Bp 100000 e) : (binOp .eql t (encP d) (encP e)).run P w = .ok (.bool (decide (d.1 = e.1) && decide (d.2 = e.2))) w := by
  have h := run_ceqS (P := P) w (k := .f32) t (decide (d.1 < 0)) (decide (d.2 < 0)) (decide (e.1 < 0)) (decide (e.2 < 0)) (a := d.1.natAbs) (b := d.2.natAbs) (c := e.1.natAbs) (d := e.2.natAbs) (Nat.le_trans hd.1 (by omega)) (Nat.le_trans hd.2 (by omega)) (Nat.le_trans he.1 (by omega)) (Nat.le_trans he.2 (by omega))
  rw [own_sg, own_sg, own_sg, own_sg] at h
  exact h
def eqP (d e : Int × Int) : Bool := decide (d.1 = e.1) && decide (d.2 = e.2)
theorem encm10 : encP (-1, 0) = .complex .f32 3212836864 0 := by unfold encP px py; rw [w0s, wm1s]
theorem enc01 : encP (0, 1) = .complex .f32 0 1065353216 := by unfold encP px py; rw [w0s, w1s]
theorem enc0m1 : encP (0, -1) = .complex .f32 0 3212836864 := by unfold encP px py; rw [w0s, wm1s]
theorem eqP_iff {d e : Int × Int} : eqP d e = true ↔ d = e := by
  unfold eqP
  rw [Bool.and_eq_true, decide_eq_true_eq, decide_eq_true_eq]
  exact ⟨fun h => Prod.ext h.1 h.2, fun h => by rw [h]; exact ⟨rfl, rfl⟩⟩
theorem unit_cases {d : Int × Int} : sqN d = 1 ↔ (d = (1, 0) ∨ d = (-1, 0) ∨ d = (0, 1) ∨ d = (0, -1)) := by
  obtain ⟨x, y⟩ := d
  constructor
  · intro h
    unfold sqN at h
    dsimp only at h
    have h1 : ((x.natAbs * x.natAbs : Nat) : Int) = x * x := by rw [Int.natAbs_mul_self]
    have h2 : ((y.natAbs * y.natAbs : Nat) : Int) = y * y := by rw [Int.natAbs_mul_self]
    have h3 : x.natAbs * x.natAbs + y.natAbs * y.natAbs = 1 := by omega
    rcases Nat.lt_trichotomy x.natAbs 1 with a | a | a
    · have ha : x.natAbs = 0 := by omega
      rw [ha] at h3
      have : y.natAbs = 1 := by
        rcases Nat.lt_trichotomy y.natAbs 1 with b | b | b
        · rw [show y.natAbs = 0 by omega] at h3; omega
        · exact b
        · have := Nat.mul_le_mul b b; omega
      simp only [Prod.mk.injEq]; omega
    · rw [a] at h3
      have : y.natAbs = 0 := by
        rcases Nat.eq_zero_or_pos y.natAbs with b | b
        · exact b
        · have := Nat.mul_le_mul b b; omega
      simp only [Prod.mk.injEq]; omega
    · have := Nat.mul_le_mul a a; omega
  · rintro (h | h | h | h) <;> (rw [h]; rfl)
end Go.Proofs.YtljmmmkehieboaaDoor

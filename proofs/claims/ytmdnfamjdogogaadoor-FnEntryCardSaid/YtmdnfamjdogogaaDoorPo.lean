/- Chapter 3: division by the base and powers, of both sides. -/
import Derived.Test.YtmdnfamjdogogaaDoorDa
import Derived.Test.YtmdnfamjdogogaaDoorPv
import Derived.Laws.ComplexArith
namespace Go.Proofs.YtmdnfamjdogogaaDoor
set_option linter.unusedSimpArgs false
set_option linter.unusedVariables false
open Go.RowKit

theorem convP_c {t u : TypeId} {k l : FloatKind} {a b c d : Nat} (ht : Tryd.prog.underlying t = some (.complex k)) (hu : Tryd.prog.underlying u = some (.complex l)) (h1 : floatToFloatBits k a l = some c) (h2 : floatToFloatBits k b l = some d) (w : World) :
    (convert t u (.complex k a b)).run Tryd.prog w = .ok (.complex l c d) w :=
  run_convert_complex (P := Tryd.prog) w t u k l a b c d (by rw [ht]; rfl) hu (by simp [cConvBits, h1, h2])
theorem sum_c {t : TypeId} {o : BinOp} {k : FloatKind} {a b c d r i : Nat} (ho : o = .add ∨ o = .sub) (h1 : floatBits o k a c = some r) (h2 : floatBits o k b d = some i) (w : World) :
    (binOp o t (.complex k a b) (.complex k c d)).run Tryd.prog w = .ok (.complex k r i) w :=
  run_complex_sum (P := Tryd.prog) w o ho t k a b c d r i (by simp [cSumBits, h1, h2])
theorem conv_same (k : FloatKind) (a : Nat) : floatToFloatBits k a k = some a := by simp [floatToFloatBits]
/-! ### powers -/
def pickN (b : Bool) (x : Nat) : Nat := if b then x else 0
abbrev powV (k : FloatKind) (n : Int) : Value := .tuple #[.complex k (pickN (inR 0 320 n) (pw k n.toNat).1) (pickN (inR 0 320 n) (pw k n.toNat).2), .bool (inR 0 320 n)]
theorem powV_no {k : FloatKind} {n : Int} (h : inR 0 320 n = false) : powV k n = .tuple #[.complex k 0 0, .bool false] := by unfold powV pickN; rw [h]; rfl
theorem powV_yes {k : FloatKind} {n : Int} (h : inR 0 320 n = true) : powV k n = .tuple #[.complex k (pw k n.toNat).1 (pw k n.toNat).2, .bool true] := by unfold powV pickN; rw [h]; rfl
def PwRel (k : FloatKind) (w : World) (t : Nat) (m : Nat) (z c : Value) (wr : World) : Prop := ∃ j : Nat, j + m = t ∧ wr = w ∧ c = .int .i64 j ∧ z = .complex k (pw k j).1 (pw k j).2
end Go.Proofs.YtmdnfamjdogogaaDoor

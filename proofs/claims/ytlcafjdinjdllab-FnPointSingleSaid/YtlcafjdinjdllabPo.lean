/- Chapter 3: division by the base and powers, of both sides. -/
import Derived.Test.YtlcafjdinjdllabDa
import Derived.Test.YtlcafjdinjdllabPv
import Derived.Laws.ComplexArith
namespace Go.Proofs.Ytlcafjdinjdllab
set_option linter.unusedSimpArgs false
set_option linter.unusedVariables false
open Go.RowKit

theorem sSingle_c {x y r i : Nat} (w : World) (h : Div .f32 x y r i) : Calls Try.prog 48 #[.complex .f32 x y] w fun e w' => e = .returned (.complex .f32 r i) ∧ w = w' := by
  obtain ⟨d, n, e, ⟨h1, h2, h3, h4, h5⟩, -⟩ := h
  have h2' : floatBits .quo .f32 d 1073741824 = some r := h2
  have h5' : floatBits .quo .f32 e 1073741824 = some i := h5
  have f1 := fun w => run_float_arith (P := Try.prog) w .sub 64 .f32 y x d h1
  have f2 := fun w => run_float_arith (P := Try.prog) w .quo 64 .f32 d _ r h2'
  have f3 := fun w => run_float_arith (P := Try.prog) w .sub 64 .f32 0 x n h3
  have f4 := fun w => run_float_arith (P := Try.prog) w .sub 64 .f32 n y e h4
  have f5 := fun w => run_float_arith (P := Try.prog) w .quo 64 .f32 e _ i h5'
  clear h1 h2 h2' h3 h4 h5 h5'
  go_enter Try.func48, Try.ntmps48
  go_wp2
  go_ret
  exact ⟨rfl, rfl⟩
theorem sWide_c {x y r i : Nat} (w : World) (h : Div .f64 x y r i) : Calls Try.prog 46 #[.complex .f64 x y] w fun e w' => e = .returned (.complex .f64 r i) ∧ w = w' := by
  obtain ⟨d, n, e, ⟨h1, h2, h3, h4, h5⟩, -⟩ := h
  have h2' : floatBits .quo .f64 d 4611686018427387904 = some r := h2
  have h5' : floatBits .quo .f64 e 4611686018427387904 = some i := h5
  have f1 := fun w => run_float_arith (P := Try.prog) w .sub 41 .f64 y x d h1
  have f2 := fun w => run_float_arith (P := Try.prog) w .quo 41 .f64 d _ r h2'
  have f3 := fun w => run_float_arith (P := Try.prog) w .sub 41 .f64 0 x n h3
  have f4 := fun w => run_float_arith (P := Try.prog) w .sub 41 .f64 n y e h4
  have f5 := fun w => run_float_arith (P := Try.prog) w .quo 41 .f64 e _ i h5'
  clear h1 h2 h2' h3 h4 h5 h5'
  go_enter Try.func46, Try.ntmps46
  go_wp2
  go_ret
  exact ⟨rfl, rfl⟩
theorem conv_c {t u : TypeId} {k l : FloatKind} {a b c d : Nat} (ht : Try.prog.underlying t = some (.complex k)) (hu : Try.prog.underlying u = some (.complex l)) (h1 : floatToFloatBits k a l = some c) (h2 : floatToFloatBits k b l = some d) (w : World) :
    (convert t u (.complex k a b)).run Try.prog w = .ok (.complex l c d) w :=
  run_convert_complex (P := Try.prog) w t u k l a b c d (by rw [ht]; rfl) hu (by simp [cConvBits, h1, h2])
theorem sum_c {t : TypeId} {o : BinOp} {k : FloatKind} {a b c d r i : Nat} (ho : o = .add ∨ o = .sub) (h1 : floatBits o k a c = some r) (h2 : floatBits o k b d = some i) (w : World) :
    (binOp o t (.complex k a b) (.complex k c d)).run Try.prog w = .ok (.complex k r i) w :=
  run_complex_sum (P := Try.prog) w o ho t k a b c d r i (by simp [cSumBits, h1, h2])
theorem conv_same (k : FloatKind) (a : Nat) : floatToFloatBits k a k = some a := by simp [floatToFloatBits]
set_option maxHeartbeats 1000000 in
theorem iSingle_c {x y r i : Nat} (w : World) (h : Div .f32 x y r i) : Calls Try.prog 62 #[.complex .f32 x y] w fun e w' => e = .returned (.complex .f32 r i) ∧ w = w' := by
  obtain ⟨d, n, e, -, h⟩ := h
  obtain ⟨X, Y, N, y', n', D, E, R, I, h1, h2, h3, h4, h5, h6, h7, h8, h9, h10, h11, h12, h13⟩ := h rfl
  have f1 := conv_c Try.underlying28 Try.underlying25 h1 h2
  have f2 := fun w => run_float_arith (P := Try.prog) w .sub 41 .f64 0 X N h3
  have f3 := conv_c Try.underlying25 Try.underlying28 h4 h5
  have f4 := sum_c (t := 28) (.inr rfl) h6 h7
  have f5 := conv_c Try.underlying28 Try.underlying25 h8 h9
  have f6 := fun w => run_float_arith (P := Try.prog) w .quo 41 .f64 D _ R h10
  have f7 := fun w => run_float_arith (P := Try.prog) w .quo 41 .f64 E _ I h11
  have f8 := conv_c Try.underlying25 Try.underlying28 h12 h13
  clear h1 h2 h3 h4 h5 h6 h7 h8 h9 h10 h11 h12 h13
  go_enter Try.func62, Try.ntmps62
  go_wp2
  go_ret
  exact ⟨rfl, rfl⟩
set_option maxHeartbeats 1000000 in
theorem iWide_c {x y r i : Nat} (w : World) (h : Div .f64 x y r i) : Calls Try.prog 59 #[.complex .f64 x y] w fun e w' => e = .returned (.complex .f64 r i) ∧ w = w' := by
  obtain ⟨d, n, e, ⟨h1, h2, h3, h4, h5⟩, -⟩ := h
  have h2' : floatBits .quo .f64 d 4611686018427387904 = some r := h2
  have h5' : floatBits .quo .f64 e 4611686018427387904 = some i := h5
  have f1 := conv_c Try.underlying25 Try.underlying25 (conv_same .f64 x) (conv_same .f64 y)
  have f2 := fun w => run_float_arith (P := Try.prog) w .sub 41 .f64 0 x n h3
  have f3 := conv_c Try.underlying25 Try.underlying25 (conv_same .f64 y) (conv_same .f64 n)
  have f4 := sum_c (t := 25) (.inr rfl) h1 h4
  have f5 := conv_c Try.underlying25 Try.underlying25 (conv_same .f64 d) (conv_same .f64 e)
  have f6 := fun w => run_float_arith (P := Try.prog) w .quo 41 .f64 d _ r h2'
  have f7 := fun w => run_float_arith (P := Try.prog) w .quo 41 .f64 e _ i h5'
  have f8 := conv_c Try.underlying25 Try.underlying25 (conv_same .f64 r) (conv_same .f64 i)
  clear h1 h2 h2' h3 h4 h5 h5'
  go_enter Try.func59, Try.ntmps59
  go_wp2
  go_ret
  exact ⟨rfl, rfl⟩

/-! ### powers -/
def pickN (b : Bool) (x : Nat) : Nat := if b then x else 0
abbrev powV (k : FloatKind) (n : Int) : Value := .tuple #[.complex k (pickN (inR 0 320 n) (pw k n.toNat).1) (pickN (inR 0 320 n) (pw k n.toNat).2), .bool (inR 0 320 n)]
theorem powV_no {k : FloatKind} {n : Int} (h : inR 0 320 n = false) : powV k n = .tuple #[.complex k 0 0, .bool false] := by unfold powV pickN; rw [h]; rfl
theorem powV_yes {k : FloatKind} {n : Int} (h : inR 0 320 n = true) : powV k n = .tuple #[.complex k (pw k n.toNat).1 (pw k n.toNat).2, .bool true] := by unfold powV pickN; rw [h]; rfl
def PwRel (k : FloatKind) (w : World) (t : Nat) (m : Nat) (z c : Value) (wr : World) : Prop := ∃ j : Nat, j + m = t ∧ wr = w ∧ c = .int .i64 j ∧ z = .complex k (pw k j).1 (pw k j).2
end Go.Proofs.Ytlcafjdinjdllab

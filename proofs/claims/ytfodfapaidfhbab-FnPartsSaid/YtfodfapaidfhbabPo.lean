/- Chapter 3: division by the base and powers, of both sides. -/
import Derived.Test.YtfodfapaidfhbabDa
import Derived.Test.YtfodfapaidfhbabPv
import Derived.Laws.ComplexArith
namespace Go.Proofs.Ytfodfapaidfhbab
set_option linter.unusedSimpArgs false
set_option linter.unusedVariables false
open Go.RowKit

theorem sSingle_c {x y r i : Nat} (w : World) (h : Div .f32 x y r i) : Calls Try.prog 40 #[.complex .f32 x y] w fun e w' => e = .returned (.complex .f32 r i) ∧ w = w' := by
  obtain ⟨d, n, e, ⟨h1, h2, h3, h4, h5⟩, -⟩ := h
  have h2' : floatBits .quo .f32 d 1073741824 = some r := h2
  have h5' : floatBits .quo .f32 e 1073741824 = some i := h5
  have f1 := fun w => run_float_arith (P := Try.prog) w .sub 41 .f32 y x d h1
  have f2 := fun w => run_float_arith (P := Try.prog) w .quo 41 .f32 d _ r h2'
  have f3 := fun w => run_float_arith (P := Try.prog) w .sub 41 .f32 0 x n h3
  have f4 := fun w => run_float_arith (P := Try.prog) w .sub 41 .f32 n y e h4
  have f5 := fun w => run_float_arith (P := Try.prog) w .quo 41 .f32 e _ i h5'
  clear h1 h2 h2' h3 h4 h5 h5'
  go_enter Try.func40, Try.ntmps40
  go_wp2
  go_ret
  exact ⟨rfl, rfl⟩
theorem sWide_c {x y r i : Nat} (w : World) (h : Div .f64 x y r i) : Calls Try.prog 37 #[.complex .f64 x y] w fun e w' => e = .returned (.complex .f64 r i) ∧ w = w' := by
  obtain ⟨d, n, e, ⟨h1, h2, h3, h4, h5⟩, -⟩ := h
  have h2' : floatBits .quo .f64 d 4611686018427387904 = some r := h2
  have h5' : floatBits .quo .f64 e 4611686018427387904 = some i := h5
  have f1 := fun w => run_float_arith (P := Try.prog) w .sub 35 .f64 y x d h1
  have f2 := fun w => run_float_arith (P := Try.prog) w .quo 35 .f64 d _ r h2'
  have f3 := fun w => run_float_arith (P := Try.prog) w .sub 35 .f64 0 x n h3
  have f4 := fun w => run_float_arith (P := Try.prog) w .sub 35 .f64 n y e h4
  have f5 := fun w => run_float_arith (P := Try.prog) w .quo 35 .f64 e _ i h5'
  clear h1 h2 h2' h3 h4 h5 h5'
  go_enter Try.func37, Try.ntmps37
  go_wp2
  go_ret
  exact ⟨rfl, rfl⟩
theorem conv_c {t u : TypeId} {k l : FloatKind} {a b c d : Nat} (ht : Try.prog.underlying t = some (.complex k)) (hu : Try.prog.underlying u = some (.complex l)) (h1 : floatToFloatBits k a l = some c) (h2 : floatToFloatBits k b l = some d) (w : World) :
    (convert t u (.complex k a b)).run Try.prog w = .ok (.complex l c d) w :=
  run_convert_complex (P := Try.prog) w t u k l a b c d (by rw [ht]; rfl) hu (by simp [cConvBits, h1, h2])
theorem sum_c {t : TypeId} {o : BinOp} {k : FloatKind} {a b c d r i : Nat} (ho : o = .add ∨ o = .sub) (h1 : floatBits o k a c = some r) (h2 : floatBits o k b d = some i) (w : World) :
    (binOp o t (.complex k a b) (.complex k c d)).run Try.prog w = .ok (.complex k r i) w :=
  run_complex_sum (P := Try.prog) w o ho t k a b c d r i (by simp [cSumBits, h1, h2])
theorem conv_same (k : FloatKind) (a : Nat) : floatToFloatBits k a k = some a := by simp [floatToFloatBits]
set_option maxHeartbeats 1000000 in
theorem iSingle_c {x y r i : Nat} (w : World) (h : Div .f32 x y r i) : Calls Try.prog 60 #[.complex .f32 x y] w fun e w' => e = .returned (.complex .f32 r i) ∧ w = w' := by
  obtain ⟨d, n, e, -, h⟩ := h
  obtain ⟨X, Y, N, y', n', D, E, R, I, h1, h2, h3, h4, h5, h6, h7, h8, h9, h10, h11, h12, h13⟩ := h rfl
  have f1 := conv_c Try.underlying31 Try.underlying24 h1 h2
  have f2 := fun w => run_float_arith (P := Try.prog) w .sub 35 .f64 0 X N h3
  have f3 := conv_c Try.underlying24 Try.underlying31 h4 h5
  have f4 := sum_c (t := 31) (.inr rfl) h6 h7
  have f5 := conv_c Try.underlying31 Try.underlying24 h8 h9
  have f6 := fun w => run_float_arith (P := Try.prog) w .quo 35 .f64 D _ R h10
  have f7 := fun w => run_float_arith (P := Try.prog) w .quo 35 .f64 E _ I h11
  have f8 := conv_c Try.underlying24 Try.underlying31 h12 h13
  clear h1 h2 h3 h4 h5 h6 h7 h8 h9 h10 h11 h12 h13
  go_enter Try.func60, Try.ntmps60
  go_wp2
  go_ret
  exact ⟨rfl, rfl⟩
set_option maxHeartbeats 1000000 in
theorem iWide_c {x y r i : Nat} (w : World) (h : Div .f64 x y r i) : Calls Try.prog 55 #[.complex .f64 x y] w fun e w' => e = .returned (.complex .f64 r i) ∧ w = w' := by
  obtain ⟨d, n, e, ⟨h1, h2, h3, h4, h5⟩, -⟩ := h
  have h2' : floatBits .quo .f64 d 4611686018427387904 = some r := h2
  have h5' : floatBits .quo .f64 e 4611686018427387904 = some i := h5
  have f1 := conv_c Try.underlying24 Try.underlying24 (conv_same .f64 x) (conv_same .f64 y)
  have f2 := fun w => run_float_arith (P := Try.prog) w .sub 35 .f64 0 x n h3
  have f3 := conv_c Try.underlying24 Try.underlying24 (conv_same .f64 y) (conv_same .f64 n)
  have f4 := sum_c (t := 24) (.inr rfl) h1 h4
  have f5 := conv_c Try.underlying24 Try.underlying24 (conv_same .f64 d) (conv_same .f64 e)
  have f6 := fun w => run_float_arith (P := Try.prog) w .quo 35 .f64 d _ r h2'
  have f7 := fun w => run_float_arith (P := Try.prog) w .quo 35 .f64 e _ i h5'
  have f8 := conv_c Try.underlying24 Try.underlying24 (conv_same .f64 r) (conv_same .f64 i)
  clear h1 h2 h2' h3 h4 h5 h5'
  go_enter Try.func55, Try.ntmps55
  go_wp2
  go_ret
  exact ⟨rfl, rfl⟩

/-! ### powers -/
def pickN (b : Bool) (x : Nat) : Nat := if b then x else 0
abbrev powV (k : FloatKind) (n : Int) : Value := .tuple #[.complex k (pickN (inR 0 320 n) (pw k n.toNat).1) (pickN (inR 0 320 n) (pw k n.toNat).2), .bool (inR 0 320 n)]
theorem powV_no {k : FloatKind} {n : Int} (h : inR 0 320 n = false) : powV k n = .tuple #[.complex k 0 0, .bool false] := by unfold powV pickN; rw [h]; rfl
theorem powV_yes {k : FloatKind} {n : Int} (h : inR 0 320 n = true) : powV k n = .tuple #[.complex k (pw k n.toNat).1 (pw k n.toNat).2, .bool true] := by unfold powV pickN; rw [h]; rfl
def PwRel (k : FloatKind) (w : World) (t : Nat) (m : Nat) (z c : Value) (wr : World) : Prop := ∃ j : Nat, j + m = t ∧ wr = w ∧ c = .int .i64 j ∧ z = .complex k (pw k j).1 (pw k j).2
theorem sPowerSingle_c (n : Int) (w : World) : Calls Try.prog 25 #[.int .i64 n] w fun e w' => e = .returned (powV .f32 n) ∧ w = w' := by
  rcases Bool.eq_false_or_eq_true (inR 0 320 n) with h1 | h1
  · have H := Lib.hid (powV_yes (k := .f32) h1)
    obtain ⟨t, rfl⟩ : ∃ t : Nat, n = t := ⟨n.toNat, by simp [inR] at h1; omega⟩
    have ht : t ≤ 320 := by simp [inR] at h1; omega
    go_enter Try.func25, Try.ntmps25
    go_wp2_with (go_at_call 43; refine (l6In_c _ _ _ _).mono ?_; rintro e w1 ⟨rfl, rfl⟩)
    go_loopg [4, 5] t (fun m z c wr => PwRel .f32 w t m z c wr)
    case atStart => exact ⟨0, by omega, rfl, rfl, rfl⟩
    case round =>
      obtain ⟨j, hj, rfl, rfl, rfl⟩ := hrel
      by_cases hlt : j < t
      · go_wp2_with (go_at_call 40; refine (sSingle_c _ (pw_div .f32 j)).mono ?_; rintro e w1 ⟨rfl, rfl⟩)
        go_roundg (gk - 1)
        case measure => omega
        case rel => exact ⟨j + 1, by omega, rfl, by go_num, rfl⟩
      · obtain rfl : j = t := by omega
        go_wp2
        go_ret2
        exact ⟨by rw [H.out]; rfl, rfl⟩
  · have H := Lib.hid (powV_no (k := .f32) h1)
    go_enter Try.func25, Try.ntmps25
    go_wp2_with (go_at_call 43; refine (l6In_c _ _ _ _).mono ?_; rintro e w1 ⟨rfl, rfl⟩)
    go_ret2
    exact ⟨by rw [H.out]; rfl, rfl⟩
theorem sPowerWide_c (n : Int) (w : World) : Calls Try.prog 22 #[.int .i64 n] w fun e w' => e = .returned (powV .f64 n) ∧ w = w' := by
  rcases Bool.eq_false_or_eq_true (inR 0 320 n) with h1 | h1
  · have H := Lib.hid (powV_yes (k := .f64) h1)
    obtain ⟨t, rfl⟩ : ∃ t : Nat, n = t := ⟨n.toNat, by simp [inR] at h1; omega⟩
    have ht : t ≤ 320 := by simp [inR] at h1; omega
    go_enter Try.func22, Try.ntmps22
    go_wp2_with (go_at_call 43; refine (l6In_c _ _ _ _).mono ?_; rintro e w1 ⟨rfl, rfl⟩)
    go_loopg [4, 5] t (fun m z c wr => PwRel .f64 w t m z c wr)
    case atStart => exact ⟨0, by omega, rfl, rfl, rfl⟩
    case round =>
      obtain ⟨j, hj, rfl, rfl, rfl⟩ := hrel
      by_cases hlt : j < t
      · go_wp2_with (go_at_call 37; refine (sWide_c _ (pw_div .f64 j)).mono ?_; rintro e w1 ⟨rfl, rfl⟩)
        go_roundg (gk - 1)
        case measure => omega
        case rel => exact ⟨j + 1, by omega, rfl, by go_num, rfl⟩
      · obtain rfl : j = t := by omega
        go_wp2
        go_ret2
        exact ⟨by rw [H.out]; rfl, rfl⟩
  · have H := Lib.hid (powV_no (k := .f64) h1)
    go_enter Try.func22, Try.ntmps22
    go_wp2_with (go_at_call 43; refine (l6In_c _ _ _ _).mono ?_; rintro e w1 ⟨rfl, rfl⟩)
    go_ret2
    exact ⟨by rw [H.out]; rfl, rfl⟩
theorem power32_c (n : Int) (w : World) : Calls Try.prog 44 #[.int .i64 n] w fun e w' => e = .returned (powV .f32 n) ∧ w = w' := by
  rcases Bool.eq_false_or_eq_true (inR 0 320 n) with h1 | h1
  · have H := Lib.hid (powV_yes (k := .f32) h1)
    obtain ⟨t, rfl⟩ : ∃ t : Nat, n = t := ⟨n.toNat, by simp [inR] at h1; omega⟩
    have ht : t ≤ 320 := by simp [inR] at h1; omega
    go_enter Try.func44, Try.ntmps44
    go_wp2
    go_loopg [4, 12] t (fun m z c wr => PwRel .f32 w t m z c wr)
    case atStart => exact ⟨0, by omega, rfl, rfl, rfl⟩
    case round =>
      obtain ⟨j, hj, rfl, rfl, rfl⟩ := hrel
      by_cases hlt : j < t
      · go_wp2_with (go_at_call 60; refine (iSingle_c _ (pw_div .f32 j)).mono ?_; rintro e w1 ⟨rfl, rfl⟩)
        go_roundg (gk - 1)
        case measure => omega
        case rel => exact ⟨j + 1, by omega, rfl, by go_num, rfl⟩
      · obtain rfl : j = t := by omega
        go_wp2
        go_ret2
        exact ⟨by rw [H.out]; rfl, rfl⟩
  · have H := Lib.hid (powV_no (k := .f32) h1)
    by_cases h0 : n < 0
    all_goals
      first | have h9 : 320 < n := by (simp [inR] at h1; omega) | skip
      go_enter Try.func44, Try.ntmps44
      go_wp2
      go_ret2
      exact ⟨by rw [H.out]; rfl, rfl⟩
theorem power64_c (n : Int) (w : World) : Calls Try.prog 42 #[.int .i64 n] w fun e w' => e = .returned (powV .f64 n) ∧ w = w' := by
  rcases Bool.eq_false_or_eq_true (inR 0 320 n) with h1 | h1
  · have H := Lib.hid (powV_yes (k := .f64) h1)
    obtain ⟨t, rfl⟩ : ∃ t : Nat, n = t := ⟨n.toNat, by simp [inR] at h1; omega⟩
    have ht : t ≤ 320 := by simp [inR] at h1; omega
    go_enter Try.func42, Try.ntmps42
    go_wp2
    go_loopg [4, 12] t (fun m z c wr => PwRel .f64 w t m z c wr)
    case atStart => exact ⟨0, by omega, rfl, rfl, rfl⟩
    case round =>
      obtain ⟨j, hj, rfl, rfl, rfl⟩ := hrel
      by_cases hlt : j < t
      · go_wp2_with (go_at_call 55; refine (iWide_c _ (pw_div .f64 j)).mono ?_; rintro e w1 ⟨rfl, rfl⟩)
        go_roundg (gk - 1)
        case measure => omega
        case rel => exact ⟨j + 1, by omega, rfl, by go_num, rfl⟩
      · obtain rfl : j = t := by omega
        go_wp2
        go_ret2
        exact ⟨by rw [H.out]; rfl, rfl⟩
  · have H := Lib.hid (powV_no (k := .f64) h1)
    by_cases h0 : n < 0
    all_goals
      first | have h9 : 320 < n := by (simp [inR] at h1; omega) | skip
      go_enter Try.func42, Try.ntmps42
      go_wp2
      go_ret2
      exact ⟨by rw [H.out]; rfl, rfl⟩
theorem iPowerSingle_c (n : Int) (w : World) : Calls Try.prog 24 #[.int .i64 n] w fun e w' => e = .returned (powV .f32 n) ∧ w = w' := by
  go_enter Try.func24, Try.ntmps24
  go_wp2_with (go_at_call 44; refine (power32_c _ _).mono ?_; rintro e w1 ⟨rfl, rfl⟩)
  go_ret2
  exact ⟨rfl, rfl⟩
theorem iPowerWide_c (n : Int) (w : World) : Calls Try.prog 21 #[.int .i64 n] w fun e w' => e = .returned (powV .f64 n) ∧ w = w' := by
  go_enter Try.func21, Try.ntmps21
  go_wp2_with (go_at_call 42; refine (power64_c _ _).mono ?_; rintro e w1 ⟨rfl, rfl⟩)
  go_ret2
  exact ⟨rfl, rfl⟩
end Go.Proofs.Ytfodfapaidfhbab

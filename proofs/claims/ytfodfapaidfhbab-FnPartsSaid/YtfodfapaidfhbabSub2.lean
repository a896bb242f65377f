/- Chapter 3: PartsSmall of the program; the words of powers fit. No law is stated here. -/
import Derived.Test.YtfodfapaidfhbabSub
namespace Go.Proofs.Ytfodfapaidfhbab
set_option linter.unusedSimpArgs false
set_option linter.unusedVariables false
open Go.RowKit

theorem pw_lt (t : Nat) : (pw .f32 t).1 < 4294967296 ∧ (pw .f32 t).2 < 4294967296 := by
  cases t with
  | zero => decide
  | succ t =>
    obtain ⟨d, n, e, ⟨h1, h2, h3, h4, h5⟩, -⟩ := pw_div .f32 t
    exact ⟨Ieee.Format.div_lt _ h2, Ieee.Format.div_lt _ h5⟩
def cntP (a b : Bool) : Nat → Nat
  | 0 => 0
  | 1 => a.toNat
  | _ => a.toNat + b.toNat
theorem two_at (x y : Nat) (w : World) : (Instr.index 57 (.agg #[.float .f32 x, .float .f32 y]) (.int .i64 0)).run Try.prog w = .ok (.float .f32 x) w ∧ (Instr.index 57 (.agg #[.float .f32 x, .float .f32 y]) (.int .i64 1)).run Try.prog w = .ok (.float .f32 y) w := by
  constructor <;> simp [Instr.index, go_sem, Try.underlying57, Try.underlying41]
set_option maxRecDepth 100000 in
theorem parts_ff (x y : Nat) (w : World) (hX : ∀ w, Calls Try.prog 45 #[.float .f32 x] w fun e w' => e = .returned (.bool false) ∧ w = w') (hY : ∀ w, Calls Try.prog 45 #[.float .f32 y] w fun e w' => e = .returned (.bool false) ∧ w = w') : Calls Try.prog 26 #[.complex .f32 x y] w fun e w' => e = .returned (.int .i64 (cntP false false 2 : Nat)) ∧ w = w' := by
  have i0 := fun w => (two_at x y w).1
  have i1 := fun w => (two_at x y w).2
  go_enter Try.func26, Try.ntmps26
  go_wp2
  go_loopg [3, 11] 2 (fun m c i wr => ∃ j : Nat, j + m = 2 ∧ i = .int .i64 j ∧ wr = w ∧ c = .int .i64 (cntP false false j : Nat))
  case atStart => exact ⟨0, rfl, rfl, rfl, rfl⟩
  case round =>
    obtain ⟨j, hj, rfl, rfl, rfl⟩ := hrel
    obtain rfl | rfl | rfl : j = 0 ∨ j = 1 ∨ j = 2 := by omega
    · go_wp2_with (go_at_call 45; refine (hX _).mono ?_; rintro e w1 ⟨rfl, rfl⟩)
      go_roundg (gk - 1)
      case measure => omega
      case rel => exact ⟨1, by omega, rfl, rfl, by first | rfl | (congr 1; simp [cntP, wrap64]; done)⟩
    · go_wp2_with (go_at_call 45; refine (hY _).mono ?_; rintro e w1 ⟨rfl, rfl⟩)
      go_roundg (gk - 1)
      case measure => omega
      case rel => exact ⟨2, by omega, rfl, rfl, by first | rfl | (congr 1; simp [cntP, wrap64]; done)⟩
    · go_wp2
      go_ret
      exact ⟨rfl, rfl⟩
set_option maxRecDepth 100000 in
theorem parts_ft (x y : Nat) (w : World) (hX : ∀ w, Calls Try.prog 45 #[.float .f32 x] w fun e w' => e = .returned (.bool false) ∧ w = w') (hY : ∀ w, Calls Try.prog 45 #[.float .f32 y] w fun e w' => e = .returned (.bool true) ∧ w = w') : Calls Try.prog 26 #[.complex .f32 x y] w fun e w' => e = .returned (.int .i64 (cntP false true 2 : Nat)) ∧ w = w' := by
  have i0 := fun w => (two_at x y w).1
  have i1 := fun w => (two_at x y w).2
  go_enter Try.func26, Try.ntmps26
  go_wp2
  go_loopg [3, 11] 2 (fun m c i wr => ∃ j : Nat, j + m = 2 ∧ i = .int .i64 j ∧ wr = w ∧ c = .int .i64 (cntP false true j : Nat))
  case atStart => exact ⟨0, rfl, rfl, rfl, rfl⟩
  case round =>
    obtain ⟨j, hj, rfl, rfl, rfl⟩ := hrel
    obtain rfl | rfl | rfl : j = 0 ∨ j = 1 ∨ j = 2 := by omega
    · go_wp2_with (go_at_call 45; refine (hX _).mono ?_; rintro e w1 ⟨rfl, rfl⟩)
      go_roundg (gk - 1)
      case measure => omega
      case rel => exact ⟨1, by omega, rfl, rfl, by first | rfl | (congr 1; simp [cntP, wrap64]; done)⟩
    · go_wp2_with (go_at_call 45; refine (hY _).mono ?_; rintro e w1 ⟨rfl, rfl⟩)
      go_roundg (gk - 1)
      case measure => omega
      case rel => exact ⟨2, by omega, rfl, rfl, by first | rfl | (congr 1; simp [cntP, wrap64]; done)⟩
    · go_wp2
      go_ret
      exact ⟨rfl, rfl⟩
set_option maxRecDepth 100000 in
theorem parts_tf (x y : Nat) (w : World) (hX : ∀ w, Calls Try.prog 45 #[.float .f32 x] w fun e w' => e = .returned (.bool true) ∧ w = w') (hY : ∀ w, Calls Try.prog 45 #[.float .f32 y] w fun e w' => e = .returned (.bool false) ∧ w = w') : Calls Try.prog 26 #[.complex .f32 x y] w fun e w' => e = .returned (.int .i64 (cntP true false 2 : Nat)) ∧ w = w' := by
  have i0 := fun w => (two_at x y w).1
  have i1 := fun w => (two_at x y w).2
  go_enter Try.func26, Try.ntmps26
  go_wp2
  go_loopg [3, 11] 2 (fun m c i wr => ∃ j : Nat, j + m = 2 ∧ i = .int .i64 j ∧ wr = w ∧ c = .int .i64 (cntP true false j : Nat))
  case atStart => exact ⟨0, rfl, rfl, rfl, rfl⟩
  case round =>
    obtain ⟨j, hj, rfl, rfl, rfl⟩ := hrel
    obtain rfl | rfl | rfl : j = 0 ∨ j = 1 ∨ j = 2 := by omega
    · go_wp2_with (go_at_call 45; refine (hX _).mono ?_; rintro e w1 ⟨rfl, rfl⟩)
      go_roundg (gk - 1)
      case measure => omega
      case rel => exact ⟨1, by omega, rfl, rfl, by first | rfl | (congr 1; simp [cntP, wrap64]; done)⟩
    · go_wp2_with (go_at_call 45; refine (hY _).mono ?_; rintro e w1 ⟨rfl, rfl⟩)
      go_roundg (gk - 1)
      case measure => omega
      case rel => exact ⟨2, by omega, rfl, rfl, by first | rfl | (congr 1; simp [cntP, wrap64]; done)⟩
    · go_wp2
      go_ret
      exact ⟨rfl, rfl⟩
set_option maxRecDepth 100000 in
theorem parts_tt (x y : Nat) (w : World) (hX : ∀ w, Calls Try.prog 45 #[.float .f32 x] w fun e w' => e = .returned (.bool true) ∧ w = w') (hY : ∀ w, Calls Try.prog 45 #[.float .f32 y] w fun e w' => e = .returned (.bool true) ∧ w = w') : Calls Try.prog 26 #[.complex .f32 x y] w fun e w' => e = .returned (.int .i64 (cntP true true 2 : Nat)) ∧ w = w' := by
  have i0 := fun w => (two_at x y w).1
  have i1 := fun w => (two_at x y w).2
  go_enter Try.func26, Try.ntmps26
  go_wp2
  go_loopg [3, 11] 2 (fun m c i wr => ∃ j : Nat, j + m = 2 ∧ i = .int .i64 j ∧ wr = w ∧ c = .int .i64 (cntP true true j : Nat))
  case atStart => exact ⟨0, rfl, rfl, rfl, rfl⟩
  case round =>
    obtain ⟨j, hj, rfl, rfl, rfl⟩ := hrel
    obtain rfl | rfl | rfl : j = 0 ∨ j = 1 ∨ j = 2 := by omega
    · go_wp2_with (go_at_call 45; refine (hX _).mono ?_; rintro e w1 ⟨rfl, rfl⟩)
      go_roundg (gk - 1)
      case measure => omega
      case rel => exact ⟨1, by omega, rfl, rfl, by first | rfl | (congr 1; simp [cntP, wrap64]; done)⟩
    · go_wp2_with (go_at_call 45; refine (hY _).mono ?_; rintro e w1 ⟨rfl, rfl⟩)
      go_roundg (gk - 1)
      case measure => omega
      case rel => exact ⟨2, by omega, rfl, rfl, by first | rfl | (congr 1; simp [cntP, wrap64]; done)⟩
    · go_wp2
      go_ret
      exact ⟨rfl, rfl⟩
theorem partsSmall_c (x y : Nat) (w : World) (hx : x < 4294967296) (hy : y < 4294967296) : Calls Try.prog 26 #[.complex .f32 x y] w fun e w' => e = .returned (.int .i64 (((subN x).toNat + (subN y).toNat : Nat) : Int)) ∧ w = w' := by
  have hX := fun w => subnormal_c x w hx
  have hY := fun w => subnormal_c y w hy
  generalize subN x = a at *
  generalize subN y = b at *
  cases a <;> cases b
  · exact parts_ff x y w hX hY
  · exact parts_ft x y w hX hY
  · exact parts_tf x y w hX hY
  · exact parts_tt x y w hX hY
end Go.Proofs.Ytfodfapaidfhbab

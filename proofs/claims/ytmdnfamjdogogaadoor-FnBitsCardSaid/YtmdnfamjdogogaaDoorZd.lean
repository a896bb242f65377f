/- Chapter 7: what its laws draw: floats and starts. No law is stated here. -/
import Derived.Test.YtmdnfamjdogogaaDoorDrawC
import Derived.Test.YtmdnfamjdogogaaDoorZa
import Derived.Deep.Cut
namespace Go.Proofs.YtmdnfamjdogogaaDoor
set_option linter.unusedSimpArgs false
set_option linter.unusedVariables false
open Go.RowKit Ieee

def FlOk (v : Value) : Prop := ∃ x, v = .float .f32 x ∧ Nn x
def StOk (v : Value) : Prop := ∃ p, v = encW p ∧ Nn2 p
def qvOk (k : Nat) : Bool := match floatBits .quo .f32 (floatOfInt .f32 ((k : Int) - 20)) 1082130432 with | some r => decide (r < 4294967296) && !(single.read r).isNaN | none => false
theorem qv_all : (List.range 41).all qvOk = true := by decide +kernel
theorem qv {a : Int} (h : -20 ≤ a ∧ a ≤ 20) : ∃ r, floatBits .quo .f32 (floatOfInt .f32 a) 1082130432 = some r ∧ Nn r := by
  have h1 := List.all_eq_true.1 qv_all (a + 20).toNat (List.mem_range.2 (by omega))
  unfold qvOk at h1
  rw [show (((a + 20).toNat : Nat) : Int) - 20 = a by omega] at h1
  cases hq : floatBits .quo .f32 (floatOfInt .f32 a) 1082130432 with
  | none => rw [hq] at h1; cases h1
  | some r =>
    rw [hq] at h1
    simp only [Bool.and_eq_true, decide_eq_true_eq, Bool.not_eq_true'] at h1
    exact ⟨r, rfl, h1.1, h1.2⟩
theorem negz32 : Op.negFloat .f32 0 = 2147483648 := by decide +kernel
theorem negz_run (w : World) : (Op.unary UnOp.neg (.float .f32 0)).run Tryd.prog w = .ok (.float .f32 2147483648) w := by
  simp [Op.unary, negz32]
theorem nzm : floatBits .mul .f32 2147483648 1065353216 = some 2147483648 := by decide +kernel
theorem infz : floatBits .quo .f32 1065353216 0 = some 2139095040 := by decide +kernel
theorem nn_nz : Nn 2147483648 := ⟨by decide, by decide +kernel⟩
theorem nn_lit : Nn 0 ∧ Nn 1 ∧ Nn 2139095040 ∧ Nn 713624 ∧ Nn 1065353216 := ⟨⟨by decide, by decide +kernel⟩, ⟨by decide, by decide +kernel⟩, ⟨by decide, by decide +kernel⟩, ⟨by decide, by decide +kernel⟩, ⟨by decide, by decide +kernel⟩⟩
set_option maxRecDepth 100000 in
set_option maxHeartbeats 4000000 in
theorem l92Float_c (rb : Nat) (sv : Value) (p : Int) (w : World) (hs : Src sv rb w) (h : Rd rb sv p w) (hp : 0 ≤ p ∧ p ≤ 1000) :
    Calls Tryd.prog 21 #[.pointer (some ⟨rb, 0, none⟩)] w (Drawn FlOk 2 rb sv p w) := by
  go_enter Tryd.func21, Tryd.ntmps21
  go_wp2_with fail
  refine (pick_d rb sv p 10 w hs h ⟨by omega, by omega⟩ ⟨by omega, by omega⟩).mono ?_
  rintro e W1 ⟨v, p1, ⟨k, rfl, k0, k1⟩, rfl, q0, q1, h1, hs1, m1⟩
  have FIN := Lib.hid (fun x (hx : Nn x) => (show Drawn FlOk 2 rb sv p w (.returned (.float .f32 x)) W1 from ⟨_, p1, ⟨x, rfl, hx⟩, rfl, q0, by omega, h1, hs1, m1⟩))
  clear hs h
  by_cases e0 : k = 0
  · subst e0
    have f1 := negz_run
    have f2 := fun w => run_float_arith (P := Tryd.prog) w .mul 22 .f32 _ _ _ nzm
    go_wp2_with fail
    go_ret
    exact FIN.out _ nn_nz
  by_cases e1 : k = 1
  · subst e1
    go_wp2_with fail
    go_ret
    exact FIN.out _ nn_lit.2.1
  by_cases e2 : k = 2
  · subst e2
    have f2 := fun w => run_float_arith (P := Tryd.prog) w .quo 22 .f32 _ _ _ infz
    go_wp2_with fail
    go_ret
    exact FIN.out _ nn_lit.2.2.1
  by_cases e3 : k = 3
  · subst e3
    go_wp2_with fail
    go_ret
    exact FIN.out _ nn_lit.2.2.2.1
  · have x0 : (k == 0) = false := by simp [e0]
    have x1 : (k == 1) = false := by simp [e1]
    have x2 : (k == 2) = false := by simp [e2]
    have x3 : (k == 3) = false := by simp [e3]
    clear e0 e1 e2 e3 FIN
    go_wp2_with fail
    refine (pick_d rb sv p1 41 W1 hs1 h1 ⟨by omega, by omega⟩ ⟨by omega, by omega⟩).mono ?_
    rintro e W2 ⟨v, p2, ⟨y, rfl, y0, y1⟩, rfl, r0, r1, h2, hs2, m2⟩
    obtain ⟨r, hq, hr⟩ := qv (a := y - 20) ⟨by omega, by omega⟩
    have f2 := fun w => run_float_arith (P := Tryd.prog) w .quo 22 .f32 _ _ _ hq
    have f3 : IntKind.i64.wrap (y - 20) = y - 20 := IntWalk.i64_in _ (by omega)
    have FIN := Lib.hid (show Drawn FlOk 2 rb sv p w (.returned (.float .f32 r)) W2 from ⟨_, p2, ⟨r, rfl, hr⟩, rfl, by omega, by omega, h2, hs2, m1.trans m2⟩)
    clear hq hr
    go_wp2_with fail
    go_ret
    exact FIN.out
set_option maxHeartbeats 4000000 in
theorem l92Start_c (rb : Nat) (sv : Value) (p : Int) (w : World) (hs : Src sv rb w) (h : Rd rb sv p w) (hp : 0 ≤ p ∧ p ≤ 900) :
    Calls Tryd.prog 24 #[.pointer (some ⟨rb, 0, none⟩)] w (Drawn StOk 4 rb sv p w) := by
  go_enter Tryd.func24, Tryd.ntmps24
  go_wp2_with fail
  refine (l92Float_c rb sv p w hs h ⟨by omega, by omega⟩).mono ?_
  rintro e W1 ⟨v, p1, ⟨x, rfl, hx⟩, rfl, q0, q1, h1, hs1, m1⟩
  go_wp2_with fail
  refine (l92Float_c rb sv p1 W1 hs1 h1 ⟨by omega, by omega⟩).mono ?_
  rintro e W2 ⟨v, p2, ⟨y, rfl, hy⟩, rfl, r0, r1, h2, hs2, m2⟩
  have FIN := Lib.hid (show Drawn StOk 4 rb sv p w (.returned (.complex .f32 x y)) W2 from ⟨_, p2, ⟨(x, y), rfl, hx, hy⟩, rfl, by omega, by omega, h2, hs2, m1.trans m2⟩)
  go_wp2_with fail
  go_ret
  exact FIN.out
end Go.Proofs.YtmdnfamjdogogaaDoor

/- FnParts: whatever the code draws, both sides count the same subnormal parts, of the negated and of the turned number, too; no condition. -/
import Derived.Test.YtfodfapaidfhbabSub2
import Derived.Test.YtfodfapaidfhbabVl
import Derived.Test.YtfodfapaidfhbabDrawB
import Derived.Test.YtfodfapaidfhbabBaseP
import Derived.Laws.NewFold
namespace Go.Proofs.Ytfodfapaidfhbab
set_option linter.unusedSimpArgs false
set_option linter.unusedVariables false
open Go.ChangeShapes Go.WideShapes Go.ChangeAt Go.RowKit Go.Joins Ieee

def tinyB (x : Nat) : Bool := (FloatKind.f32.format.order x 0 != some .eq) && ((FloatKind.f32.format.order x 2155872256 == some .gt) && (FloatKind.f32.format.order x 8388608 == some .lt))
theorem vmin : Vl .f32 8388608 8388608 := ⟨false, 8388608, ⟨8388608, 0, by decide +kernel, by decide, by decide⟩, rfl⟩
theorem vmax : Vl .f32 2155872256 (-8388608) := ⟨true, 8388608, ⟨8388608, 0, by decide +kernel, by decide, by decide⟩, rfl⟩
theorem v0 : Vl .f32 0 0 := ⟨false, 0, fl0_s, rfl⟩
theorem tiny_vl {x : Nat} {v : Int} (h : Vl .f32 x v) : tinyB x = (decide (v ≠ 0) && decide (v.natAbs < 8388608)) := by
  unfold tinyB
  rw [vl_order h v0, vl_order h vmax, vl_order h vmin]
  rcases Int.lt_trichotomy v 0 with a | a | a
  · rw [Int.compare_eq_lt.2 a, Int.compare_eq_lt.2 (show v < 8388608 by omega)]
    rcases Int.lt_trichotomy v (-8388608) with b | b | b
    · rw [Int.compare_eq_lt.2 b, decide_eq_false (show ¬ v.natAbs < 8388608 by omega)]; simp
    · rw [Int.compare_eq_eq.2 b, decide_eq_false (show ¬ v.natAbs < 8388608 by omega)]; simp
    · rw [Int.compare_eq_gt.2 b, decide_eq_true (show v.natAbs < 8388608 by omega), decide_eq_true (show v ≠ 0 by omega)]; rfl
  · rw [Int.compare_eq_eq.2 a, decide_eq_false (show ¬ v ≠ 0 by omega)]; rfl
  · rw [Int.compare_eq_gt.2 a, Int.compare_eq_gt.2 (show -8388608 < v by omega)]
    rcases Int.lt_trichotomy v 8388608 with b | b | b
    · rw [Int.compare_eq_lt.2 b, decide_eq_true (show v.natAbs < 8388608 by omega), decide_eq_true (show v ≠ 0 by omega)]; rfl
    · rw [Int.compare_eq_eq.2 b, decide_eq_false (show ¬ v.natAbs < 8388608 by omega)]; simp
    · rw [Int.compare_eq_gt.2 b, decide_eq_false (show ¬ v.natAbs < 8388608 by omega)]; simp
theorem subN_parts (x : Nat) : subN x = (decide (x % 2147483648 < 8388608) && decide (x % 2147483648 ≠ 0)) := by
  unfold subN
  by_cases h : x % 2147483648 < 8388608
  · rw [show x / 8388608 % 256 = 0 by omega, show x % 8388608 = x % 2147483648 by omega, decide_eq_true h]
    by_cases h0 : x % 2147483648 = 0
    · rw [h0]; rfl
    · simp [h0]
  · rw [decide_eq_false h]
    have : (x / 8388608 % 256 == 0) = false := by simp; omega
    rw [this]; rfl
theorem tiny_sub {x : Nat} (hx : x < 4294967296) : tinyB x = subN x := by
  rw [subN_parts]
  have e1 : single.signWeight = 2147483648 := by decide
  have e2 : single.binade = 8388608 := by decide
  have e3 : single.infRung = 2139095040 := by decide
  have hr : single.read x = if x % 2147483648 < 8388608 then .number (x / 2147483648 % 2 == 1) (x % 2147483648) single.leastPlace
      else if x % 2147483648 < 2139095040 then .number (x / 2147483648 % 2 == 1) (8388608 + x % 2147483648 % 8388608) (single.leastPlace + (x % 2147483648 / 8388608 - 1 : Nat))
      else if x % 2147483648 = 2139095040 then .infinity (x / 2147483648 % 2 == 1) else .nan (x / 2147483648 % 2 == 1) (x % 2147483648 - 2139095040) := by
    unfold Format.read
    simp only [e1, e2, e3]
  by_cases c1 : x % 2147483648 < 8388608
  · rw [if_pos c1] at hr
    have hv : Vl .f32 x (sg (x / 2147483648 % 2 == 1) (x % 2147483648)) := ⟨_, _, ⟨x % 2147483648, 0, by rw [Int.natCast_zero, Int.add_zero]; exact hr, by rw [Nat.pow_zero, Nat.mul_one], by show _ < 2 ^ 24; omega⟩, rfl⟩
    rw [tiny_vl hv, sg_abs, decide_eq_true c1]
    by_cases h0 : x % 2147483648 = 0
    · rw [h0]; cases (x / 2147483648 % 2 == 1) <;> rfl
    · rw [decide_eq_true h0]
      have : sg (x / 2147483648 % 2 == 1) (x % 2147483648) ≠ 0 := by
        intro e; have := congrArg Int.natAbs e; rw [sg_abs] at this; exact h0 this
      rw [decide_eq_true this]
  · rw [if_neg c1] at hr
    rw [decide_eq_false c1, Bool.false_and]
    by_cases c2 : x % 2147483648 < 2139095040
    · rw [if_pos c2] at hr
      have hv : Vl .f32 x (sg (x / 2147483648 % 2 == 1) ((8388608 + x % 2147483648 % 8388608) * 2 ^ (x % 2147483648 / 8388608 - 1))) := ⟨_, _, ⟨_, _, hr, rfl, by show _ < 2 ^ 24; omega⟩, rfl⟩
      rw [tiny_vl hv, sg_abs]
      have hp := Nat.two_pow_pos (x % 2147483648 / 8388608 - 1)
      have := Nat.le_mul_of_pos_right (8388608 + x % 2147483648 % 8388608) hp
      rw [decide_eq_false (show ¬ (8388608 + x % 2147483648 % 8388608) * 2 ^ (x % 2147483648 / 8388608 - 1) < 8388608 by omega), Bool.and_false]
    · rw [if_neg c2] at hr
      have q1 : single.read 2155872256 = .number true 8388608 (-149) := by decide +kernel
      have q2 : single.read 8388608 = .number false 8388608 (-149) := by decide +kernel
      unfold tinyB
      show ((single.order x 0 != some .eq) && ((single.order x 2155872256 == some .gt) && (single.order x 8388608 == some .lt))) = false
      unfold Format.order
      rw [q1, q2]
      by_cases c3 : x % 2147483648 = 2139095040
      · rw [if_pos c3] at hr
        rw [hr]
        cases (x / 2147483648 % 2 == 1) <;> simp [Datum.order]
      · rw [if_neg c3] at hr
        rw [hr]
        simp [Datum.order]
theorem tiny_c (x : Nat) (w : World) (hx : x < 4294967296) : Calls Try.prog 47 #[.float .f32 x] w fun e w' => e = .returned (.bool (subN x)) ∧ w = w' := by
  have HT := Lib.hid (tiny_sub hx)
  by_cases h0 : FloatKind.f32.format.order x 0 = some .eq
  · go_enter Try.func47, Try.ntmps47
    go_wp2
    go_ret
    exact ⟨by rw [← HT.out]; simp [tinyB, h0], rfl⟩
  · by_cases h1 : FloatKind.f32.format.order x 2155872256 = some .gt
    all_goals
      go_enter Try.func47, Try.ntmps47
      go_wp2
      go_ret
      exact ⟨by rw [← HT.out]; simp [tinyB, h0, h1], rfl⟩
theorem sParts_c (x y : Nat) (w : World) (hx : x < 4294967296) (hy : y < 4294967296) : Calls Try.prog 28 #[.complex .f32 x y] w fun e w' => e = .returned (.int .i64 (((subN x).toNat + (subN y).toNat : Nat) : Int)) ∧ w = w' := by
  have hX := fun w => tiny_c x w hx
  have hY := fun w => tiny_c y w hy
  generalize subN x = a at *
  generalize subN y = b at *
  cases a <;> cases b
  all_goals
    go_enter Try.func28, Try.ntmps28
    go_wp2_with fail
    refine (hX _).mono ?_
    rintro e w1 ⟨rfl, rfl⟩
    go_wp2_with fail
    refine (hY _).mono ?_
    rintro e w1 ⟨rfl, rfl⟩
    go_wp2_with fail
    go_ret
    exact ⟨rfl, rfl⟩
def nanOf (w : World) : Nat := Question.cut (.nanBits .f32 0 0) (w.tape w.drawn (.nanBits .f32 0 0))
theorem nanOf_lt (w : World) : nanOf w < 4294967296 := by
  unfold nanOf Question.cut
  simp only []
  omega
theorem div_none : FloatKind.f32.format.div 0 0 = none := by decide +kernel
theorem quo_nan (w : World) : (binOp .quo 41 (.float .f32 0) (.float .f32 0)).run Try.prog w = .ok (.float .f32 (nanOf w)) w.drew := by
  simp [binOp, Op.floatArith, div_none, run_choose_drew, Question.forced, nanOf]
theorem neg_nil (w : World) : (Op.unary .neg (.float .f32 0)).run Try.prog w = .ok (.float .f32 2147483648) w := rfl
theorem mul_nil : floatBits .mul .f32 2147483648 1065353216 = some 2147483648 := by decide +kernel
def OneCx (w : World) (e : Ending) (w' : World) : Prop := ∃ x y : Nat, e = .returned (.complex .f32 x y) ∧ x < 4294967296 ∧ y < 4294967296 ∧ Below w.heap.size w w'
set_option maxHeartbeats 2000000 in
theorem drawParts_c (v : Value) (w : World) (h : Code v w) : Calls Try.prog 27 #[v] w (OneCx w) := by
  have f0 := fun w => quo_nan w
  have f1 := fun w => neg_nil w
  have f2 := fun w => run_float_arith (P := Try.prog) w .mul 41 .f32 2147483648 1065353216 2147483648 mul_nil
  go_enter Try.func27, Try.ntmps27
  go_wp2_with fail
  refine (l6Open_c v w h).mono ?_
  rintro e W1 ⟨sv, rfl, hr, hs, hz, hb⟩
  go_wp2_with fail
  refine (pick_d w.heap.size sv 0 110 W1 hs hr ⟨by omega, by omega⟩ ⟨by omega, by omega⟩).mono ?_
  rintro e W2 ⟨v', p1, ⟨c, rfl, c0, c1⟩, rfl, s0, s1, h2, hs2, m2⟩
  have H2 := Lib.hid h2
  have HS := Lib.hid hs2
  have M2 := Lib.hid m2
  have HB := Lib.hid hb
  clear h2 hs2 m2 hb hr hs
  obtain ⟨k, rfl⟩ : ∃ k : Nat, c = (k : Int) := ⟨c.toNat, by omega⟩
  have hk : k ≤ 110 := by omega
  have hin : inR 0 320 ((200 + k : Nat) : Int) = true := by simp [inR]; omega
  have V : powV .f32 ((200 + k : Nat) : Int) = .tuple #[.complex .f32 (pw .f32 (200 + k)).1 (pw .f32 (200 + k)).2, .bool true] := powV_yes hin
  have hP : ∀ w, Calls Try.prog 25 #[.int .i64 ((200 + k : Nat) : Int)] w fun e w' => e = .returned (.tuple #[.complex .f32 (pw .f32 (200 + k)).1 (pw .f32 (200 + k)).2, .bool true]) ∧ w = w' := fun w => by rw [← V]; exact sPowerSingle_c _ w
  obtain ⟨l1, l2⟩ := pw_lt (200 + k)
  have HP := Lib.hid hP
  clear V hin hP
  generalize (pw .f32 (200 + k)).1 = X at *
  generalize (pw .f32 (200 + k)).2 = Y at *
  go_wp2_with fail
  rw [show (200 : Int) + (k : Int) = ((200 + k : Nat) : Int) by omega]
  refine (HP.out _).mono ?_
  rintro e W3 ⟨rfl, rfl⟩
  go_wp2_with fail
  refine (pick_d w.heap.size sv p1 6 W2 HS.out H2.out ⟨by omega, by omega⟩ ⟨by omega, by omega⟩).mono ?_
  rintro e W4 ⟨v', p2, ⟨d, rfl, d0, d1⟩, rfl, s2, s3, h4, hs4, m4⟩
  have M4 := Lib.hid (M2.out.trans m4)
  have H4 := Lib.hid h4
  have HS4 := Lib.hid hs4
  clear h4 hs4 m4
  by_cases e0 : d = 0
  · subst e0
    have HB4 := Lib.hid (M4.out.2.2.2 w HB.out (Nat.le_refl _))
    have hn := nanOf_lt W4
    go_wp2_with fail
    go_ret
    exact ⟨_, 71362, rfl, hn, by omega, Blw.drew HB4.out⟩
  · have d9 : (d == 0) = false := by simp [e0]
    go_wp2_with fail
    refine (pick_d w.heap.size sv p2 4 W4 HS4.out H4.out ⟨by omega, by omega⟩ ⟨by omega, by omega⟩).mono ?_
    rintro e W5 ⟨v', p3, ⟨g, rfl, g0, g1⟩, rfl, -, -, -, -, m5⟩
    have HB5 := Lib.hid ((M4.out.trans m5).2.2.2 w HB.out (Nat.le_refl _))
    clear m5
    by_cases e1 : g = 0
    · subst e1
      go_wp2_with fail
      go_ret
      exact ⟨_, _, rfl, by omega, by omega, HB5.out⟩
    · have g9 : (g == 0) = false := by simp [e1]
      go_wp2_with fail
      go_ret
      exact ⟨X, Y, rfl, l1, l2, HB5.out⟩
theorem neg_lt {x : Nat} (hx : x < 4294967296) : Op.negFloat .f32 x < 4294967296 ∧ subN (Op.negFloat .f32 x) = subN x := by
  have e : Op.negFloat .f32 x = if x < 2147483648 then 2147483648 + x else x - 2147483648 := by
    have := xor_top (x := x) (w := 31) (by show x < 2 ^ 32; omega)
    exact this
  rw [e]
  split
  · refine ⟨by omega, ?_⟩
    rw [subN_parts, subN_parts, Nat.add_mod_left]
  · refine ⟨by omega, ?_⟩
    rw [subN_parts, subN_parts, show (x - 2147483648) % 2147483648 = x % 2147483648 by omega]
set_option maxHeartbeats 4000000 in
set_option maxRecDepth 10000 in
theorem lawParts_c (a : Option Addr) (len cap : Nat) (w : World) (hc : len ≤ 1048576 → Code (.slice a len cap) w) : Calls Try.prog 8 #[.slice a len cap] w fun e w' => e = .returned (.bool true) ∧ Below w.heap.size w w' := by
  by_cases hl : 1048576 < len
  · go_enter Try.func8, Try.ntmps8
    go_wp2_with fail
    go_ret
    exact ⟨rfl, by (repeat' (first | assumption | exact Below.refl _ _ | apply Blw.alloc | apply Blw.drew | apply Blw.drewN | (refine Blw.after ?_ (by assumption)) | (refine Blw.set ?_ (by first | (dsimp only; omega) | (simp; done) | (simp; omega)) _)))⟩
  · have hc' := hc (by omega)
    clear hc
    go_enter Try.func8, Try.ntmps8
    go_wp2_with fail
    refine (drawParts_c _ w hc').mono ?_
    rintro e W1 ⟨x, y, rfl, hx, hy, hb1⟩
    clear hc'
    obtain ⟨n1, n2⟩ := neg_lt hx
    obtain ⟨n3, n4⟩ := neg_lt hy
    have P1 := Lib.hid (fun w => partsSmall_c x y w hx hy)
    have P2 := Lib.hid (fun w => sParts_c x y w hx hy)
    have P3 := Lib.hid (fun w => partsSmall_c (Op.negFloat .f32 x) (Op.negFloat .f32 y) w n1 n3)
    have P4 := Lib.hid (fun w => partsSmall_c y x w hy hx)
    rw [n2, n4] at P3
    rw [Nat.add_comm (subN y).toNat] at P4
    have hn : (subN x).toNat + (subN y).toNat ≤ 2 := by cases subN x <;> cases subN y <;> decide
    have fn : ∀ w, (Op.unary .neg (.complex .f32 x y)).run Try.prog w = .ok (.complex .f32 (Op.negFloat .f32 x) (Op.negFloat .f32 y)) w := fun w => rfl
    clear n1 n2 n3 n4
    generalize (subN x).toNat + (subN y).toNat = n at *
    go_wp2_with fail
    refine (P1.out _).mono ?_
    rintro e w1 ⟨rfl, rfl⟩
    go_wp2_with fail
    refine (P2.out _).mono ?_
    rintro e w1 ⟨rfl, rfl⟩
    go_wp2_with fail
    refine (P3.out _).mono ?_
    rintro e w1 ⟨rfl, rfl⟩
    go_wp2_with fail
    refine (P4.out _).mono ?_
    rintro e w1 ⟨rfl, rfl⟩
    go_wp2_with fail
    go_ret
    exact ⟨by simp, by (repeat' (first | assumption | exact Below.refl _ _ | apply Blw.alloc | apply Blw.drew | apply Blw.drewN | (refine Blw.after ?_ (by assumption)) | (refine Blw.set ?_ (by first | (dsimp only; omega) | (simp; done) | (simp; omega)) _)))⟩

namespace lawFnParts
set_option maxRecDepth 100000 in
theorem lifted (os : Os) (started : os.Started) (H : Type) (enc : TypeId × Value → H) :
    ReturnsInHanded {} Try.checked os 8 .any (Rows.fnPartsSpec.pre6 enc Try.prog Try.f8 Rows.fnPartsRow.domain false) (Rows.fnPartsSpec.post enc Try.prog Try.f8 false true false false) := by
  refine returnsInHanded_of_change (C := Try.checked) own started (by kernel_rfl) Try.func8
    (ChangeSpec.witness6 (enc := enc) (C := Try.checked) false ⟨#[], #[.slice none 0 0], []⟩ 8 (by kernel_rfl) (by kernel_rfl) (by kernel_rfl) (by kernel_rfl)) ?_
  intro W base args ds gs before hval0 hW _ _
  have hval : ∀ (j : Nat) t v, Try.f8.params[j]? = some t → args[j]? = some v → Value.okWide Try.prog W .any base t v := hval0
  have hW' := hW
  obtain ⟨p, q, hA0, hV, rfl, _, _⟩ := hW
  have hA : DataW.TrodAll enc Try.prog W 0 (fun _ => true) true Try.f8.params.toList args.toList ds p := hA0
  rw [Try.params8] at hA hval
  obtain ⟨v0, vs0, d0, ds0, p0, q0, hargs, rfl, rfl, h0, r0⟩ := trodAll_cons hA
  obtain ⟨rfl, rfl, rfl⟩ := trodAll_nil r0
  obtain rfl : args = #[v0] := by cases args; simp_all
  obtain ⟨rfl, rfl⟩ := trodVars_none hV
  obtain ⟨a, len, cap, rfl⟩ := okWide_slice Try.underlying22 (hval 0 22 v0 rfl rfl)
  clear hA0 hval0
  simp only [List.append_nil] at hW'
  have hlt : ∀ x ∈ p0, x.block < W.heap.size := fun x hx => by simpa using hW'.lt x hx
  refine (lawParts_c a len cap W (code_of h0)).mono fun e W' ⟨he, hg⟩ => ?_
  subst he
  have harg := Below.trod laidOut (by kernel_rfl) (of_decide_eq_true (by kernel_rfl)) h0 hg hlt
  refine ⟨_, rfl, _, _, _, [], p0, [], hW', ?_, ?_, ?_, hg.frame _, fun h => by cases h⟩
  · exact trodAll_cons_mk (shut_bool Try.underlying4 _) trodAll_mk0
  · exact trodAll_mk1 harg
  · rfl

theorem proved : Rows.FnPartsSaid :=
  OpenClaim.holds_of_wide 8 Try.f8 rfl rfl rfl rfl rfl rfl rfl ⟨rfl, rfl, rfl, rfl, rfl⟩ rfl rfl rfl rfl rfl (by kernel_rfl) Try.func8 (by kernel_rfl)
    (of_decide_eq_true (by kernel_rfl)) (by unfold Func.isWrapper; first | (rw [if_pos (by decide +kernel)]; kernel_rfl) | (rw [if_neg (by decide +kernel)]; exact ⟨rfl, rfl⟩))
    (fun os started H enc _ => lifted os started H enc)
end lawFnParts
end Go.Proofs.Ytfodfapaidfhbab

/- FnNorm: whatever the code draws, the norm of both sides is the same, 0 for 0 alone, and it is the product with the mirrored number; no condition. -/
import Derived.Test.YtfodfapaidfhbacGw
import Derived.Test.YtfodfapaidfhbacMul
import Derived.Test.YtfodfapaidfhbacDrawB
import Derived.Test.YtfodfapaidfhbacBaseP
import Derived.ChangeKeysEq
import Derived.OwnWalk
namespace Go.Proofs.Ytfodfapaidfhbac
set_option linter.unusedSimpArgs false
set_option linter.unusedVariables false
open Go.ChangeShapes Go.WideShapes Go.ChangeAt Go.RowKit Go.Joins

theorem drawNm_c (v : Value) (w : World) (h : Code v w) : Calls Try.prog 27 #[v] w (One w) := by
  go_enter Try.func27, Try.ntmps27
  go_wp2_with fail
  generalize hW : World.alloc _ _ = W0
  have c0 : W0.cell? ⟨w.heap.size, 0, none⟩ = some (.int .i64 0) := by rw [← hW]; clear hW; go_simp
  have c1 : W0.cell? ⟨w.heap.size, 1, none⟩ = some (.int .i64 0) := by rw [← hW]; clear hW; go_simp
  have f0 : W0.frozen? ⟨w.heap.size, 0, none⟩ = false := by rw [← hW]; clear hW; go_simp
  have f1 : W0.frozen? ⟨w.heap.size, 1, none⟩ = false := by rw [← hW]; clear hW; go_simp
  have hB : Below w.heap.size w W0 := by rw [← hW]; (repeat' (first | assumption | exact Below.refl _ _ | apply Blw.alloc | apply Blw.drew | apply Blw.drewN | (refine Blw.after ?_ (by assumption)) | (refine Blw.set ?_ (by first | (dsimp only; omega) | (simp; done) | (simp; omega)) _)))
  have h0 : Code v W0 := by rw [← hW]; exact h.keep ((Below.refl _ _).alloc (Nat.le_refl _) _)
  have z0 : w.heap.size < W0.heap.size := World.block_lt_of_cell? W0 _ c0
  clear hW
  go_wp2_with fail
  refine (l6Open_c v W0 h0).mono ?_
  rintro e W1 ⟨sv, rfl, hr, hs, hz, hb⟩
  go_wp2_with fail
  refine (l91Gauss_c W0.heap.size sv 0 W1 hs hr ⟨by omega, by omega⟩).mono ?_
  rintro e W2 ⟨v', p', ⟨x, y, rfl, hx, hy⟩, rfl, -, -, -, -, m⟩
  have d0 := m.cell (by omega) (by omega) (keepcell hb c0)
  have d1 := m.cell (by omega) (by omega) (keepcell hb c1)
  have e0 := m.froz (by omega) (by omega) (((bcell hb).2 _ _ z0).trans f0)
  have e1 := m.froz (by omega) (by omega) (((bcell hb).2 _ _ z0).trans f1)
  have hB2 : Below w.heap.size w W2 := m.2.2.2 w (Blw.after hB hb) (by omega)
  go_wp2_with fail
  exact bodyPost_ret (v := .agg #[.int .i64 x, .int .i64 y]) (by simp [results, Try.results27, go_sem, *]) rfl ⟨x, y, rfl, hx, hy, by (repeat' (first | assumption | exact Below.refl _ _ | apply Blw.alloc | apply Blw.drew | apply Blw.drewN | (refine Blw.after ?_ (by assumption)) | (refine Blw.set ?_ (by first | (dsimp only; omega) | (simp; done) | (simp; omega)) _)))⟩
theorem norm_nil {x y : Int} : x * x + y * y = 0 ↔ x = 0 ∧ y = 0 := by
  have hx : 0 ≤ x * x := by rcases Int.le_total 0 x with h | h; exact Int.mul_nonneg h h; exact Int.mul_nonneg_of_nonpos_of_nonpos h h
  have hy : 0 ≤ y * y := by rcases Int.le_total 0 y with h | h; exact Int.mul_nonneg h h; exact Int.mul_nonneg_of_nonpos_of_nonpos h h
  constructor
  · intro h
    have a : x * x = 0 := by omega
    have b : y * y = 0 := by omega
    exact ⟨by rcases Int.mul_eq_zero.1 a with h | h <;> exact h, by rcases Int.mul_eq_zero.1 b with h | h <;> exact h⟩
  · rintro ⟨rfl, rfl⟩; rfl
set_option maxHeartbeats 4000000 in
set_option maxRecDepth 10000 in
theorem lawNorm_c (a : Option Addr) (len cap : Nat) (w : World) (hc : len ≤ 1048576 → Code (.slice a len cap) w) : Calls Try.prog 6 #[.slice a len cap] w fun e w' => e = .returned (.bool true) ∧ Below w.heap.size w w' := by
  by_cases hl : 1048576 < len
  · go_enter Try.func6, Try.ntmps6
    go_wp2_with fail
    go_ret
    exact ⟨rfl, by (repeat' (first | assumption | exact Below.refl _ _ | apply Blw.alloc | apply Blw.drew | apply Blw.drewN | (refine Blw.after ?_ (by assumption)) | (refine Blw.set ?_ (by first | (dsimp only; omega) | (simp; done) | (simp; omega)) _)))⟩
  · have hc' := hc (by omega)
    clear hc
    go_enter Try.func6, Try.ntmps6
    go_wp2_with fail
    refine (drawNm_c _ w hc').mono ?_
    rintro e W1 ⟨x, y, rfl, ⟨x0, x1⟩, ⟨y0, y1⟩, hb1⟩
    clear hc'
    go_wp2_with fail
    generalize hW : World.alloc _ _ = W0
    have kW0_1 : W0.cell? ⟨W1.heap.size, 0, none⟩ = some (.int .i64 (x)) := by rw [← hW]; clear hW; first | (go_simp; done) | ((repeat refine keepcell ((Below.refl _ _).alloc (Nat.le_refl _) _) ?_); go_simp; done) | (simp only [frozen?_alloc_cells]; go_simp; done)
    have kW0_2 : W0.cell? ⟨W1.heap.size, 1, none⟩ = some (.int .i64 (y)) := by rw [← hW]; clear hW; first | (go_simp; done) | ((repeat refine keepcell ((Below.refl _ _).alloc (Nat.le_refl _) _) ?_); go_simp; done) | (simp only [frozen?_alloc_cells]; go_simp; done)
    have : W1.heap.size < W0.heap.size := World.block_lt_of_cell? W0 ⟨W1.heap.size, 0, none⟩ (by assumption)
    have hBW0 : Below w.heap.size w W0 := by rw [← hW]; (repeat' (first | assumption | exact Below.refl _ _ | apply Blw.alloc | apply Blw.drew | apply Blw.drewN | (refine Blw.after ?_ (by assumption)) | (refine Blw.set ?_ (by first | (dsimp only; omega) | (simp; done) | (simp; omega)) _)))
    have hsW0 := hBW0.size
    clear hW
    rcases Bool.eq_false_or_eq_true (inB 1000000 x y) with hi | hi
    · obtain ⟨b1, b2, b3, b4⟩ := inB_le hi
      have hi2 : inB 1000000 x (-y) = true := by simp [inB, inR]; omega
      have V1 := wdV_yes hi
      have V2 := wdV_yes hi2
      have e50 : (2 : Nat) ^ 50 = 1125899906842624 := by decide
      have w1 := wn_int (n := x) (by omega)
      have w2 := wn_int (n := y) (by omega)
      have w3 := wn_int (n := -y) (by omega)
      obtain ⟨re, im, m1, m2, -⟩ := cmul_exact w1 w2 w1 w3 ⟨b1, b2⟩ ⟨b3, b4⟩ ⟨b1, b2⟩ ⟨by omega, by omega⟩
      have en : x * x - y * -y = x * x + y * y := by rw [Int.mul_neg]; omega
      rw [en] at m2
      have sx := sq50 (a := x) (b := x) ⟨b1, b2⟩ ⟨b1, b2⟩
      have sy := sq50 (a := y) (b := y) ⟨b3, b4⟩ ⟨b3, b4⟩
      have w4 := wn_int (n := x * x + y * y) (by omega)
      have o1 := wn_same m2 w4
      have f1 := fun w => run_complex_mul (P := Try.prog) w 33 _ _ _ _ re im m1
      have hN : normV x y = x * x + y * y := by unfold normV; rw [if_pos hi]
      have hnn : 0 ≤ x * x + y * y := by
        have hx : 0 ≤ x * x := by rcases Int.le_total 0 x with h | h; exact Int.mul_nonneg h h; exact Int.mul_nonneg_of_nonpos_of_nonpos h h
        have hy : 0 ≤ y * y := by rcases Int.le_total 0 y with h | h; exact Int.mul_nonneg h h; exact Int.mul_nonneg_of_nonpos_of_nonpos h h
        omega
      have hz := norm_nil (x := x) (y := y)
      have D1 := fun w => iGaussNorm_c x y w
      have D2 := fun w => sGaussNorm_c x y w
      rw [hN] at D1 D2
      have HI := Lib.hid D1
      have HS := Lib.hid D2
      have E1 := Lib.hid (show ∀ w, Calls Try.prog 22 #[pr x y] w fun e w' => e = .returned (.tuple #[.complex .f64 (floatOfInt .f64 x) (floatOfInt .f64 y), .bool true]) ∧ Below w.heap.size w w' from fun w => by rw [← V1]; exact iGaussWd_c x y w)
      have E2 := Lib.hid (show ∀ w, Calls Try.prog 22 #[pr x (-y)] w fun e w' => e = .returned (.tuple #[.complex .f64 (floatOfInt .f64 x) (floatOfInt .f64 (-y)), .bool true]) ∧ Below w.heap.size w w' from fun w => by rw [← V2]; exact iGaussWd_c x (-y) w)
      have F1 := Lib.hid f1
      have O1 := Lib.hid o1
      have HZ := Lib.hid hz
      clear D1 D2 hN hi hi2 V1 V2 w1 w2 w3 w4 m1 m2 en f1 o1 hz sx sy
      generalize x * x + y * y = n at *
      go_wp2_with (fail)
      refine (HI.out _).mono ?_
      rintro e wA ⟨rfl, hbwA⟩
      have hkwA : Hld W0 wA := heldM (by (repeat' (first | assumption | exact Below.refl _ _ | apply Blw.alloc | apply Blw.drew | apply Blw.drewN | (refine Blw.after ?_ (by assumption)) | (refine Blw.set ?_ (by first | (dsimp only; omega) | (simp; done) | (simp; omega)) _))))
      have hlwA := hkwA.1
      have hswA := hkwA.2.2.2
      try (have : W1.heap.size < wA.heap.size := by omega)
      go_wp2_with (fail)
      refine (HS.out _).mono ?_
      rintro e wB ⟨rfl, hbwB⟩
      have hkwB : Hld W0 wB := heldM (by (repeat' (first | assumption | exact Below.refl _ _ | apply Blw.alloc | apply Blw.drew | apply Blw.drewN | (refine Blw.after ?_ (by assumption)) | (refine Blw.set ?_ (by first | (dsimp only; omega) | (simp; done) | (simp; omega)) _))))
      have hlwB := hkwB.1
      have hswB := hkwB.2.2.2
      try (have : W1.heap.size < wB.heap.size := by omega)
      go_wp2_with (fail)
      refine (E1.out _).mono ?_
      rintro e wC ⟨rfl, hbwC⟩
      have hkwC : Hld W0 wC := heldM (by (repeat' (first | assumption | exact Below.refl _ _ | apply Blw.alloc | apply Blw.drew | apply Blw.drewN | (refine Blw.after ?_ (by assumption)) | (refine Blw.set ?_ (by first | (dsimp only; omega) | (simp; done) | (simp; omega)) _))))
      have hlwC := hkwC.1
      have hswC := hkwC.2.2.2
      try (have : W1.heap.size < wC.heap.size := by omega)
      go_wp2_with (fail)
      refine (E2.out _).mono ?_
      rintro e wD ⟨rfl, hbwD⟩
      have hkwD : Hld W0 wD := heldM (by (repeat' (first | assumption | exact Below.refl _ _ | apply Blw.alloc | apply Blw.drew | apply Blw.drewN | (refine Blw.after ?_ (by assumption)) | (refine Blw.set ?_ (by first | (dsimp only; omega) | (simp; done) | (simp; omega)) _))))
      have hlwD := hkwD.1
      have hswD := hkwD.2.2.2
      try (have : W1.heap.size < wD.heap.size := by omega)
      have f1 := F1.out
      have o1 := O1.out
      clear F1 E1 E2
      generalize floatOfInt .f64 x = A at *
      generalize floatOfInt .f64 y = B at *
      generalize floatOfInt .f64 (-y) = C at *
      by_cases hx : x = 0
      · by_cases hy : y = 0
        · have hn : n = 0 := HZ.out.2 ⟨hx, hy⟩
          have g1 : (n == 0) = true := by simp [hn]
          clear hn
          go_wp2_with fail
          go_ret
          exact ⟨by simp [*], by (repeat' (first | assumption | exact Below.refl _ _ | apply Blw.alloc | apply Blw.drew | apply Blw.drewN | (refine Blw.after ?_ (by assumption)) | (refine Blw.set ?_ (by first | (dsimp only; omega) | (simp; done) | (simp; omega)) _)))⟩
        · have g1 : (n == 0) = false := by simp; intro h; exact hy (HZ.out.1 h).2
          go_wp2_with fail
          go_ret
          exact ⟨by simp [*], by (repeat' (first | assumption | exact Below.refl _ _ | apply Blw.alloc | apply Blw.drew | apply Blw.drewN | (refine Blw.after ?_ (by assumption)) | (refine Blw.set ?_ (by first | (dsimp only; omega) | (simp; done) | (simp; omega)) _)))⟩
      · have g1 : (n == 0) = false := by simp; intro h; exact hx (HZ.out.1 h).1
        go_wp2_with fail
        go_ret
        exact ⟨by simp [*], by (repeat' (first | assumption | exact Below.refl _ _ | apply Blw.alloc | apply Blw.drew | apply Blw.drewN | (refine Blw.after ?_ (by assumption)) | (refine Blw.set ?_ (by first | (dsimp only; omega) | (simp; done) | (simp; omega)) _)))⟩
    · have hN : normV x y = -1 := by unfold normV; rw [if_neg (by simp [hi])]
      have D1 := fun w => iGaussNorm_c x y w
      have D2 := fun w => sGaussNorm_c x y w
      rw [hN] at D1 D2
      go_wp2_with (fail)
      refine (D1 _).mono ?_
      rintro e wA ⟨rfl, hbwA⟩
      have hkwA : Hld W0 wA := heldM (by (repeat' (first | assumption | exact Below.refl _ _ | apply Blw.alloc | apply Blw.drew | apply Blw.drewN | (refine Blw.after ?_ (by assumption)) | (refine Blw.set ?_ (by first | (dsimp only; omega) | (simp; done) | (simp; omega)) _))))
      have hlwA := hkwA.1
      have hswA := hkwA.2.2.2
      try (have : W1.heap.size < wA.heap.size := by omega)
      go_wp2_with (fail)
      refine (D2 _).mono ?_
      rintro e wB ⟨rfl, hbwB⟩
      have hkwB : Hld W0 wB := heldM (by (repeat' (first | assumption | exact Below.refl _ _ | apply Blw.alloc | apply Blw.drew | apply Blw.drewN | (refine Blw.after ?_ (by assumption)) | (refine Blw.set ?_ (by first | (dsimp only; omega) | (simp; done) | (simp; omega)) _))))
      have hlwB := hkwB.1
      have hswB := hkwB.2.2.2
      try (have : W1.heap.size < wB.heap.size := by omega)
      go_wp2_with fail
      go_ret
      exact ⟨rfl, by (repeat' (first | assumption | exact Below.refl _ _ | apply Blw.alloc | apply Blw.drew | apply Blw.drewN | (refine Blw.after ?_ (by assumption)) | (refine Blw.set ?_ (by first | (dsimp only; omega) | (simp; done) | (simp; omega)) _)))⟩

namespace lawFnNorm
set_option maxRecDepth 100000 in
theorem lifted (os : Os) (started : os.Started) (H : Type) (enc : TypeId × Value → H) :
    ReturnsInHanded {} Try.checked os 6 .any (Rows.fnNormSpec.pre6 enc Try.prog Try.f6 Rows.fnNormRow.domain false) (Rows.fnNormSpec.post enc Try.prog Try.f6 false true false false) := by
  refine returnsInHanded_of_change (C := Try.checked) own started (by kernel_rfl) Try.func6
    (ChangeSpec.witness6 (enc := enc) (C := Try.checked) false ⟨#[], #[.slice none 0 0], []⟩ 8 (by kernel_rfl) (by kernel_rfl) (by kernel_rfl) (by kernel_rfl)) ?_
  intro W base args ds gs before hval0 hW _ _
  have hval : ∀ (j : Nat) t v, Try.f6.params[j]? = some t → args[j]? = some v → Value.okWide Try.prog W .any base t v := hval0
  have hW' := hW
  obtain ⟨p, q, hA0, hV, rfl, _, _⟩ := hW
  have hA : DataW.TrodAll enc Try.prog W 0 (fun _ => true) true Try.f6.params.toList args.toList ds p := hA0
  rw [Try.params6] at hA hval
  obtain ⟨v0, vs0, d0, ds0, p0, q0, hargs, rfl, rfl, h0, r0⟩ := trodAll_cons hA
  obtain ⟨rfl, rfl, rfl⟩ := trodAll_nil r0
  obtain rfl : args = #[v0] := by cases args; simp_all
  obtain ⟨rfl, rfl⟩ := trodVars_none hV
  obtain ⟨a, len, cap, rfl⟩ := okWide_slice Try.underlying22 (hval 0 22 v0 rfl rfl)
  clear hA0 hval0
  simp only [List.append_nil] at hW'
  have hlt : ∀ x ∈ p0, x.block < W.heap.size := fun x hx => by simpa using hW'.lt x hx
  refine (lawNorm_c a len cap W (code_of h0)).mono fun e W' ⟨he, hg⟩ => ?_
  subst he
  have harg := Below.trod laidOut (by kernel_rfl) (of_decide_eq_true (by kernel_rfl)) h0 hg hlt
  refine ⟨_, rfl, _, _, _, [], p0, [], hW', ?_, ?_, ?_, hg.frame _, fun h => by cases h⟩
  · exact trodAll_cons_mk (shut_bool Try.underlying4 _) trodAll_mk0
  · exact trodAll_mk1 harg
  · rfl

theorem proved : Rows.FnNormSaid :=
  OpenClaim.holds_of_wide 6 Try.f6 rfl rfl rfl rfl rfl rfl rfl ⟨rfl, rfl, rfl, rfl, rfl⟩ rfl rfl rfl rfl rfl (by kernel_rfl) Try.func6 (by kernel_rfl)
    (of_decide_eq_true (by kernel_rfl)) (by unfold Func.isWrapper; first | (rw [if_pos (by decide +kernel)]; kernel_rfl) | (rw [if_neg (by decide +kernel)]; exact ⟨rfl, rfl⟩))
    (fun os started H enc _ => lifted os started H enc)
end lawFnNorm
end Go.Proofs.Ytfodfapaidfhbac

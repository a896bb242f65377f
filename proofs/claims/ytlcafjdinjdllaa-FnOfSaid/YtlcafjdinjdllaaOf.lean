/- A complex128 read as a Gaussian number, of both sides: numbers, halves, infinities, and what is no number. No law is stated here. -/
import Derived.Test.YtlcafjdinjdllaaGw
import Derived.Laws.Cover3
namespace Go.Proofs.Ytlcafjdinjdllaa
set_option linter.unusedSimpArgs false
set_option linter.unusedVariables false
open Go.RowKit Ieee

/-- no number, by every comparison -/
def Nan (x : Nat) : Prop := ∀ z, FloatKind.f64.format.order x z = none ∧ FloatKind.f64.format.order z x = none
theorem nan_of {x : Nat} {s : Bool} {p : Nat} (h : FloatKind.f64.format.read x = .nan s p) : Nan x := by
  intro z
  unfold Format.order
  rw [h]
  constructor
  · rfl
  · cases FloatKind.f64.format.read z <;> rfl
theorem nan_cut (t x y : Nat) : Nan ((Question.nanBits .f64 x y).cut t) := by
  have e : (Question.nanBits .f64 x y).cut t = (t % 2) * 9223372036854775808 + 9218868437227405312 + 1 + (t / 2) % 4503599627370495 := rfl
  rw [e]
  generalize hz : (t % 2) * 9223372036854775808 + 9218868437227405312 + 1 + (t / 2) % 4503599627370495 = z
  have e1 : FloatKind.f64.format.signWeight = 9223372036854775808 := by decide
  have e2 : FloatKind.f64.format.binade = 4503599627370496 := by decide
  have e3 : FloatKind.f64.format.infRung = 9218868437227405312 := by decide
  have hr : z % 9223372036854775808 = 9218868437227405312 + 1 + (t / 2) % 4503599627370495 := by omega
  have hm : (t / 2) % 4503599627370495 < 4503599627370495 := Nat.mod_lt _ (by omega)
  refine nan_of (s := z / 9223372036854775808 % 2 == 1) (p := z % 9223372036854775808 - 9218868437227405312) ?_
  unfold Format.read
  simp only [e1, e2, e3]
  rw [if_neg (by omega), if_neg (by omega), if_neg (by omega)]
theorem run_nought (w : World) : ∃ x, Nan x ∧ (binOp .quo 62 (.float .f64 0) (.float .f64 0)).run Try.prog w = .ok (.float .f64 x) w.drew := by
  refine ⟨_, nan_cut (w.tape w.drawn (.nanBits .f64 0 0)) 0 0, ?_⟩
  have e : FloatKind.f64.format.div 0 0 = none := by decide +kernel
  simp [binOp, Op.floatArith, e, Question.forced]

theorem geq_of {x y : Nat} {a b : Int} (hx : Vl .f64 x (a * 2 ^ un .f64)) (hy : Vl .f64 y (b * 2 ^ un .f64)) (h : b ≤ a) :
    (FloatKind.f64.format.order x y == some .gt || FloatKind.f64.format.order x y == some .eq) = true := by
  rw [vl_order hx hy, scale_cmp]
  rcases Int.lt_or_eq_of_le h with h | h
  · rw [Int.compare_eq_gt.2 h]; rfl
  · rw [Int.compare_eq_eq.2 h.symm]; rfl
theorem nz_word : FloatKind.f64.format.nearest true 0 0 = 9223372036854775808 := by decide +kernel
theorem nz_vl : Vl .f64 9223372036854775808 (0 * 2 ^ un .f64) := by
  have h := fl_wholeK .f64 true (m := 0) (by omega)
  rw [nz_word] at h
  refine ⟨_, _, h, ?_⟩
  simp [sg]
set_option maxHeartbeats 2000000 in
theorem sOf_c (x y : Nat) (X Y : Int) (w : World) (hx : Vl .f64 x (X * 2 ^ un .f64)) (hy : Vl .f64 y (Y * 2 ^ un .f64)) (hX : -1000000 ≤ X ∧ X ≤ 1000000) (hY : -1000000 ≤ Y ∧ Y ≤ 1000000) :
    Calls Try.prog 18 #[.complex .f64 x y] w fun e w' => e = .returned (.tuple #[pr X Y, .bool true]) ∧ Below w.heap.size w w' := by
  have lo := int_vl (x := -1000000) (by omega)
  have hi := int_vl (x := 1000000) (by omega)
  rw [low_word] at lo
  rw [high_word] at hi
  have c1 := geq_of hx lo hX.1
  have c2 := leq_of hx hi hX.2
  have c3 := geq_of hy lo hY.1
  have c4 := leq_of hy hi hY.2
  have g1 : FloatKind.f64.format.order (floatOfInt .f64 X) x = some .eq := vl_same (int_vl hX) hx
  have g2 : FloatKind.f64.format.order (floatOfInt .f64 Y) y = some .eq := vl_same (int_vl hY) hy
  have f1 := fun w => run_convert_float_int (P := Try.prog) w 62 3 .f64 .i64 x X (by rw [Try.underlying62]; rfl) Try.underlying3 (toInt_val hx hX)
  have f2 := fun w => run_convert_float_int (P := Try.prog) w 62 3 .f64 .i64 y Y (by rw [Try.underlying62]; rfl) Try.underlying3 (toInt_val hy hY)
  clear lo hi hx hy hX hY
  go_enter Try.func18, Try.ntmps18
  go_wp2_with fail
  exact bodyPost_ret (v := .tuple #[pr X Y, .bool true]) (by simp [results, Try.results18, go_sem, *]) rfl ⟨rfl, by (repeat' (first | assumption | exact Below.refl _ _ | apply Blw.alloc | apply Blw.drew | apply Blw.drewN | (refine Blw.after ?_ (by assumption)) | (refine Blw.set ?_ (by first | (dsimp only; omega) | (simp; done) | (simp; omega)) _)))⟩

/-- what is refused: no number; an infinity; a half -/
def Bad (x y : Nat) : Prop := Nan x ∨ (x = 9218868437227405312 ∧ y = 0) ∨ (x = 4602678819172646912 ∧ y = 9223372036854775808)
set_option maxHeartbeats 2000000 in
theorem sOf_bad (x y : Nat) (w : World) (h : Bad x y) : Calls Try.prog 18 #[.complex .f64 x y] w fun e w' => e = .returned (.tuple #[pr 0 0, .bool false]) ∧ Below w.heap.size w w' := by
  rcases h with h | ⟨rfl, rfl⟩ | ⟨rfl, rfl⟩
  · have o1 := (h 13920209183539462144).1
    clear h
    go_enter Try.func18, Try.ntmps18
    go_wp2_with fail
    exact bodyPost_ret (v := .tuple #[pr 0 0, .bool false]) (by simp [results, Try.results18, go_sem, *]) rfl ⟨rfl, by (repeat' (first | assumption | exact Below.refl _ _ | apply Blw.alloc | apply Blw.drew | apply Blw.drewN | (refine Blw.after ?_ (by assumption)) | (refine Blw.set ?_ (by first | (dsimp only; omega) | (simp; done) | (simp; omega)) _)))⟩
  · have o1 : FloatKind.f64.format.order 9218868437227405312 13920209183539462144 = some .gt := by decide +kernel
    have o2 : FloatKind.f64.format.order 9218868437227405312 4696837146684686336 = some .gt := by decide +kernel
    go_enter Try.func18, Try.ntmps18
    go_wp2_with fail
    exact bodyPost_ret (v := .tuple #[pr 0 0, .bool false]) (by simp [results, Try.results18, go_sem, *]) rfl ⟨rfl, by (repeat' (first | assumption | exact Below.refl _ _ | apply Blw.alloc | apply Blw.drew | apply Blw.drewN | (refine Blw.after ?_ (by assumption)) | (refine Blw.set ?_ (by first | (dsimp only; omega) | (simp; done) | (simp; omega)) _)))⟩
  · have o1 : FloatKind.f64.format.order 4602678819172646912 13920209183539462144 = some .gt := by decide +kernel
    have o2 : FloatKind.f64.format.order 4602678819172646912 4696837146684686336 = some .lt := by decide +kernel
    have o3 : FloatKind.f64.format.order 9223372036854775808 13920209183539462144 = some .gt := by decide +kernel
    have o4 : FloatKind.f64.format.order 9223372036854775808 4696837146684686336 = some .lt := by decide +kernel
    have f1 := fun w => run_convert_float_int (P := Try.prog) w 62 3 .f64 .i64 4602678819172646912 0 (by rw [Try.underlying62]; rfl) Try.underlying3 (by decide +kernel)
    have f2 := fun w => run_convert_float_int (P := Try.prog) w 62 3 .f64 .i64 9223372036854775808 0 (by rw [Try.underlying62]; rfl) Try.underlying3 (by decide +kernel)
    have o5 : FloatKind.f64.format.order (floatOfInt .f64 0) 4602678819172646912 = some .lt := by decide +kernel
    go_enter Try.func18, Try.ntmps18
    go_wp2_with fail
    exact bodyPost_ret (v := .tuple #[pr 0 0, .bool false]) (by simp [results, Try.results18, go_sem, *]) rfl ⟨rfl, by (repeat' (first | assumption | exact Below.refl _ _ | apply Blw.alloc | apply Blw.drew | apply Blw.drewN | (refine Blw.after ?_ (by assumption)) | (refine Blw.set ?_ (by first | (dsimp only; omega) | (simp; done) | (simp; omega)) _)))⟩
set_option maxHeartbeats 2000000 in
theorem wpair_bad (x y : Nat) (w : World) (h : Bad x y) : Calls Try.prog 42 #[.complex .f64 x y] w fun e w' => e = .returned (.tuple #[pr 0 0, .bool false]) ∧ Below w.heap.size w w' := by
  rcases h with h | ⟨rfl, rfl⟩ | ⟨rfl, rfl⟩
  · have o1 := (h 13920209183539462144).2
    clear h
    go_enter Try.func42, Try.ntmps42
    go_wp2_with fail
    exact bodyPost_ret (v := .tuple #[pr 0 0, .bool false]) (by simp [results, Try.results42, go_sem, *]) rfl ⟨rfl, by (repeat' (first | assumption | exact Below.refl _ _ | apply Blw.alloc | apply Blw.drew | apply Blw.drewN | (refine Blw.after ?_ (by assumption)) | (refine Blw.set ?_ (by first | (dsimp only; omega) | (simp; done) | (simp; omega)) _)))⟩
  · have o1 : FloatKind.f64.format.order 13920209183539462144 9218868437227405312 = some .lt := by decide +kernel
    have o2 : FloatKind.f64.format.order 9218868437227405312 4696837146684686336 = some .gt := by decide +kernel
    go_enter Try.func42, Try.ntmps42
    go_wp2_with fail
    exact bodyPost_ret (v := .tuple #[pr 0 0, .bool false]) (by simp [results, Try.results42, go_sem, *]) rfl ⟨rfl, by (repeat' (first | assumption | exact Below.refl _ _ | apply Blw.alloc | apply Blw.drew | apply Blw.drewN | (refine Blw.after ?_ (by assumption)) | (refine Blw.set ?_ (by first | (dsimp only; omega) | (simp; done) | (simp; omega)) _)))⟩
  · have o1 : FloatKind.f64.format.order 13920209183539462144 4602678819172646912 = some .lt := by decide +kernel
    have o2 : FloatKind.f64.format.order 4602678819172646912 4696837146684686336 = some .lt := by decide +kernel
    have o3 : FloatKind.f64.format.order 13920209183539462144 9223372036854775808 = some .lt := by decide +kernel
    have o4 : FloatKind.f64.format.order 9223372036854775808 4696837146684686336 = some .lt := by decide +kernel
    have f1 := fun w => run_convert_float_int (P := Try.prog) w 62 3 .f64 .i64 4602678819172646912 0 (by rw [Try.underlying62]; rfl) Try.underlying3 (by decide +kernel)
    have f2 := fun w => run_convert_float_int (P := Try.prog) w 62 3 .f64 .i64 9223372036854775808 0 (by rw [Try.underlying62]; rfl) Try.underlying3 (by decide +kernel)
    have o5 : FloatKind.f64.format.order (floatOfInt .f64 0) 4602678819172646912 = some .lt := by decide +kernel
    go_enter Try.func42, Try.ntmps42
    go_wp2_with fail
    generalize hW : World.alloc (World.alloc w _) _ = W0
    have kW0_1 : W0.cell? ⟨w.heap.size, 0, none⟩ = some (.int .i64 (0)) := by rw [← hW]; clear hW; first | (go_simp; done) | ((repeat refine keepcell ((Below.refl _ _).alloc (Nat.le_refl _) _) ?_); go_simp; done) | (simp only [frozen?_alloc_cells]; go_simp; done)
    have zW0_1 : W0.frozen? ⟨w.heap.size, 0, none⟩ = false := by rw [← hW]; clear hW; first | (go_simp; done) | ((repeat refine keepcell ((Below.refl _ _).alloc (Nat.le_refl _) _) ?_); go_simp; done) | (simp only [frozen?_alloc_cells]; go_simp; done)
    have kW0_2 : W0.cell? ⟨w.heap.size, 1, none⟩ = some (.int .i64 (0)) := by rw [← hW]; clear hW; first | (go_simp; done) | ((repeat refine keepcell ((Below.refl _ _).alloc (Nat.le_refl _) _) ?_); go_simp; done) | (simp only [frozen?_alloc_cells]; go_simp; done)
    have zW0_2 : W0.frozen? ⟨w.heap.size, 1, none⟩ = false := by rw [← hW]; clear hW; first | (go_simp; done) | ((repeat refine keepcell ((Below.refl _ _).alloc (Nat.le_refl _) _) ?_); go_simp; done) | (simp only [frozen?_alloc_cells]; go_simp; done)
    have : w.heap.size < W0.heap.size := World.block_lt_of_cell? W0 ⟨w.heap.size, 0, none⟩ (by assumption)
    have kW0_3 : W0.cell? ⟨w.heap.size + 1, 0, none⟩ = some (.int .i64 (0)) := by rw [← hW]; clear hW; first | (go_simp; done) | ((repeat refine keepcell ((Below.refl _ _).alloc (Nat.le_refl _) _) ?_); go_simp; done) | (simp only [frozen?_alloc_cells]; go_simp; done)
    have kW0_4 : W0.cell? ⟨w.heap.size + 1, 1, none⟩ = some (.int .i64 (0)) := by rw [← hW]; clear hW; first | (go_simp; done) | ((repeat refine keepcell ((Below.refl _ _).alloc (Nat.le_refl _) _) ?_); go_simp; done) | (simp only [frozen?_alloc_cells]; go_simp; done)
    have : w.heap.size + 1 < W0.heap.size := World.block_lt_of_cell? W0 ⟨w.heap.size + 1, 0, none⟩ (by assumption)
    have hBW0 : Below w.heap.size w W0 := by rw [← hW]; (repeat' (first | assumption | exact Below.refl _ _ | apply Blw.alloc | apply Blw.drew | apply Blw.drewN | (refine Blw.after ?_ (by assumption)) | (refine Blw.set ?_ (by first | (dsimp only; omega) | (simp; done) | (simp; omega)) _)))
    have hsW0 := hBW0.size
    clear hW
    go_wp2_with ((go_at_call 43; refine (pwide_c _ _ _).mono ?_; rintro e w1 ⟨rfl, hb⟩; have hk : Hld W0 w1 := heldM (by (repeat' (first | assumption | exact Below.refl _ _ | apply Blw.alloc | apply Blw.drew | apply Blw.drewN | (refine Blw.after ?_ (by assumption)) | (refine Blw.set ?_ (by first | (dsimp only; omega) | (simp; done) | (simp; omega)) _)))); have hk1 := hk.1))
    exact bodyPost_ret (v := .tuple #[pr 0 0, .bool false]) (by simp [results, Try.results42, go_sem, *]) rfl ⟨rfl, by (repeat' (first | assumption | exact Below.refl _ _ | apply Blw.alloc | apply Blw.drew | apply Blw.drewN | (refine Blw.after ?_ (by assumption)) | (refine Blw.set ?_ (by first | (dsimp only; omega) | (simp; done) | (simp; omega)) _)))⟩
set_option maxHeartbeats 2000000 in
theorem iOf_bad (x y : Nat) (w : World) (h : Bad x y) : Calls Try.prog 17 #[.complex .f64 x y] w fun e w' => e = .returned (.tuple #[pr 0 0, .bool false]) ∧ Below w.heap.size w w' := by
  have HW := Lib.hid (fun w => wpair_bad x y w h)
  clear h
  go_enter Try.func17, Try.ntmps17
  go_wp2_with fail
  generalize hW : World.alloc _ _ = W0
  have kW0_5 : W0.cell? ⟨w.heap.size, 0, none⟩ = some (.int .i64 (0)) := by rw [← hW]; clear hW; first | (go_simp; done) | ((repeat refine keepcell ((Below.refl _ _).alloc (Nat.le_refl _) _) ?_); go_simp; done) | (simp only [frozen?_alloc_cells]; go_simp; done)
  have zW0_5 : W0.frozen? ⟨w.heap.size, 0, none⟩ = false := by rw [← hW]; clear hW; first | (go_simp; done) | ((repeat refine keepcell ((Below.refl _ _).alloc (Nat.le_refl _) _) ?_); go_simp; done) | (simp only [frozen?_alloc_cells]; go_simp; done)
  have kW0_6 : W0.cell? ⟨w.heap.size, 1, none⟩ = some (.int .i64 (0)) := by rw [← hW]; clear hW; first | (go_simp; done) | ((repeat refine keepcell ((Below.refl _ _).alloc (Nat.le_refl _) _) ?_); go_simp; done) | (simp only [frozen?_alloc_cells]; go_simp; done)
  have zW0_6 : W0.frozen? ⟨w.heap.size, 1, none⟩ = false := by rw [← hW]; clear hW; first | (go_simp; done) | ((repeat refine keepcell ((Below.refl _ _).alloc (Nat.le_refl _) _) ?_); go_simp; done) | (simp only [frozen?_alloc_cells]; go_simp; done)
  have : w.heap.size < W0.heap.size := World.block_lt_of_cell? W0 ⟨w.heap.size, 0, none⟩ (by assumption)
  have hBW0 : Below w.heap.size w W0 := by rw [← hW]; (repeat' (first | assumption | exact Below.refl _ _ | apply Blw.alloc | apply Blw.drew | apply Blw.drewN | (refine Blw.after ?_ (by assumption)) | (refine Blw.set ?_ (by first | (dsimp only; omega) | (simp; done) | (simp; omega)) _)))
  have hsW0 := hBW0.size
  clear hW
  go_wp2_with fail
  refine (HW.out _).mono ?_
  rintro e wA ⟨rfl, hbA⟩
  have hkA : Hld W0 wA := heldM (by (repeat' (first | assumption | exact Below.refl _ _ | apply Blw.alloc | apply Blw.drew | apply Blw.drewN | (refine Blw.after ?_ (by assumption)) | (refine Blw.set ?_ (by first | (dsimp only; omega) | (simp; done) | (simp; omega)) _))))
  have hkA1 := hkA.1
  have hsA := hkA.2.2.2
  have : w.heap.size < wA.heap.size := by omega
  go_wp2_with fail
  generalize hW : World.alloc _ _ = W1
  have kW1_7 : W1.cell? ⟨w.heap.size, 0, none⟩ = some (.int .i64 (0)) := by rw [← hW]; clear hW; first | (go_simp; done) | ((repeat refine keepcell ((Below.refl _ _).alloc (Nat.le_refl _) _) ?_); go_simp; done) | (simp only [frozen?_alloc_cells]; go_simp; done)
  have zW1_7 : W1.frozen? ⟨w.heap.size, 0, none⟩ = false := by rw [← hW]; clear hW; first | (go_simp; done) | ((repeat refine keepcell ((Below.refl _ _).alloc (Nat.le_refl _) _) ?_); go_simp; done) | (simp only [frozen?_alloc_cells]; go_simp; done)
  have kW1_8 : W1.cell? ⟨w.heap.size, 1, none⟩ = some (.int .i64 (0)) := by rw [← hW]; clear hW; first | (go_simp; done) | ((repeat refine keepcell ((Below.refl _ _).alloc (Nat.le_refl _) _) ?_); go_simp; done) | (simp only [frozen?_alloc_cells]; go_simp; done)
  have zW1_8 : W1.frozen? ⟨w.heap.size, 1, none⟩ = false := by rw [← hW]; clear hW; first | (go_simp; done) | ((repeat refine keepcell ((Below.refl _ _).alloc (Nat.le_refl _) _) ?_); go_simp; done) | (simp only [frozen?_alloc_cells]; go_simp; done)
  have : w.heap.size < W1.heap.size := World.block_lt_of_cell? W1 ⟨w.heap.size, 0, none⟩ (by assumption)
  have hBW1 : Below w.heap.size w W1 := by rw [← hW]; (repeat' (first | assumption | exact Below.refl _ _ | apply Blw.alloc | apply Blw.drew | apply Blw.drewN | (refine Blw.after ?_ (by assumption)) | (refine Blw.set ?_ (by first | (dsimp only; omega) | (simp; done) | (simp; omega)) _)))
  have hsW1 := hBW1.size
  clear hW
  try clear kW0_5; try clear zW0_5; try clear kW0_6; try clear zW0_6
  go_wp2_with ((go_at_call 31; refine (gauss_c _ _ _).mono ?_; rintro e w1 ⟨rfl, hb⟩; have hk : Hld W1 w1 := heldM (by (repeat' (first | assumption | exact Below.refl _ _ | apply Blw.alloc | apply Blw.drew | apply Blw.drewN | (refine Blw.after ?_ (by assumption)) | (refine Blw.set ?_ (by first | (dsimp only; omega) | (simp; done) | (simp; omega)) _)))); have hk1 := hk.1))
  exact bodyPost_ret (v := .tuple #[pr 0 0, .bool false]) (by simp [results, Try.results17, go_sem, *]) rfl ⟨rfl, by (repeat' (first | assumption | exact Below.refl _ _ | apply Blw.alloc | apply Blw.drew | apply Blw.drewN | (refine Blw.after ?_ (by assumption)) | (refine Blw.set ?_ (by first | (dsimp only; omega) | (simp; done) | (simp; omega)) _)))⟩
end Go.Proofs.Ytlcafjdinjdllaa

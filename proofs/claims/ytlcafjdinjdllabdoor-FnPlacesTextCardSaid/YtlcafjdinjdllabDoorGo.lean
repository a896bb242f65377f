/- A complex128 that stands for a Gaussian number, read by the program. No law is stated here. -/
import Derived.Test.YtlcafjdinjdllabDoorEx
import Derived.Test.YtlcafjdinjdllabDoorGc
import Derived.Test.YtlcafjdinjdllabDoorPwd
namespace Go.Proofs.YtlcafjdinjdllabDoor
set_option linter.unusedSimpArgs false
set_option linter.unusedVariables false
open Go.RowKit Ieee

theorem cut_zero (s : Bool) (n p : Nat) : Toward.zero.cut s n p = n / 2 ^ p := by
  unfold Toward.cut
  simp only [Nat.one_shiftLeft, Bool.toNat_false, Nat.add_zero]
  rcases Nat.le_total p (n.log2 + 2) with h | h
  · rw [Nat.min_eq_left h]
  · rw [Nat.min_eq_right h]
    have h1 : n < 2 ^ (n.log2 + 1) := Nat.lt_log2_self
    have h2 : 2 ^ (n.log2 + 2) = 2 * 2 ^ (n.log2 + 1) := by rw [Nat.pow_succ]; omega
    have h3 : 2 ^ (n.log2 + 2) ≤ 2 ^ p := Nat.pow_le_pow_right (by omega) h
    rw [Nat.div_eq_of_lt (by omega), Nat.div_eq_of_lt (by omega)]
theorem toInt_vl {x : Nat} {X : Int} (h : Vl .f64 x (X * 2 ^ un .f64)) : (FloatKind.f64.decode x).toInt .zero = some X := by
  obtain ⟨s, V, ⟨m, k, h1, h2, _⟩, h3⟩ := h
  have hV := sg_of h3
  have hd : FloatKind.f64.decode x = .number s m (double.leastPlace + (k : Int)) := h1
  rw [hd]
  unfold Datum.toInt Datum.integral
  simp only [cut_zero, Nat.shiftLeft_eq, signed_sg, Nat.pow_zero, Nat.mul_one]
  rw [least_d]
  have hu : un .f64 = 1074 := rfl
  have e : m * 2 ^ ((-1074 : Int) + (k : Int)).toNat / 2 ^ (-((-1074 : Int) + (k : Int))).toNat = X.natAbs := by
    have hmk : m * 2 ^ k = X.natAbs * 2 ^ un .f64 := by rw [h2, hV]
    rcases Nat.le_total (un .f64) k with c | c
    · rw [show (-((-1074 : Int) + (k : Int))).toNat = 0 by omega, Nat.pow_zero, Nat.div_one, show ((-1074 : Int) + (k : Int)).toNat = k - un .f64 by omega]
      have e2 : m * 2 ^ k = m * 2 ^ (k - un .f64) * 2 ^ un .f64 := by rw [Nat.mul_assoc, ← Nat.pow_add, show k - un .f64 + un .f64 = k by omega]
      rw [e2] at hmk
      exact Nat.eq_of_mul_eq_mul_right (Nat.two_pow_pos _) hmk
    · rw [show ((-1074 : Int) + (k : Int)).toNat = 0 by omega, Nat.pow_zero, Nat.mul_one, show (-((-1074 : Int) + (k : Int))).toNat = un .f64 - k by omega]
      have e2 : X.natAbs * 2 ^ un .f64 = X.natAbs * 2 ^ (un .f64 - k) * 2 ^ k := by rw [Nat.mul_assoc, ← Nat.pow_add, show un .f64 - k + k = un .f64 by omega]
      rw [e2] at hmk
      rw [Nat.eq_of_mul_eq_mul_right (Nat.two_pow_pos _) hmk, Nat.mul_div_cancel _ (Nat.two_pow_pos _)]
  rw [e]
  rw [hV, sg_scale] at h3
  have hp : (2 : Int) ^ un .f64 ≠ 0 := Int.pow_ne_zero (by decide)
  rw [Int.eq_of_mul_eq_mul_right hp h3]
theorem toInt_val {x : Nat} {X : Int} (h : Vl .f64 x (X * 2 ^ un .f64)) (hX : -1000000 ≤ X ∧ X ≤ 1000000) : floatToIntVal .f64 x .i64 = some X := by
  unfold floatToIntVal
  rw [toInt_vl h]
  have e1 : IntKind.i64.min = -9223372036854775808 := rfl
  have e2 : IntKind.i64.max = 9223372036854775807 := rfl
  simp only [e1, e2]
  rw [if_pos (by omega)]
theorem leq_of {x y : Nat} {a b : Int} (hx : Vl .f64 x (a * 2 ^ un .f64)) (hy : Vl .f64 y (b * 2 ^ un .f64)) (h : a ≤ b) :
    (FloatKind.f64.format.order x y == some .lt || FloatKind.f64.format.order x y == some .eq) = true := by
  rw [vl_order hx hy, scale_cmp]
  rcases Int.lt_or_eq_of_le h with h | h
  · rw [Int.compare_eq_lt.2 h]; rfl
  · rw [Int.compare_eq_eq.2 h]; rfl
theorem low_word : floatOfInt .f64 (-1000000) = 13920209183539462144 := by decide +kernel
theorem high_word : floatOfInt .f64 1000000 = 4696837146684686336 := by decide +kernel
set_option maxHeartbeats 2000000 in
theorem wpair_c (x y : Nat) (X Y : Int) (w : World) (hx : Vl .f64 x (X * 2 ^ un .f64)) (hy : Vl .f64 y (Y * 2 ^ un .f64)) (hX : -1000000 ≤ X ∧ X ≤ 1000000) (hY : -1000000 ≤ Y ∧ Y ≤ 1000000) :
    Calls Tryd.prog 39 #[.complex .f64 x y] w fun e w' => e = .returned (.tuple #[pr X Y, .bool true]) ∧ Below w.heap.size w w' := by
  have lo := int_vl (x := -1000000) (by omega)
  have hi := int_vl (x := 1000000) (by omega)
  rw [low_word] at lo
  rw [high_word] at hi
  have c1 := leq_of lo hx hX.1
  have c2 := leq_of hx hi hX.2
  have c3 := leq_of lo hy hY.1
  have c4 := leq_of hy hi hY.2
  have g1 : FloatKind.f64.format.order (floatOfInt .f64 X) x = some .eq := vl_same (int_vl hX) hx
  have g2 : FloatKind.f64.format.order (floatOfInt .f64 Y) y = some .eq := vl_same (int_vl hY) hy
  have f1 := fun w => run_convert_float_int (P := Tryd.prog) w 65 3 .f64 .i64 x X (by rw [Tryd.underlying65]; rfl) Tryd.underlying3 (toInt_val hx hX)
  have f2 := fun w => run_convert_float_int (P := Tryd.prog) w 65 3 .f64 .i64 y Y (by rw [Tryd.underlying65]; rfl) Tryd.underlying3 (toInt_val hy hY)
  clear lo hi hx hy hX hY
  go_enter Tryd.func39, Tryd.ntmps39
  go_wp2_with fail
  generalize hW : World.alloc (World.alloc w _) _ = W0
  have kW0_31 : W0.cell? ⟨w.heap.size, 0, none⟩ = some (.int .i64 (0)) := by rw [← hW]; clear hW; first | (go_simp; done) | ((repeat refine keepcell ((Below.refl _ _).alloc (Nat.le_refl _) _) ?_); go_simp; done) | (simp only [frozen?_alloc_cells]; go_simp; done)
  have zW0_31 : W0.frozen? ⟨w.heap.size, 0, none⟩ = false := by rw [← hW]; clear hW; first | (go_simp; done) | ((repeat refine keepcell ((Below.refl _ _).alloc (Nat.le_refl _) _) ?_); go_simp; done) | (simp only [frozen?_alloc_cells]; go_simp; done)
  have kW0_32 : W0.cell? ⟨w.heap.size, 1, none⟩ = some (.int .i64 (0)) := by rw [← hW]; clear hW; first | (go_simp; done) | ((repeat refine keepcell ((Below.refl _ _).alloc (Nat.le_refl _) _) ?_); go_simp; done) | (simp only [frozen?_alloc_cells]; go_simp; done)
  have zW0_32 : W0.frozen? ⟨w.heap.size, 1, none⟩ = false := by rw [← hW]; clear hW; first | (go_simp; done) | ((repeat refine keepcell ((Below.refl _ _).alloc (Nat.le_refl _) _) ?_); go_simp; done) | (simp only [frozen?_alloc_cells]; go_simp; done)
  have : w.heap.size < W0.heap.size := World.block_lt_of_cell? W0 ⟨w.heap.size, 0, none⟩ (by assumption)
  have kW0_33 : W0.cell? ⟨w.heap.size + 1, 0, none⟩ = some (.int .i64 (X)) := by rw [← hW]; clear hW; first | (go_simp; done) | ((repeat refine keepcell ((Below.refl _ _).alloc (Nat.le_refl _) _) ?_); go_simp; done) | (simp only [frozen?_alloc_cells]; go_simp; done)
  have kW0_34 : W0.cell? ⟨w.heap.size + 1, 1, none⟩ = some (.int .i64 (Y)) := by rw [← hW]; clear hW; first | (go_simp; done) | ((repeat refine keepcell ((Below.refl _ _).alloc (Nat.le_refl _) _) ?_); go_simp; done) | (simp only [frozen?_alloc_cells]; go_simp; done)
  have : w.heap.size + 1 < W0.heap.size := World.block_lt_of_cell? W0 ⟨w.heap.size + 1, 0, none⟩ (by assumption)
  have hBW0 : Below w.heap.size w W0 := by rw [← hW]; (repeat' (first | assumption | exact Below.refl _ _ | apply Blw.alloc | apply Blw.drew | apply Blw.drewN | (refine Blw.after ?_ (by assumption)) | (refine Blw.set ?_ (by first | (dsimp only; omega) | (simp; done) | (simp; omega)) _)))
  have hsW0 := hBW0.size
  clear hW
  go_wp2_with ((go_at_call 67; refine (pwide_c _ _ _).mono ?_; rintro e w1 ⟨rfl, hb⟩; have hk : Hld W0 w1 := heldM (by (repeat' (first | assumption | exact Below.refl _ _ | apply Blw.alloc | apply Blw.drew | apply Blw.drewN | (refine Blw.after ?_ (by assumption)) | (refine Blw.set ?_ (by first | (dsimp only; omega) | (simp; done) | (simp; omega)) _)))); have hk1 := hk.1))
  exact bodyPost_ret (v := .tuple #[pr X Y, .bool true]) (by simp [results, Tryd.results39, go_sem, *]) rfl ⟨rfl, by (repeat' (first | assumption | exact Below.refl _ _ | apply Blw.alloc | apply Blw.drew | apply Blw.drewN | (refine Blw.after ?_ (by assumption)) | (refine Blw.set ?_ (by first | (dsimp only; omega) | (simp; done) | (simp; omega)) _)))⟩
theorem keepfz {w w' : World} {p : Addr} (h : Below w.heap.size w w') (hp : p.block < w.heap.size) (hf : w.frozen? p = false) : w'.frozen? p = false := (h.frozen hp).trans hf
set_option maxHeartbeats 2000000 in
theorem gaussOf_c (x y : Nat) (X Y : Int) (w : World) (hx : Vl .f64 x (X * 2 ^ un .f64)) (hy : Vl .f64 y (Y * 2 ^ un .f64)) (hX : -1000000 ≤ X ∧ X ≤ 1000000) (hY : -1000000 ≤ Y ∧ Y ≤ 1000000) :
    Calls Tryd.prog 13 #[.complex .f64 x y] w fun e w' => e = .returned (.tuple #[pr X Y, .bool true]) ∧ Below w.heap.size w w' := by
  have HW := Lib.hid (fun w => wpair_c x y X Y w hx hy hX hY)
  clear hx hy hX hY
  go_enter Tryd.func13, Tryd.ntmps13
  go_wp2_with fail
  generalize hW : World.alloc _ _ = W0
  have kW0_35 : W0.cell? ⟨w.heap.size, 0, none⟩ = some (.int .i64 (0)) := by rw [← hW]; clear hW; first | (go_simp; done) | ((repeat refine keepcell ((Below.refl _ _).alloc (Nat.le_refl _) _) ?_); go_simp; done) | (simp only [frozen?_alloc_cells]; go_simp; done)
  have zW0_35 : W0.frozen? ⟨w.heap.size, 0, none⟩ = false := by rw [← hW]; clear hW; first | (go_simp; done) | ((repeat refine keepcell ((Below.refl _ _).alloc (Nat.le_refl _) _) ?_); go_simp; done) | (simp only [frozen?_alloc_cells]; go_simp; done)
  have kW0_36 : W0.cell? ⟨w.heap.size, 1, none⟩ = some (.int .i64 (0)) := by rw [← hW]; clear hW; first | (go_simp; done) | ((repeat refine keepcell ((Below.refl _ _).alloc (Nat.le_refl _) _) ?_); go_simp; done) | (simp only [frozen?_alloc_cells]; go_simp; done)
  have zW0_36 : W0.frozen? ⟨w.heap.size, 1, none⟩ = false := by rw [← hW]; clear hW; first | (go_simp; done) | ((repeat refine keepcell ((Below.refl _ _).alloc (Nat.le_refl _) _) ?_); go_simp; done) | (simp only [frozen?_alloc_cells]; go_simp; done)
  have : w.heap.size < W0.heap.size := World.block_lt_of_cell? W0 ⟨w.heap.size, 0, none⟩ (by assumption)
  have hBW0 : Below w.heap.size w W0 := by rw [← hW]; (repeat' (first | assumption | exact Below.refl _ _ | apply Blw.alloc | apply Blw.drew | apply Blw.drewN | (refine Blw.after ?_ (by assumption)) | (refine Blw.set ?_ (by first | (dsimp only; omega) | (simp; done) | (simp; omega)) _)))
  have hsW0 := hBW0.size
  clear hW
  go_wp2_with fail
  refine (HW.out _).mono ?_
  rintro e wA ⟨rfl, hbA⟩
  have hkA : Hld W0 wA := heldM (by (repeat' (first | assumption | exact Below.refl _ _ | apply Blw.alloc | apply Blw.drew | apply Blw.drewN | (refine Blw.after ?_ (by assumption)) | (refine Blw.set ?_ (by first | (dsimp only; omega) | (simp; done) | (simp; omega)) _))))
  have hkA1 := hkA.1
  have hsA := hkA.2.2.2
  have : w.heap.size < wA.heap.size := by omega
  go_wp2_with fail
  generalize hW : World.alloc _ _ = W1
  have kW1_37 : W1.cell? ⟨w.heap.size, 0, none⟩ = some (.int .i64 (0)) := by rw [← hW]; clear hW; first | (go_simp; done) | ((repeat refine keepcell ((Below.refl _ _).alloc (Nat.le_refl _) _) ?_); go_simp; done) | (simp only [frozen?_alloc_cells]; go_simp; done)
  have zW1_37 : W1.frozen? ⟨w.heap.size, 0, none⟩ = false := by rw [← hW]; clear hW; first | (go_simp; done) | ((repeat refine keepcell ((Below.refl _ _).alloc (Nat.le_refl _) _) ?_); go_simp; done) | (simp only [frozen?_alloc_cells]; go_simp; done)
  have kW1_38 : W1.cell? ⟨w.heap.size, 1, none⟩ = some (.int .i64 (0)) := by rw [← hW]; clear hW; first | (go_simp; done) | ((repeat refine keepcell ((Below.refl _ _).alloc (Nat.le_refl _) _) ?_); go_simp; done) | (simp only [frozen?_alloc_cells]; go_simp; done)
  have zW1_38 : W1.frozen? ⟨w.heap.size, 1, none⟩ = false := by rw [← hW]; clear hW; first | (go_simp; done) | ((repeat refine keepcell ((Below.refl _ _).alloc (Nat.le_refl _) _) ?_); go_simp; done) | (simp only [frozen?_alloc_cells]; go_simp; done)
  have : w.heap.size < W1.heap.size := World.block_lt_of_cell? W1 ⟨w.heap.size, 0, none⟩ (by assumption)
  have hBW1 : Below w.heap.size w W1 := by rw [← hW]; (repeat' (first | assumption | exact Below.refl _ _ | apply Blw.alloc | apply Blw.drew | apply Blw.drewN | (refine Blw.after ?_ (by assumption)) | (refine Blw.set ?_ (by first | (dsimp only; omega) | (simp; done) | (simp; omega)) _)))
  have hsW1 := hBW1.size
  clear hW
  try clear kW0_35; try clear zW0_35; try clear kW0_36; try clear zW0_36
  go_wp2_with ((go_at_call 40; refine (gauss_c _ _ _).mono ?_; rintro e w1 ⟨rfl, hb⟩; have hk : Hld W1 w1 := heldM (by (repeat' (first | assumption | exact Below.refl _ _ | apply Blw.alloc | apply Blw.drew | apply Blw.drewN | (refine Blw.after ?_ (by assumption)) | (refine Blw.set ?_ (by first | (dsimp only; omega) | (simp; done) | (simp; omega)) _)))); have hk1 := hk.1))
  exact bodyPost_ret (v := .tuple #[pr X Y, .bool true]) (by simp [results, Tryd.results13, go_sem, *]) rfl ⟨rfl, by (repeat' (first | assumption | exact Below.refl _ _ | apply Blw.alloc | apply Blw.drew | apply Blw.drewN | (refine Blw.after ?_ (by assumption)) | (refine Blw.set ?_ (by first | (dsimp only; omega) | (simp; done) | (simp; omega)) _)))⟩
end Go.Proofs.YtlcafjdinjdllabDoor

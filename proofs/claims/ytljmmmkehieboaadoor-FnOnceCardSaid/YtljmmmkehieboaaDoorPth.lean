/- Chapter 5: CurvePath, of both sides. No law is stated here. -/
import Derived.Test.YtljmmmkehieboaaDoorCq
import Derived.Test.YtljmmmkehieboaaDoorCs
import Derived.Test.YtljmmmkehieboaaDoorGc
import Derived.Sort.AtCall
namespace Go.Proofs.YtljmmmkehieboaaDoor
set_option linter.unusedSimpArgs false
set_option linter.unusedVariables false
open Go.RowKit Ieee

theorem lowC : floatOfInt .f64 (-1000000) = 13920209183539462144 := by decide +kernel
theorem highC : floatOfInt .f64 1000000 = 4696837146684686336 := by decide +kernel
theorem low32 : floatOfInt .f32 (-100000) = 3351465984 := by decide +kernel
theorem high32 : floatOfInt .f32 100000 = 1203982336 := by decide +kernel
theorem upZ (s : Bool) {n : Nat} (h : n ≤ 1000000) : floatToFloatBits .f32 (sw .f32 s n) .f64 = some (sw .f64 s n) := sw_conv _ _ _ (by omega)
theorem pwideC_c (x y : Int) (w : World) : Calls Tryd.prog 50 #[pr x y] w fun e w' => e = .returned (.complex .f64 (floatOfInt .f64 x) (floatOfInt .f64 y)) ∧ Below w.heap.size w w' := by
  go_enter Tryd.func50, Tryd.ntmps50
  go_wp2
  go_ret
  exact ⟨rfl, by (repeat' (first | assumption | exact Below.refl _ _ | apply Blw.alloc | apply Blw.drew | apply Blw.drewN | (refine Blw.after ?_ (by assumption)) | (refine Blw.set ?_ (by first | (dsimp only; omega) | (simp; done) | (simp; omega)) _)))⟩
set_option maxHeartbeats 2000000 in
theorem wpairC_c (s t : Bool) (m n : Nat) (w : World) (hm : m ≤ 1000000) (hn : n ≤ 1000000) :
    Calls Tryd.prog 45 #[.complex .f64 (sw .f64 s m) (sw .f64 t n)] w fun e w' => e = .returned (.tuple #[pr (sg s m) (sg t n), .bool true]) ∧ Below w.heap.size w w' := by
  have c1 : (FloatKind.f64.format.order 13920209183539462144 (sw .f64 s m) == some .lt || FloatKind.f64.format.order 13920209183539462144 (sw .f64 s m) == some .eq) = true := by
    rw [← lowC, sw_wsorder _ _ (by omega) (by omega)]; exact cmp_le (by have := sg_in s hm; omega)
  have c2 : (FloatKind.f64.format.order (sw .f64 s m) 4696837146684686336 == some .lt || FloatKind.f64.format.order (sw .f64 s m) 4696837146684686336 == some .eq) = true := by
    rw [← highC, ws_order _ _ (by omega) (by omega)]; exact cmp_le (by have := sg_in s hm; omega)
  have c3 : (FloatKind.f64.format.order 13920209183539462144 (sw .f64 t n) == some .lt || FloatKind.f64.format.order 13920209183539462144 (sw .f64 t n) == some .eq) = true := by
    rw [← lowC, sw_wsorder _ _ (by omega) (by omega)]; exact cmp_le (by have := sg_in t hn; omega)
  have c4 : (FloatKind.f64.format.order (sw .f64 t n) 4696837146684686336 == some .lt || FloatKind.f64.format.order (sw .f64 t n) 4696837146684686336 == some .eq) = true := by
    rw [← highC, ws_order _ _ (by omega) (by omega)]; exact cmp_le (by have := sg_in t hn; omega)
  have g1 : FloatKind.f64.format.order (floatOfInt .f64 (sg s m)) (sw .f64 s m) = some .eq := by
    rw [sw_wsorder _ _ (by omega) (by rw [sg_abs]; omega), Int.compare_eq_eq.2 rfl]
  have g2 : FloatKind.f64.format.order (floatOfInt .f64 (sg t n)) (sw .f64 t n) = some .eq := by
    rw [sw_wsorder _ _ (by omega) (by rw [sg_abs]; omega), Int.compare_eq_eq.2 rfl]
  have f1 := fun w => run_convert_float_int (P := Tryd.prog) w 58 3 .f64 .i64 (sw .f64 s m) (sg s m) (by rw [Tryd.underlying58]; rfl) Tryd.underlying3 (toInt_swv _ _ hm)
  have f2 := fun w => run_convert_float_int (P := Tryd.prog) w 58 3 .f64 .i64 (sw .f64 t n) (sg t n) (by rw [Tryd.underlying58]; rfl) Tryd.underlying3 (toInt_swv _ _ hn)
  clear hm hn
  generalize sw .f64 s m = x at *
  generalize sw .f64 t n = y at *
  generalize sg s m = X at *
  generalize sg t n = Y at *
  go_enter Tryd.func45, Tryd.ntmps45
  go_wp2_with fail
  generalize hW : World.alloc (World.alloc w _) _ = W0
  have kW0_1 : W0.cell? ⟨w.heap.size, 0, none⟩ = some (.int .i64 (0)) := by rw [← hW]; clear hW; first | (go_simp; done) | ((repeat refine keepcell ((Below.refl _ _).alloc (Nat.le_refl _) _) ?_); go_simp; done) | (simp only [frozen?_alloc_cells]; go_simp; done)
  have zW0_1 : W0.frozen? ⟨w.heap.size, 0, none⟩ = false := by rw [← hW]; clear hW; first | (go_simp; done) | ((repeat refine keepcell ((Below.refl _ _).alloc (Nat.le_refl _) _) ?_); go_simp; done) | (simp only [frozen?_alloc_cells]; go_simp; done)
  have kW0_2 : W0.cell? ⟨w.heap.size, 1, none⟩ = some (.int .i64 (0)) := by rw [← hW]; clear hW; first | (go_simp; done) | ((repeat refine keepcell ((Below.refl _ _).alloc (Nat.le_refl _) _) ?_); go_simp; done) | (simp only [frozen?_alloc_cells]; go_simp; done)
  have zW0_2 : W0.frozen? ⟨w.heap.size, 1, none⟩ = false := by rw [← hW]; clear hW; first | (go_simp; done) | ((repeat refine keepcell ((Below.refl _ _).alloc (Nat.le_refl _) _) ?_); go_simp; done) | (simp only [frozen?_alloc_cells]; go_simp; done)
  have : w.heap.size < W0.heap.size := World.block_lt_of_cell? W0 ⟨w.heap.size, 0, none⟩ (by assumption)
  have kW0_3 : W0.cell? ⟨w.heap.size + 1, 0, none⟩ = some (.int .i64 (X)) := by rw [← hW]; clear hW; first | (go_simp; done) | ((repeat refine keepcell ((Below.refl _ _).alloc (Nat.le_refl _) _) ?_); go_simp; done) | (simp only [frozen?_alloc_cells]; go_simp; done)
  have kW0_4 : W0.cell? ⟨w.heap.size + 1, 1, none⟩ = some (.int .i64 (Y)) := by rw [← hW]; clear hW; first | (go_simp; done) | ((repeat refine keepcell ((Below.refl _ _).alloc (Nat.le_refl _) _) ?_); go_simp; done) | (simp only [frozen?_alloc_cells]; go_simp; done)
  have : w.heap.size + 1 < W0.heap.size := World.block_lt_of_cell? W0 ⟨w.heap.size + 1, 0, none⟩ (by assumption)
  have hBW0 : Below w.heap.size w W0 := by rw [← hW]; (repeat' (first | assumption | exact Below.refl _ _ | apply Blw.alloc | apply Blw.drew | apply Blw.drewN | (refine Blw.after ?_ (by assumption)) | (refine Blw.set ?_ (by first | (dsimp only; omega) | (simp; done) | (simp; omega)) _)))
  have hsW0 := hBW0.size
  clear hW
  go_wp2_with ((go_at_call 50; refine (pwideC_c _ _ _).mono ?_; rintro e w1 ⟨rfl, hb⟩; have hk : Hld W0 w1 := heldM (by (repeat' (first | assumption | exact Below.refl _ _ | apply Blw.alloc | apply Blw.drew | apply Blw.drewN | (refine Blw.after ?_ (by assumption)) | (refine Blw.set ?_ (by first | (dsimp only; omega) | (simp; done) | (simp; omega)) _)))); have hk1 := hk.1))
  exact bodyPost_ret (v := .tuple #[pr X Y, .bool true]) (by simp [results, Tryd.results45, go_sem, *]) rfl ⟨rfl, by (repeat' (first | assumption | exact Below.refl _ _ | apply Blw.alloc | apply Blw.drew | apply Blw.drewN | (refine Blw.after ?_ (by assumption)) | (refine Blw.set ?_ (by first | (dsimp only; omega) | (simp; done) | (simp; omega)) _)))⟩

def Bq (B : Nat) (q : SZ) : Prop := q.1.2 ≤ B ∧ q.2.2 ≤ B
theorem inB_big {x y : Int} {l : Int} (h1 : -l ≤ x ∧ x ≤ l) (h2 : -l ≤ y ∧ y ≤ l) : inB l x y = true := by
  unfold inB inR; simp [h1, h2]
set_option maxHeartbeats 4000000 in
theorem isPoint_c (q : SZ) (w : World) (hq : Bq 100000 q) : Calls Tryd.prog 40 #[encZ q] w fun e w' => e = .returned (.bool (okQ q)) ∧ Below w.heap.size w w' := by
  obtain ⟨⟨s, m⟩, t, n⟩ := q
  obtain ⟨hm, hn⟩ := hq
  dsimp only at hm hn
  have HW := Lib.hid (fun w => wpairC_c s t m n w (by omega) (by omega))
  have f1 := conv_c (t := 24) (u := 74) Tryd.underlying24 Tryd.underlying74 (upZ s (n := m) (by omega)) (upZ t (n := n) (by omega))
  have hin : inB 100000 (sg s m) (sg t n) = true := inB_big (by have := sg_in s hm; omega) (by have := sg_in t hn; omega)
  have N1 := Lib.hid (fun w => negativeZero_c s m w (by omega))
  have N2 := Lib.hid (fun w => negativeZero_c t n w (by omega))
  have e1 : xr ((s, m), t, n) = sw .f32 s m := rfl
  have e2 : xi ((s, m), t, n) = sw .f32 t n := rfl
  rw [show encZ ((s, m), t, n) = .complex .f32 (sw .f32 s m) (sw .f32 t n) from rfl]
  have HR : okQ ((s, m), t, n) = (!(s && decide (m = 0)) && !(t && decide (n = 0))) := rfl
  rw [HR]
  clear HR e1 e2 hm hn
  generalize sw .f32 s m = x at *
  generalize sw .f32 t n = y at *
  generalize sg s m = X at *
  generalize sg t n = Y at *
  generalize sw .f64 s m = x' at *
  generalize sw .f64 t n = y' at *
  rcases Bool.eq_false_or_eq_true (s && decide (m = 0)) with h1 | h1
  · rw [h1] at N1 ⊢
    go_enter Tryd.func40, Tryd.ntmps40
    go_wp2_with fail
    refine (HW.out _).mono ?_
    rintro e wA ⟨rfl, hbA⟩
    have hkA : Hld w wA := heldM (by (repeat' (first | assumption | exact Below.refl _ _ | apply Blw.alloc | apply Blw.drew | apply Blw.drewN | (refine Blw.after ?_ (by assumption)) | (refine Blw.set ?_ (by first | (dsimp only; omega) | (simp; done) | (simp; omega)) _))))
    have hkA1 := hkA.1
    have hsA := hkA.2.2.2
    go_wp2_with fail
    generalize hW : World.alloc _ _ = W1
    have kW1_5 : W1.cell? ⟨wA.heap.size, 0, none⟩ = some (.int .i64 (X)) := by rw [← hW]; clear hW; first | (go_simp; done) | ((repeat refine keepcell ((Below.refl _ _).alloc (Nat.le_refl _) _) ?_); go_simp; done) | (simp only [frozen?_alloc_cells]; go_simp; done)
    have kW1_6 : W1.cell? ⟨wA.heap.size, 1, none⟩ = some (.int .i64 (Y)) := by rw [← hW]; clear hW; first | (go_simp; done) | ((repeat refine keepcell ((Below.refl _ _).alloc (Nat.le_refl _) _) ?_); go_simp; done) | (simp only [frozen?_alloc_cells]; go_simp; done)
    have : wA.heap.size < W1.heap.size := World.block_lt_of_cell? W1 ⟨wA.heap.size, 0, none⟩ (by assumption)
    have hBW1 : Below w.heap.size w W1 := by rw [← hW]; (repeat' (first | assumption | exact Below.refl _ _ | apply Blw.alloc | apply Blw.drew | apply Blw.drewN | (refine Blw.after ?_ (by assumption)) | (refine Blw.set ?_ (by first | (dsimp only; omega) | (simp; done) | (simp; omega)) _)))
    have hsW1 := hBW1.size
    clear hW
    try clear kW0_1; try clear zW0_1; try clear kW0_2; try clear zW0_2; try clear kW0_3; try clear kW0_4
    go_wp2_with (first | (go_at_call 46; refine (within_c _ _ _ _ (by decide)).mono ?_; rintro e w1 ⟨rfl, hb⟩; have hk : Hld W1 w1 := heldM (by (repeat' (first | assumption | exact Below.refl _ _ | apply Blw.alloc | apply Blw.drew | apply Blw.drewN | (refine Blw.after ?_ (by assumption)) | (refine Blw.set ?_ (by first | (dsimp only; omega) | (simp; done) | (simp; omega)) _)))); have hk1 := hk.1) | (go_at_call_of 47 (Value.float .f32 x); refine (N1.out _).mono ?_; rintro e w1 ⟨rfl, rfl⟩))
    go_ret
    exact ⟨rfl, by (repeat' (first | assumption | exact Below.refl _ _ | apply Blw.alloc | apply Blw.drew | apply Blw.drewN | (refine Blw.after ?_ (by assumption)) | (refine Blw.set ?_ (by first | (dsimp only; omega) | (simp; done) | (simp; omega)) _)))⟩
  · rw [h1] at N1 ⊢
    rcases Bool.eq_false_or_eq_true (t && decide (n = 0)) with h2 | h2
    all_goals
      rw [h2] at N2 ⊢
      go_enter Tryd.func40, Tryd.ntmps40
      go_wp2_with fail
      refine (HW.out _).mono ?_
      rintro e wA ⟨rfl, hbA⟩
      have hkA : Hld w wA := heldM (by (repeat' (first | assumption | exact Below.refl _ _ | apply Blw.alloc | apply Blw.drew | apply Blw.drewN | (refine Blw.after ?_ (by assumption)) | (refine Blw.set ?_ (by first | (dsimp only; omega) | (simp; done) | (simp; omega)) _))))
      have hkA1 := hkA.1
      have hsA := hkA.2.2.2
      go_wp2_with fail
      generalize hW : World.alloc _ _ = W1
      have kW1_7 : W1.cell? ⟨wA.heap.size, 0, none⟩ = some (.int .i64 (X)) := by rw [← hW]; clear hW; first | (go_simp; done) | ((repeat refine keepcell ((Below.refl _ _).alloc (Nat.le_refl _) _) ?_); go_simp; done) | (simp only [frozen?_alloc_cells]; go_simp; done)
      have kW1_8 : W1.cell? ⟨wA.heap.size, 1, none⟩ = some (.int .i64 (Y)) := by rw [← hW]; clear hW; first | (go_simp; done) | ((repeat refine keepcell ((Below.refl _ _).alloc (Nat.le_refl _) _) ?_); go_simp; done) | (simp only [frozen?_alloc_cells]; go_simp; done)
      have : wA.heap.size < W1.heap.size := World.block_lt_of_cell? W1 ⟨wA.heap.size, 0, none⟩ (by assumption)
      have hBW1 : Below w.heap.size w W1 := by rw [← hW]; (repeat' (first | assumption | exact Below.refl _ _ | apply Blw.alloc | apply Blw.drew | apply Blw.drewN | (refine Blw.after ?_ (by assumption)) | (refine Blw.set ?_ (by first | (dsimp only; omega) | (simp; done) | (simp; omega)) _)))
      have hsW1 := hBW1.size
      clear hW
      try clear kW1_5; try clear kW1_6
      go_wp2_with (first | (go_at_call 46; refine (within_c _ _ _ _ (by decide)).mono ?_; rintro e w1 ⟨rfl, hb⟩; have hk : Hld W1 w1 := heldM (by (repeat' (first | assumption | exact Below.refl _ _ | apply Blw.alloc | apply Blw.drew | apply Blw.drewN | (refine Blw.after ?_ (by assumption)) | (refine Blw.set ?_ (by first | (dsimp only; omega) | (simp; done) | (simp; omega)) _)))); have hk1 := hk.1) | (go_at_call_of 47 (Value.float .f32 x); refine (N1.out _).mono ?_; rintro e w1 ⟨rfl, rfl⟩) | (go_at_call_of 47 (Value.float .f32 y); refine (N2.out _).mono ?_; rintro e w1 ⟨rfl, rfl⟩))
      go_ret
      exact ⟨rfl, by (repeat' (first | assumption | exact Below.refl _ _ | apply Blw.alloc | apply Blw.drew | apply Blw.drewN | (refine Blw.after ?_ (by assumption)) | (refine Blw.set ?_ (by first | (dsimp only; omega) | (simp; done) | (simp; omega)) _)))⟩

/-! ### neighbours -/
def sqN (d : Int × Int) : Int := d.1 * d.1 + d.2 * d.2
def nbr (a b : Int × Int) : Bool := decide (sqN (subP b a) = 1)
def Bp (B : Nat) (z : Int × Int) : Prop := z.1.natAbs ≤ B ∧ z.2.natAbs ≤ B
theorem sq_bound {a : Int} {B : Nat} (h : a.natAbs ≤ B) : (a * a).natAbs ≤ B * B := by
  rw [Int.natAbs_mul]; exact Nat.mul_le_mul h h
theorem neighbours_c (a b : Int × Int) (w : World) (ha : Bp 400 a) (hb : Bp 400 b) : Calls Tryd.prog 41 #[encP a, encP b] w fun e w' => e = .returned (.bool (nbr a b)) ∧ w = w' := by
  obtain ⟨a1, a2⟩ := ha
  obtain ⟨b1, b2⟩ := hb
  have f1 := fun w t => run_psub (P := Tryd.prog) w t (p := b) (q := a) (by unfold Sm; omega) (by unfold Sm; omega)
  have hd : (subP b a).1.natAbs ≤ 800 ∧ (subP b a).2.natAbs ≤ 800 := by unfold subP; dsimp only; omega
  unfold nbr
  generalize subP b a = d at *
  obtain ⟨d1, d2⟩ := hd
  have s1 := sq_bound d1
  have s2 := sq_bound d2
  have g1 := fun w => run_float_arith (P := Tryd.prog) w .mul 40 .f32 _ _ _ (ff_sq (k := .f32) (a := d.1) (by omega))
  have g2 := fun w => run_float_arith (P := Tryd.prog) w .mul 40 .f32 _ _ _ (ff_sq (k := .f32) (a := d.2) (by omega))
  have g3 := fun w => run_float_arith (P := Tryd.prog) w .add 40 .f32 _ _ _ (ff_add (k := .f32) (a := d.1 * d.1) (b := d.2 * d.2) (by omega) (by omega))
  have g4 := ff_order (k := .f32) (a := d.1 * d.1 + d.2 * d.2) (b := 1) (by omega) (by decide)
  rw [w1s] at g4
  change ∀ w, (binOp .mul _ (.float .f32 (px d)) (.float .f32 (px d))).run _ w = _ at g1
  change ∀ w, (binOp .mul _ (.float .f32 (py d)) (.float .f32 (py d))).run _ w = _ at g2
  have HR := Lib.hid (show (some (compare (d.1 * d.1 + d.2 * d.2) 1) == some Ordering.eq) = decide (sqN d = 1) from cmp_sg _ _)
  generalize floatOfInt .f32 (d.1 * d.1 + d.2 * d.2) = r at *
  generalize floatOfInt .f32 (d.1 * d.1) = r1 at *
  generalize floatOfInt .f32 (d.2 * d.2) = r2 at *
  clear a1 a2 b1 b2 d1 d2 s1 s2
  go_enter Tryd.func41, Tryd.ntmps41
  go_wp2
  go_ret
  exact ⟨by rw [← HR.out]; rfl, rfl⟩

/-! ### paths -/
def okL (L : List SZ) (i : Nat) : Prop := ∃ q, L[i]? = some q ∧ okQ q = true
/-- what the loop asks of the place i -/
def stL (L : List SZ) (i : Nat) : Prop := okL L i ∧ ∀ j, i = j + 1 → ∃ a b, L[j]? = some a ∧ L[i]? = some b ∧ nbr (val a) (val b) = true
def PathZ (L : List SZ) : Prop := 1 ≤ L.length ∧ L.length ≤ 1025 ∧ ∀ i, i < L.length → stL L i
open Classical in
noncomputable def pathZ (L : List SZ) : Bool := decide (PathZ L)
open Classical in
theorem pathZ_t {L : List SZ} (h : PathZ L) : pathZ L = true := by unfold pathZ; exact decide_eq_true h
open Classical in
theorem pathZ_f {L : List SZ} (h : ¬ PathZ L) : pathZ L = false := by unfold pathZ; exact decide_eq_false h
open Classical in
theorem pathZ_iff {L : List SZ} : pathZ L = true ↔ PathZ L := by unfold pathZ; exact decide_eq_true_iff
def PaRel (L : List SZ) (w : World) (m : Nat) (i : Value) (wr : World) : Prop := ∃ k : Nat, k + m = L.length ∧ i = .int .i64 k ∧ (∀ j, j < k → stL L j) ∧ Below w.heap.size w wr
theorem stL_no {L : List SZ} {k : Nat} {q : SZ} (hk : k < L.length) (hq : L[k]? = some q) (h : okQ q = false) : ¬ PathZ L := by
  rintro ⟨_, _, h3⟩
  obtain ⟨⟨q', e, h4⟩, _⟩ := h3 k hk
  rw [hq] at e; cases e
  rw [h] at h4; cases h4
theorem stL_nb {L : List SZ} {k : Nat} {a b : SZ} (hk : k + 1 < L.length) (ha : L[k]? = some a) (hb : L[k + 1]? = some b) (h : nbr (val a) (val b) = false) : ¬ PathZ L := by
  rintro ⟨_, _, h3⟩
  obtain ⟨_, h4⟩ := h3 (k + 1) hk
  obtain ⟨a', b', e1, e2, h5⟩ := h4 k rfl
  rw [ha] at e1; cases e1
  rw [hb] at e2; cases e2
  rw [h] at h5; cases h5
theorem stL_zero {L : List SZ} {q : SZ} (hq : L[0]? = some q) (h : okQ q = true) : stL L 0 := ⟨⟨q, hq, h⟩, fun j h => by omega⟩
theorem stL_succ {L : List SZ} {k : Nat} {a b : SZ} (ha : L[k]? = some a) (hb : L[k + 1]? = some b) (h : okQ b = true) (hn : nbr (val a) (val b) = true) : stL L (k + 1) :=
  ⟨⟨b, hb, h⟩, fun j e => by
    obtain rfl : j = k := by omega
    exact ⟨a, b, ha, hb, hn⟩⟩
theorem stL_ok {L : List SZ} {k : Nat} {q : SZ} (h : stL L k) (hq : L[k]? = some q) : okQ q = true := by
  obtain ⟨⟨q', e, h4⟩, _⟩ := h
  rw [hq] at e; cases e; exact h4
theorem stL_all {L : List SZ} {k : Nat} (h : ∀ j, j < k → stL L j) (h1 : stL L k) : ∀ j, j < k + 1 → stL L j := fun j hj => by
  rcases Nat.lt_or_eq_of_le (Nat.lt_succ_iff.1 hj) with h2 | h2
  · exact h j h2
  · rw [h2]; exact h1
theorem val_bp {q : SZ} {B : Nat} (h : Bq B q) : Bp B (val q) := by
  unfold Bp val
  rw [sg_abs, sg_abs]; exact h
set_option maxRecDepth 100000 in
set_option maxHeartbeats 4000000 in
theorem iCurvePath_c (a : Option Addr) (c : Nat) (L : List SZ) (w : World) (hl : L.length ≤ 1000000) (hS : ∀ q ∈ L, Bq 400 q) (h : CSl a (L.map encZ) w) : Calls Tryd.prog 31 #[.slice a L.length c] w fun e w' => e = .returned (.bool (pathZ L)) ∧ Below w.heap.size w w' := by
  have HC := Lib.hid h
  have HS := Lib.hid hS
  clear h hS
  by_cases h1 : L.length < 1
  · have H := Lib.hid (pathZ_f (L := L) (fun h => by have := h.1; omega))
    go_enter Tryd.func31, Tryd.ntmps31
    go_wp2_with fail
    go_ret
    exact ⟨by rw [H.out]; rfl, by (repeat' (first | assumption | exact Below.refl _ _ | apply Blw.alloc | apply Blw.drew | apply Blw.drewN | (refine Blw.after ?_ (by assumption)) | (refine Blw.set ?_ (by first | (dsimp only; omega) | (simp; done) | (simp; omega)) _)))⟩
  · by_cases h2 : 1025 < L.length
    · have H := Lib.hid (pathZ_f (L := L) (fun h => by have := h.2.1; omega))
      go_enter Tryd.func31, Tryd.ntmps31
      go_wp2_with fail
      go_ret
      exact ⟨by rw [H.out]; rfl, by (repeat' (first | assumption | exact Below.refl _ _ | apply Blw.alloc | apply Blw.drew | apply Blw.drewN | (refine Blw.after ?_ (by assumption)) | (refine Blw.set ?_ (by first | (dsimp only; omega) | (simp; done) | (simp; omega)) _)))⟩
    · go_enter Tryd.func31, Tryd.ntmps31
      go_wp2_with fail
      go_loopg [3, 4, 15] L.length (fun m x z i wr => PaRel L w m i wr)
      case atStart => exact ⟨0, by omega, rfl, fun j hj => by omega, Below.refl _ _⟩
      case round =>
        obtain ⟨k, hk, rfl, hst, hB⟩ := hrel
        by_cases hlt : k < L.length
        · obtain ⟨g, o, rfl, c0⟩ := (HC.out.keep hB).at (k := k) (by rw [List.length_map]; exact hlt)
          rw [List.getElem_map] at c0
          have hq : L[k]? = some L[k] := List.getElem?_eq_getElem hlt
          have hb := HS.out L[k] (List.getElem_mem hlt)
          generalize L[k] = q at *
          have Lg : g < wr.heap.size := World.block_lt_of_cell? wr _ c0
          have HB := Lib.hid hb
          have HPt := Lib.hid (fun w => isPoint_c q w ⟨Nat.le_trans hb.1 (by omega), Nat.le_trans hb.2 (by omega)⟩)
          have HQ := Lib.hid hq
          have HT := Lib.hid hst
          clear hst hb hq
          rcases Bool.eq_false_or_eq_true (okQ q) with hok | hok
          · have e0 := okQ_enc hok
            have HOK := Lib.hid hok
            cases k with
            | zero =>
              rw [Nat.add_zero] at c0
              clear e0
              go_wp2_with (first | (go_at_call 40; refine (HPt.out _).mono ?_; rintro e w1 ⟨rfl, hb⟩; obtain ⟨hc, hf⟩ := bcell hb; have hz := bsize hb; have hs := hb.size; try simp at hs))
              go_roundg (gk - 1)
              case measure => omega
              case rel => exact ⟨0 + 1, by omega, by go_num, stL_all HT.out (stL_zero HQ.out HOK.out), by (repeat' (first | assumption | exact Below.refl _ _ | apply Blw.alloc | apply Blw.drew | apply Blw.drewN | (refine Blw.after ?_ (by assumption)) | (refine Blw.set ?_ (by first | (dsimp only; omega) | (simp; done) | (simp; omega)) _)))⟩
            | succ j =>
              obtain ⟨g', o', he, d0⟩ := (HC.out.keep hB).at (k := j) (by rw [List.length_map]; omega)
              simp only [Option.some.injEq, Addr.mk.injEq, and_true] at he
              obtain ⟨rfl, rfl⟩ := he
              rw [List.getElem_map] at d0
              have hq' : L[j]? = some L[j] := List.getElem?_eq_getElem (by omega)
              have hb' := HS.out L[j] (List.getElem_mem (by omega))
              generalize L[j] = p at *
              have hokp := stL_ok (HT.out j (by omega)) hq'
              have e1 := okQ_enc hokp
              rw [e1] at d0
              rw [e0] at c0
              have HN := Lib.hid (fun w => neighbours_c (val p) (val q) w (val_bp hb') (val_bp HB.out))
              rw [e0] at HPt
              have HQ' := Lib.hid hq'
              have n1 : ((j + 1 : Nat) : Int) - 1 = (j : Nat) := by omega
              clear hb' hq' hokp e1 e0 HB
              rcases Bool.eq_false_or_eq_true (nbr (val p) (val q)) with hn | hn
              · have HNB := Lib.hid (stL_succ HQ'.out HQ.out HOK.out hn)
                generalize nbr (val p) (val q) = bb at *
                subst hn
                generalize val p = zp at *
                generalize val q = zq at *
                go_wp2_with (first | (go_at_call 40; refine (HPt.out _).mono ?_; rintro e w1 ⟨rfl, hb⟩; obtain ⟨hc, hf⟩ := bcell hb; have hz := bsize hb; have hs := hb.size; try simp at hs) | (go_at_call 41; refine (HN.out _).mono ?_; rintro e w1 ⟨rfl, rfl⟩))
                go_roundg (gk - 1)
                case measure => omega
                case rel => exact ⟨j + 1 + 1, by omega, by go_num, stL_all HT.out HNB.out, by (repeat' (first | assumption | exact Below.refl _ _ | apply Blw.alloc | apply Blw.drew | apply Blw.drewN | (refine Blw.after ?_ (by assumption)) | (refine Blw.set ?_ (by first | (dsimp only; omega) | (simp; done) | (simp; omega)) _)))⟩
              · have H := Lib.hid (pathZ_f (stL_nb (by omega) HQ'.out HQ.out hn))
                generalize nbr (val p) (val q) = bb at *
                subst hn
                generalize val p = zp at *
                generalize val q = zq at *
                go_wp2_with (first | (go_at_call 40; refine (HPt.out _).mono ?_; rintro e w1 ⟨rfl, hb⟩; obtain ⟨hc, hf⟩ := bcell hb; have hz := bsize hb; have hs := hb.size; try simp at hs) | (go_at_call 41; refine (HN.out _).mono ?_; rintro e w1 ⟨rfl, rfl⟩))
                go_ret
                exact ⟨by rw [H.out]; rfl, by (repeat' (first | assumption | exact Below.refl _ _ | apply Blw.alloc | apply Blw.drew | apply Blw.drewN | (refine Blw.after ?_ (by assumption)) | (refine Blw.set ?_ (by first | (dsimp only; omega) | (simp; done) | (simp; omega)) _)))⟩
          · have H := Lib.hid (pathZ_f (stL_no hlt HQ.out hok))
            go_wp2_with (first | (go_at_call 40; refine (HPt.out _).mono ?_; rintro e w1 ⟨rfl, hb⟩; obtain ⟨hc, hf⟩ := bcell hb; have hz := bsize hb; have hs := hb.size; try simp at hs))
            go_ret
            exact ⟨by rw [H.out]; rfl, by (repeat' (first | assumption | exact Below.refl _ _ | apply Blw.alloc | apply Blw.drew | apply Blw.drewN | (refine Blw.after ?_ (by assumption)) | (refine Blw.set ?_ (by first | (dsimp only; omega) | (simp; done) | (simp; omega)) _)))⟩
        · have H := Lib.hid (pathZ_t (L := L) ⟨by omega, by omega, fun i hi => hst i (by omega)⟩)
          clear hst
          go_wp2_with fail
          go_ret
          exact ⟨by rw [H.out]; rfl, hB⟩

/-! ### the model's side -/
theorem inf_pos : floatBits .quo .f32 1065353216 0 = some 2139095040 := by decide +kernel
theorem inf_neg : floatBits .quo .f32 1065353216 2147483648 = some 4286578688 := by decide +kernel
end Go.Proofs.YtljmmmkehieboaaDoor

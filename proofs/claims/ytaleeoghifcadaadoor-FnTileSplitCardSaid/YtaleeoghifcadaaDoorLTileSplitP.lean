/- FnTileSplit (P47): at every code the law answers true: what the program's TileSplit gives is what the model gives, the tile has the rest, and the expansion of the number is that of the quotient, with the digits of the rest behind it, filled up with 0 to the level; the listed variables are as the program's text lays them. -/
import Derived.Test.YtaleeoghifcadaaDoorTk
import Derived.Test.YtaleeoghifcadaaDoorDrawY
import Derived.Test.YtaleeoghifcadaaDoorBaseD
import Derived.Test.YtaleeoghifcadaaDoorBaseP
namespace Go.Proofs.YtaleeoghifcadaaDoor
set_option linter.unusedSimpArgs false
set_option linter.unusedVariables false
open Go.ChangeShapes Go.WideShapes Go.ChangeAt Go.RowKit Go.Joins

def PadRel (r : ByteArray) (N : Nat) (W : World) (m : Nat) (v : Value) (wr : World) : Prop := ∃ j : Nat, v = .string (bs (List.replicate j 48 ++ toL r)) ∧ j + r.size + m = N ∧ wr = W
def StripRel (s : ByteArray) (w : World) (m : Nat) (v : Value) (wr : World) : Prop := ∃ t : ByteArray, v = .string t ∧ t.size ≤ m ∧ wr = w ∧ strip (toL t) = strip (toL s)
set_option maxRecDepth 100000 in
set_option maxHeartbeats 4000000 in
theorem lawTileSplitP_c (a : Option Addr) (len cap : Nat) (w : World) (hc : len ≤ 1048576 → Code (.slice a len cap) w) : Calls Tryd.prog 4 #[.slice a len cap] w fun e w' => e = .returned (.bool true) ∧ Below w.heap.size w w' := by
  by_cases hl : 1048576 < len
  · go_enter Tryd.func4, Tryd.ntmps4
    go_wp2
    go_ret
    exact ⟨rfl, by (first | ((repeat' with_reducible first | assumption | exact Below.refl _ _ | apply Blw.alloc | apply Blw.drew | apply Blw.drewN | (refine Blw.after ?_ (by assumption)) | (refine Blw.set ?_ (by first | (dsimp only; omega) | (simp; omega)) _)); done) | (repeat' (first | assumption | exact Below.refl _ _ | apply Blw.alloc | apply Blw.drew | apply Blw.drewN | (refine Blw.after ?_ (by assumption)) | (refine Blw.set ?_ (by first | (dsimp only; omega) | (simp; done) | (simp; omega)) _))))⟩
  · go_enter Tryd.func4, Tryd.ntmps4
    go_wp2_with fail
    refine (drawTileSplit_c _ w (hc (by omega))).mono ?_
    rintro e W1 ⟨k, x, y, rfl, hk, hx, hy, hB⟩
    clear hc
    have HS := Lib.hid (fun w => sTileSplit_c k x y w)
    have HI := Lib.hid (fun w => iTileSplit_c k x y w)
    rcases Bool.eq_false_or_eq_true (okT k x y) with hh | hh
    · rw [spV_yes hh] at HS HI
      have f1 := (okT_of hh).2
      have f2 := inR_le (okT_of hh).1
      have f3 := qn_small hh
      obtain ⟨n, rfl⟩ : ∃ n : Nat, k = (n : Int) := ⟨k.toNat, by omega⟩
      rw [Int.toNat_natCast] at HS HI f3
      have hn : n ≤ 12 := by omega
      have f4 := rest_small (x := x) (y := y) hn
      have f5 := rest_has (x := x) (y := y) hn
      have HD := Lib.hid (fun w => iDigitsOf_c x y w)
      rw [ofV_tx f1] at HD
      have HQ := Lib.hid (fun w => iDigitsOf_c (qn n (x, y)).1 (qn n (x, y)).2 w)
      rw [ofV_tx f3] at HQ
      have HR := Lib.hid (fun w => iDigitsOf_c (rn n (x, y)).1 (rn n (x, y)).2 w)
      rw [ofV_tx f4] at HR
      have HT := Lib.hid (fun w => iTileHas_c n (rn n (x, y)).1 (rn n (x, y)).2 w)
      rw [f5] at HT
      have hsr : (txB (rn n (x, y)).1 (rn n (x, y)).2).size = (txL (rn n (x, y)).1 (rn n (x, y)).2).length := bs_sz _
      have htr : toL (txB (rn n (x, y)).1 (rn n (x, y)).2) = txL (rn n (x, y)).1 (rn n (x, y)).2 := toL_bs _
      have hbr := txL_bits (rn n (x, y)).1 (rn n (x, y)).2
      have hvr := val_tx (rn n (x, y)).1 (rn n (x, y)).2
      have HL := Lib.hid (fun h : 1 ≤ n => rest_len (n := n) (x := x) (y := y) h)
      have h46 := txL_len f3
      have h46r := txL_len f4
      have HJ := Lib.hid (fun (j : Nat) (h : j + (txL (rn n (x, y)).1 (rn n (x, y)).2).length = n) => show strip (toL (txB (qn n (x, y)).1 (qn n (x, y)).2 ++ bs (List.replicate j 48 ++ toL (txB (rn n (x, y)).1 (rn n (x, y)).2)))) = toL (txB x y) by
        have e : txB (qn n (x, y)).1 (qn n (x, y)).2 ++ bs (List.replicate j 48 ++ toL (txB (rn n (x, y)).1 (rn n (x, y)).2)) = bs (txL (qn n (x, y)).1 (qn n (x, y)).2 ++ (List.replicate j 48 ++ txL (rn n (x, y)).1 (rn n (x, y)).2)) := by
          rw [htr]; exact bs_cat _ _
        rw [e, toL_bs, show toL (txB x y) = txL x y from toL_bs _]
        refine join_tx ?_ (by rw [List.length_append, List.length_replicate]; exact h) (by rw [val_zerosF]; exact hvr)
        intro c hc
        rcases List.mem_append.1 hc with hc | hc
        · rw [(List.mem_replicate.1 hc).2]; rfl
        · exact hbr c hc)
      have HZ := Lib.hid (fun h : n = 0 => show strip (toL (txB (qn n (x, y)).1 (qn n (x, y)).2)) = toL (txB x y) by
        subst h
        show strip (toL (txB x y)) = _
        rw [show toL (txB x y) = txL x y from toL_bs _]
        have := strip_of_vld (txL_vld f1)
        exact this)
      rw [← hsr] at h46r
      have hsq : (txB (qn n (x, y)).1 (qn n (x, y)).2).size ≤ 46 := by rw [show (txB (qn n (x, y)).1 (qn n (x, y)).2).size = (txL (qn n (x, y)).1 (qn n (x, y)).2).length from bs_sz _]; exact h46
      rw [← hsr] at HL HJ
      clear hh f1 f3 f4 f5 hsr htr hbr hvr h46
      generalize (qn n (x, y)).1 = Q1 at *
      generalize (qn n (x, y)).2 = Q2 at *
      generalize (rn n (x, y)).1 = R1 at *
      generalize (rn n (x, y)).2 = R2 at *
      generalize txB Q1 Q2 = tq at *
      generalize txB R1 R2 = tr at *
      generalize txB x y = tz at *
      go_wp2_with fail
      generalize hW : World.alloc _ _ = W2
      have kW2_1 : W2.cell? ⟨W1.heap.size, 0, none⟩ = some (.int .i64 (x)) := by rw [← hW]; clear hW; first | (go_simp; done) | ((repeat refine keepcell ((Below.refl _ _).alloc (Nat.le_refl _) _) ?_); go_simp; done) | (simp only [frozen?_alloc_cells]; go_simp; done)
      have kW2_2 : W2.cell? ⟨W1.heap.size, 1, none⟩ = some (.int .i64 (y)) := by rw [← hW]; clear hW; first | (go_simp; done) | ((repeat refine keepcell ((Below.refl _ _).alloc (Nat.le_refl _) _) ?_); go_simp; done) | (simp only [frozen?_alloc_cells]; go_simp; done)
      have : W1.heap.size < W2.heap.size := World.block_lt_of_cell? W2 ⟨W1.heap.size, 0, none⟩ (by assumption)
      have hBW2 : Below w.heap.size w W2 := by rw [← hW]; (first | ((repeat' with_reducible first | assumption | exact Below.refl _ _ | apply Blw.alloc | apply Blw.drew | apply Blw.drewN | (refine Blw.after ?_ (by assumption)) | (refine Blw.set ?_ (by first | (dsimp only; omega) | (simp; omega)) _)); done) | (repeat' (first | assumption | exact Below.refl _ _ | apply Blw.alloc | apply Blw.drew | apply Blw.drewN | (refine Blw.after ?_ (by assumption)) | (refine Blw.set ?_ (by first | (dsimp only; omega) | (simp; done) | (simp; omega)) _))))
      have hsW2 := hBW2.size
      clear hW
      go_wp2_with (fail)
      refine (HI.out _).mono ?_
      rintro e wA ⟨rfl, hbwA⟩
      have hkwA : Hld W2 wA := heldM (by (first | ((repeat' with_reducible first | assumption | exact Below.refl _ _ | apply Blw.alloc | apply Blw.drew | apply Blw.drewN | (refine Blw.after ?_ (by assumption)) | (refine Blw.set ?_ (by first | (dsimp only; omega) | (simp; omega)) _)); done) | (repeat' (first | assumption | exact Below.refl _ _ | apply Blw.alloc | apply Blw.drew | apply Blw.drewN | (refine Blw.after ?_ (by assumption)) | (refine Blw.set ?_ (by first | (dsimp only; omega) | (simp; done) | (simp; omega)) _)))))
      have hlwA := hkwA.1
      have hswA := hkwA.2.2.2
      try (have : W1.heap.size < wA.heap.size := by omega)
      go_wp2_with fail
      generalize hW : World.alloc _ _ = W3
      have kW3_3 : W3.cell? ⟨W1.heap.size, 0, none⟩ = some (.int .i64 (x)) := by rw [← hW]; clear hW; first | (go_simp; done) | ((repeat refine keepcell ((Below.refl _ _).alloc (Nat.le_refl _) _) ?_); go_simp; done) | (simp only [frozen?_alloc_cells]; go_simp; done)
      have kW3_4 : W3.cell? ⟨W1.heap.size, 1, none⟩ = some (.int .i64 (y)) := by rw [← hW]; clear hW; first | (go_simp; done) | ((repeat refine keepcell ((Below.refl _ _).alloc (Nat.le_refl _) _) ?_); go_simp; done) | (simp only [frozen?_alloc_cells]; go_simp; done)
      have : W1.heap.size < W3.heap.size := World.block_lt_of_cell? W3 ⟨W1.heap.size, 0, none⟩ (by assumption)
      have kW3_5 : W3.cell? ⟨wA.heap.size, 0, none⟩ = some (.int .i64 (Q1)) := by rw [← hW]; clear hW; first | (go_simp; done) | ((repeat refine keepcell ((Below.refl _ _).alloc (Nat.le_refl _) _) ?_); go_simp; done) | (simp only [frozen?_alloc_cells]; go_simp; done)
      have kW3_6 : W3.cell? ⟨wA.heap.size, 1, none⟩ = some (.int .i64 (Q2)) := by rw [← hW]; clear hW; first | (go_simp; done) | ((repeat refine keepcell ((Below.refl _ _).alloc (Nat.le_refl _) _) ?_); go_simp; done) | (simp only [frozen?_alloc_cells]; go_simp; done)
      have : wA.heap.size < W3.heap.size := World.block_lt_of_cell? W3 ⟨wA.heap.size, 0, none⟩ (by assumption)
      have kW3_7 : W3.cell? ⟨wA.heap.size + 1, 0, none⟩ = some (.int .i64 (R1)) := by rw [← hW]; clear hW; first | (go_simp; done) | ((repeat refine keepcell ((Below.refl _ _).alloc (Nat.le_refl _) _) ?_); go_simp; done) | (simp only [frozen?_alloc_cells]; go_simp; done)
      have kW3_8 : W3.cell? ⟨wA.heap.size + 1, 1, none⟩ = some (.int .i64 (R2)) := by rw [← hW]; clear hW; first | (go_simp; done) | ((repeat refine keepcell ((Below.refl _ _).alloc (Nat.le_refl _) _) ?_); go_simp; done) | (simp only [frozen?_alloc_cells]; go_simp; done)
      have : wA.heap.size + 1 < W3.heap.size := World.block_lt_of_cell? W3 ⟨wA.heap.size + 1, 0, none⟩ (by assumption)
      have hBW3 : Below w.heap.size w W3 := by rw [← hW]; (first | ((repeat' with_reducible first | assumption | exact Below.refl _ _ | apply Blw.alloc | apply Blw.drew | apply Blw.drewN | (refine Blw.after ?_ (by assumption)) | (refine Blw.set ?_ (by first | (dsimp only; omega) | (simp; omega)) _)); done) | (repeat' (first | assumption | exact Below.refl _ _ | apply Blw.alloc | apply Blw.drew | apply Blw.drewN | (refine Blw.after ?_ (by assumption)) | (refine Blw.set ?_ (by first | (dsimp only; omega) | (simp; done) | (simp; omega)) _))))
      have hsW3 := hBW3.size
      clear hW
      try clear kW2_1; try clear kW2_2; try clear hbwA; try clear hkwA; try clear hlwA
      go_wp2_with (fail)
      refine (HS.out _).mono ?_
      rintro e wB ⟨rfl, hbwB⟩
      have hkwB : Hld W3 wB := heldM (by (first | ((repeat' with_reducible first | assumption | exact Below.refl _ _ | apply Blw.alloc | apply Blw.drew | apply Blw.drewN | (refine Blw.after ?_ (by assumption)) | (refine Blw.set ?_ (by first | (dsimp only; omega) | (simp; omega)) _)); done) | (repeat' (first | assumption | exact Below.refl _ _ | apply Blw.alloc | apply Blw.drew | apply Blw.drewN | (refine Blw.after ?_ (by assumption)) | (refine Blw.set ?_ (by first | (dsimp only; omega) | (simp; done) | (simp; omega)) _)))))
      have hlwB := hkwB.1
      have hswB := hkwB.2.2.2
      try (have : W1.heap.size < wB.heap.size := by omega)
      try (have : wA.heap.size < wB.heap.size := by omega)
      try (have : wA.heap.size + 1 < wB.heap.size := by omega)
      go_wp2_with fail
      generalize hW : World.alloc _ _ = W4
      have kW4_9 : W4.cell? ⟨W1.heap.size, 0, none⟩ = some (.int .i64 (x)) := by rw [← hW]; clear hW; first | (go_simp; done) | ((repeat refine keepcell ((Below.refl _ _).alloc (Nat.le_refl _) _) ?_); go_simp; done) | (simp only [frozen?_alloc_cells]; go_simp; done)
      have kW4_10 : W4.cell? ⟨W1.heap.size, 1, none⟩ = some (.int .i64 (y)) := by rw [← hW]; clear hW; first | (go_simp; done) | ((repeat refine keepcell ((Below.refl _ _).alloc (Nat.le_refl _) _) ?_); go_simp; done) | (simp only [frozen?_alloc_cells]; go_simp; done)
      have : W1.heap.size < W4.heap.size := World.block_lt_of_cell? W4 ⟨W1.heap.size, 0, none⟩ (by assumption)
      have kW4_11 : W4.cell? ⟨wA.heap.size, 0, none⟩ = some (.int .i64 (Q1)) := by rw [← hW]; clear hW; first | (go_simp; done) | ((repeat refine keepcell ((Below.refl _ _).alloc (Nat.le_refl _) _) ?_); go_simp; done) | (simp only [frozen?_alloc_cells]; go_simp; done)
      have kW4_12 : W4.cell? ⟨wA.heap.size, 1, none⟩ = some (.int .i64 (Q2)) := by rw [← hW]; clear hW; first | (go_simp; done) | ((repeat refine keepcell ((Below.refl _ _).alloc (Nat.le_refl _) _) ?_); go_simp; done) | (simp only [frozen?_alloc_cells]; go_simp; done)
      have : wA.heap.size < W4.heap.size := World.block_lt_of_cell? W4 ⟨wA.heap.size, 0, none⟩ (by assumption)
      have kW4_13 : W4.cell? ⟨wA.heap.size + 1, 0, none⟩ = some (.int .i64 (R1)) := by rw [← hW]; clear hW; first | (go_simp; done) | ((repeat refine keepcell ((Below.refl _ _).alloc (Nat.le_refl _) _) ?_); go_simp; done) | (simp only [frozen?_alloc_cells]; go_simp; done)
      have kW4_14 : W4.cell? ⟨wA.heap.size + 1, 1, none⟩ = some (.int .i64 (R2)) := by rw [← hW]; clear hW; first | (go_simp; done) | ((repeat refine keepcell ((Below.refl _ _).alloc (Nat.le_refl _) _) ?_); go_simp; done) | (simp only [frozen?_alloc_cells]; go_simp; done)
      have : wA.heap.size + 1 < W4.heap.size := World.block_lt_of_cell? W4 ⟨wA.heap.size + 1, 0, none⟩ (by assumption)
      have kW4_15 : W4.cell? ⟨wB.heap.size, 0, none⟩ = some (.int .i64 (Q1)) := by rw [← hW]; clear hW; first | (go_simp; done) | ((repeat refine keepcell ((Below.refl _ _).alloc (Nat.le_refl _) _) ?_); go_simp; done) | (simp only [frozen?_alloc_cells]; go_simp; done)
      have kW4_16 : W4.cell? ⟨wB.heap.size, 1, none⟩ = some (.int .i64 (Q2)) := by rw [← hW]; clear hW; first | (go_simp; done) | ((repeat refine keepcell ((Below.refl _ _).alloc (Nat.le_refl _) _) ?_); go_simp; done) | (simp only [frozen?_alloc_cells]; go_simp; done)
      have : wB.heap.size < W4.heap.size := World.block_lt_of_cell? W4 ⟨wB.heap.size, 0, none⟩ (by assumption)
      have kW4_17 : W4.cell? ⟨wB.heap.size + 1, 0, none⟩ = some (.int .i64 (R1)) := by rw [← hW]; clear hW; first | (go_simp; done) | ((repeat refine keepcell ((Below.refl _ _).alloc (Nat.le_refl _) _) ?_); go_simp; done) | (simp only [frozen?_alloc_cells]; go_simp; done)
      have kW4_18 : W4.cell? ⟨wB.heap.size + 1, 1, none⟩ = some (.int .i64 (R2)) := by rw [← hW]; clear hW; first | (go_simp; done) | ((repeat refine keepcell ((Below.refl _ _).alloc (Nat.le_refl _) _) ?_); go_simp; done) | (simp only [frozen?_alloc_cells]; go_simp; done)
      have : wB.heap.size + 1 < W4.heap.size := World.block_lt_of_cell? W4 ⟨wB.heap.size + 1, 0, none⟩ (by assumption)
      have hBW4 : Below w.heap.size w W4 := by rw [← hW]; (first | ((repeat' with_reducible first | assumption | exact Below.refl _ _ | apply Blw.alloc | apply Blw.drew | apply Blw.drewN | (refine Blw.after ?_ (by assumption)) | (refine Blw.set ?_ (by first | (dsimp only; omega) | (simp; omega)) _)); done) | (repeat' (first | assumption | exact Below.refl _ _ | apply Blw.alloc | apply Blw.drew | apply Blw.drewN | (refine Blw.after ?_ (by assumption)) | (refine Blw.set ?_ (by first | (dsimp only; omega) | (simp; done) | (simp; omega)) _))))
      have hsW4 := hBW4.size
      clear hW
      try clear kW3_3; try clear kW3_4; try clear kW3_5; try clear kW3_6; try clear kW3_7; try clear kW3_8; try clear hbwB; try clear hkwB; try clear hlwB
      go_wp2_with (fail)
      refine (HD.out _).mono ?_
      rintro e wC ⟨rfl, hbwC⟩
      have hkwC : Hld W4 wC := heldM (by (first | ((repeat' with_reducible first | assumption | exact Below.refl _ _ | apply Blw.alloc | apply Blw.drew | apply Blw.drewN | (refine Blw.after ?_ (by assumption)) | (refine Blw.set ?_ (by first | (dsimp only; omega) | (simp; omega)) _)); done) | (repeat' (first | assumption | exact Below.refl _ _ | apply Blw.alloc | apply Blw.drew | apply Blw.drewN | (refine Blw.after ?_ (by assumption)) | (refine Blw.set ?_ (by first | (dsimp only; omega) | (simp; done) | (simp; omega)) _)))))
      have hlwC := hkwC.1
      have hswC := hkwC.2.2.2
      try (have : W1.heap.size < wC.heap.size := by omega)
      try (have : wA.heap.size < wC.heap.size := by omega)
      try (have : wA.heap.size + 1 < wC.heap.size := by omega)
      try (have : wB.heap.size < wC.heap.size := by omega)
      try (have : wB.heap.size + 1 < wC.heap.size := by omega)
      go_wp2_with (fail)
      refine (HQ.out _).mono ?_
      rintro e wD ⟨rfl, hbwD⟩
      have hkwD : Hld W4 wD := heldM (by (first | ((repeat' with_reducible first | assumption | exact Below.refl _ _ | apply Blw.alloc | apply Blw.drew | apply Blw.drewN | (refine Blw.after ?_ (by assumption)) | (refine Blw.set ?_ (by first | (dsimp only; omega) | (simp; omega)) _)); done) | (repeat' (first | assumption | exact Below.refl _ _ | apply Blw.alloc | apply Blw.drew | apply Blw.drewN | (refine Blw.after ?_ (by assumption)) | (refine Blw.set ?_ (by first | (dsimp only; omega) | (simp; done) | (simp; omega)) _)))))
      have hlwD := hkwD.1
      have hswD := hkwD.2.2.2
      try (have : W1.heap.size < wD.heap.size := by omega)
      try (have : wA.heap.size < wD.heap.size := by omega)
      try (have : wA.heap.size + 1 < wD.heap.size := by omega)
      try (have : wB.heap.size < wD.heap.size := by omega)
      try (have : wB.heap.size + 1 < wD.heap.size := by omega)
      go_wp2_with (fail)
      refine (HR.out _).mono ?_
      rintro e wE ⟨rfl, hbwE⟩
      have hkwE : Hld W4 wE := heldM (by (first | ((repeat' with_reducible first | assumption | exact Below.refl _ _ | apply Blw.alloc | apply Blw.drew | apply Blw.drewN | (refine Blw.after ?_ (by assumption)) | (refine Blw.set ?_ (by first | (dsimp only; omega) | (simp; omega)) _)); done) | (repeat' (first | assumption | exact Below.refl _ _ | apply Blw.alloc | apply Blw.drew | apply Blw.drewN | (refine Blw.after ?_ (by assumption)) | (refine Blw.set ?_ (by first | (dsimp only; omega) | (simp; done) | (simp; omega)) _)))))
      have hlwE := hkwE.1
      have hswE := hkwE.2.2.2
      try (have : W1.heap.size < wE.heap.size := by omega)
      try (have : wA.heap.size < wE.heap.size := by omega)
      try (have : wA.heap.size + 1 < wE.heap.size := by omega)
      try (have : wB.heap.size < wE.heap.size := by omega)
      try (have : wB.heap.size + 1 < wE.heap.size := by omega)
      go_wp2_with fail
      have BE := Lib.hid (show Below w.heap.size w wE by (first | ((repeat' with_reducible first | assumption | exact Below.refl _ _ | apply Blw.alloc | apply Blw.drew | apply Blw.drewN | (refine Blw.after ?_ (by assumption)) | (refine Blw.set ?_ (by first | (dsimp only; omega) | (simp; omega)) _)); done) | (repeat' (first | assumption | exact Below.refl _ _ | apply Blw.alloc | apply Blw.drew | apply Blw.drewN | (refine Blw.after ?_ (by assumption)) | (refine Blw.set ?_ (by first | (dsimp only; omega) | (simp; done) | (simp; omega)) _)))))
      have kwE_19 : wE.cell? ⟨wA.heap.size + 1, 0, none⟩ = some (.int .i64 (R1)) := by go_simp
      have kwE_20 : wE.cell? ⟨wA.heap.size + 1, 1, none⟩ = some (.int .i64 (R2)) := by go_simp
      have : wA.heap.size + 1 < wE.heap.size := World.block_lt_of_cell? wE ⟨wA.heap.size + 1, 0, none⟩ (by assumption)
      have hBwE : Below w.heap.size w wE := by (first | ((repeat' with_reducible first | assumption | exact Below.refl _ _ | apply Blw.alloc | apply Blw.drew | apply Blw.drewN | (refine Blw.after ?_ (by assumption)) | (refine Blw.set ?_ (by first | (dsimp only; omega) | (simp; omega)) _)); done) | (repeat' (first | assumption | exact Below.refl _ _ | apply Blw.alloc | apply Blw.drew | apply Blw.drewN | (refine Blw.after ?_ (by assumption)) | (refine Blw.set ?_ (by first | (dsimp only; omega) | (simp; done) | (simp; omega)) _))))
      have hSwE := hBwE.size
      try clear kW4_9; try clear kW4_10; try clear kW4_11; try clear kW4_12; try clear kW4_13; try clear kW4_14; try clear kW4_15; try clear kW4_16; try clear kW4_17; try clear kW4_18; try clear hbwC; try clear hkwC; try clear hlwC; try clear hbwD; try clear hkwD; try clear hlwD; try clear hbwE; try clear hkwE; try clear hlwE
      go_loopg [15] (max n tr.size - tr.size) (fun m v wr => PadRel tr (max n tr.size) wE m v wr)
      case atStart => exact ⟨0, by rw [show List.replicate 0 (48 : UInt8) ++ toL tr = toL tr from rfl, bs_toL], by omega, rfl⟩
      case round =>
        obtain ⟨j, rfl, hj, rfl⟩ := hrel
        obtain ⟨wr0, rfl⟩ : ∃ wr0 : World, wr0 = wr := ⟨_, rfl⟩
        have hN : j + tr.size ≤ 60 := by omega
        by_cases hlt : j + tr.size < n
        · have HM := Lib.hid (show j + 1 + tr.size + (gk - 1) = max n tr.size by omega)
          have hg1 : 1 ≤ gk := by omega
          clear hj
          have HP := Lib.hid (show (⟨#[48]⟩ : ByteArray) ++ bs (List.replicate j 48 ++ toL tr) = bs (List.replicate (j + 1) 48 ++ toL tr) by
            rw [show (⟨#[48]⟩ : ByteArray) = bs [48] from rfl, bs_cat, List.replicate_succ]; rfl)
          have hP : (bs (List.replicate j 48 ++ toL tr)).size = j + tr.size := by rw [bs_sz, List.length_append, List.length_replicate, toL_len]
          generalize bs (List.replicate j 48 ++ toL tr) = P at *
          have hP1 : P.size ≤ 60 := by omega
          have hlt2 : P.size < n := by omega
          have HPZ := Lib.hid hP
          clear hP hlt
          go_wp2
          go_roundg (gk - 1)
          case measure => omega
          case rel => exact ⟨j + 1, by rw [HP.out], HM.out, rfl⟩
        · have hP : (bs (List.replicate j 48 ++ toL tr)).size = j + tr.size := by rw [bs_sz, List.length_append, List.length_replicate, toL_len]
          have HT1 := Lib.hid (fun h : 1 ≤ n => HJ.out j (by have := HL.out h; omega))
          generalize bs (List.replicate j 48 ++ toL tr) = P at *
          have hP1 : P.size ≤ 60 := by omega
          have hlt2 : ¬ P.size < n := by omega
          clear hP hlt hj
          by_cases hn0 : n = 0
          · have HT2 := Lib.hid (HZ.out hn0)
            subst hn0
            have hE : tq ++ (⟨#[]⟩ : ByteArray) = tq := by apply toL_ext; simp [toL]
            clear HL HJ HZ
            go_wp2_with fail
            go_loopg [17] tq.size (fun m v wr => StripRel tq wr0 m v wr)
            case atStart => exact ⟨tq, rfl, Nat.le_refl _, rfl, rfl⟩
            case round =>
              obtain ⟨t, rfl, ht, rfl, hst⟩ := hrel
              have HX := Lib.hid hst
              clear hst
              by_cases h1 : 1 < t.size
              · have h0 : 0 < t.size := by omega
                have hg := Lib.hid (toL_get t 0 h0)
                by_cases e8 : t[0].toNat = 48
                · have HS' := Lib.hid (strip_cons48 (l := toL t) (by rw [toL_len]; omega) (by rw [hg.out]; congr 1; exact UInt8.toNat_inj.1 (by rw [e8]; rfl)))
                  have a1 : ((t[0].toNat : Int) == 48) = true := by simp [e8]
                  have hsz : t.size - 1 < t.size := by omega
                  clear e8
                  go_wp2
                  go_roundg (gk - 1)
                  case measure => omega
                  case rel => exact ⟨t.extract 1 t.size, rfl, by simp; omega, rfl, by rw [toL_from1, HS'.out, HX.out]⟩
                · have HS' := Lib.hid (strip_keep (l := toL t) (by rw [hg.out]; intro e; apply e8; rw [Option.some.injEq] at e; rw [e]; rfl))
                  have a1 : ((t[0].toNat : Int) == 48) = false := by simp; omega
                  clear e8
                  obtain rfl : t = tz := toL_ext (by rw [← HS'.out, HX.out, HT2.out])
                  clear hg
                  clear HX
                  go_wp2_with (first | (go_at_call 15; refine (HT.out _).mono ?_; rintro e w1 ⟨rfl, hb⟩; obtain ⟨hc, hf⟩ := bcell hb; have hz := bsize hb; have hs := hb.size; try simp at hs))
                  go_ret
                  exact ⟨rfl, Blw.after BE.out hb⟩
              · have HS' := Lib.hid (strip_short (l := toL t) (by rw [toL_len]; omega))
                obtain rfl : t = tz := toL_ext (by rw [← HS'.out, HX.out, HT2.out])
                clear HX
                go_wp2_with (first | (go_at_call 15; refine (HT.out _).mono ?_; rintro e w1 ⟨rfl, hb⟩; obtain ⟨hc, hf⟩ := bcell hb; have hz := bsize hb; have hs := hb.size; try simp at hs))
                go_ret
                exact ⟨rfl, Blw.after BE.out hb⟩
          · have HT2 := Lib.hid (HT1.out (by omega))
            have hn9 : ((n : Int) == 0) = false := by simp; omega
            have hn8 : ¬ (n : Int) = 0 := by omega
            clear hn0
            have hcat : (tq ++ P).size = tq.size + P.size := ByteArray.size_append
            clear HL HJ HZ
            go_wp2_with fail
            generalize hTT : tq ++ P = T at *
            clear hcat hTT
            go_loopg [17] T.size (fun m v wr => StripRel T wr0 m v wr)
            case atStart => exact ⟨T, rfl, Nat.le_refl _, rfl, rfl⟩
            case round =>
              obtain ⟨t, rfl, ht, rfl, hst⟩ := hrel
              have HX := Lib.hid hst
              clear hst
              by_cases h1 : 1 < t.size
              · have h0 : 0 < t.size := by omega
                have hg := Lib.hid (toL_get t 0 h0)
                by_cases e8 : t[0].toNat = 48
                · have HS' := Lib.hid (strip_cons48 (l := toL t) (by rw [toL_len]; omega) (by rw [hg.out]; congr 1; exact UInt8.toNat_inj.1 (by rw [e8]; rfl)))
                  have a1 : ((t[0].toNat : Int) == 48) = true := by simp [e8]
                  have hsz : t.size - 1 < t.size := by omega
                  clear e8
                  go_wp2
                  go_roundg (gk - 1)
                  case measure => omega
                  case rel => exact ⟨t.extract 1 t.size, rfl, by simp; omega, rfl, by rw [toL_from1, HS'.out, HX.out]⟩
                · have HS' := Lib.hid (strip_keep (l := toL t) (by rw [hg.out]; intro e; apply e8; rw [Option.some.injEq] at e; rw [e]; rfl))
                  have a1 : ((t[0].toNat : Int) == 48) = false := by simp; omega
                  clear e8
                  obtain rfl : t = tz := toL_ext (by rw [← HS'.out, HX.out, HT2.out])
                  clear hg
                  clear HX
                  go_wp2_with (first | (go_at_call 15; refine (HT.out _).mono ?_; rintro e w1 ⟨rfl, hb⟩; obtain ⟨hc, hf⟩ := bcell hb; have hz := bsize hb; have hs := hb.size; try simp at hs))
                  go_ret
                  exact ⟨rfl, Blw.after BE.out hb⟩
              · have HS' := Lib.hid (strip_short (l := toL t) (by rw [toL_len]; omega))
                obtain rfl : t = tz := toL_ext (by rw [← HS'.out, HX.out, HT2.out])
                clear HX
                go_wp2_with (first | (go_at_call 15; refine (HT.out _).mono ?_; rintro e w1 ⟨rfl, hb⟩; obtain ⟨hc, hf⟩ := bcell hb; have hz := bsize hb; have hs := hb.size; try simp at hs))
                go_ret
                exact ⟨rfl, Blw.after BE.out hb⟩
    · rw [spV_no hh] at HS HI
      go_wp2_with fail
      generalize hW : World.alloc _ _ = W2
      have kW2_21 : W2.cell? ⟨W1.heap.size, 0, none⟩ = some (.int .i64 (x)) := by rw [← hW]; clear hW; first | (go_simp; done) | ((repeat refine keepcell ((Below.refl _ _).alloc (Nat.le_refl _) _) ?_); go_simp; done) | (simp only [frozen?_alloc_cells]; go_simp; done)
      have kW2_22 : W2.cell? ⟨W1.heap.size, 1, none⟩ = some (.int .i64 (y)) := by rw [← hW]; clear hW; first | (go_simp; done) | ((repeat refine keepcell ((Below.refl _ _).alloc (Nat.le_refl _) _) ?_); go_simp; done) | (simp only [frozen?_alloc_cells]; go_simp; done)
      have : W1.heap.size < W2.heap.size := World.block_lt_of_cell? W2 ⟨W1.heap.size, 0, none⟩ (by assumption)
      have hBW2 : Below w.heap.size w W2 := by rw [← hW]; (first | ((repeat' with_reducible first | assumption | exact Below.refl _ _ | apply Blw.alloc | apply Blw.drew | apply Blw.drewN | (refine Blw.after ?_ (by assumption)) | (refine Blw.set ?_ (by first | (dsimp only; omega) | (simp; omega)) _)); done) | (repeat' (first | assumption | exact Below.refl _ _ | apply Blw.alloc | apply Blw.drew | apply Blw.drewN | (refine Blw.after ?_ (by assumption)) | (refine Blw.set ?_ (by first | (dsimp only; omega) | (simp; done) | (simp; omega)) _))))
      have hsW2 := hBW2.size
      clear hW
      try clear kwE_19; try clear kwE_20
      go_wp2_with (fail)
      refine (HI.out _).mono ?_
      rintro e wA ⟨rfl, hbwA⟩
      have hkwA : Hld W2 wA := heldM (by (first | ((repeat' with_reducible first | assumption | exact Below.refl _ _ | apply Blw.alloc | apply Blw.drew | apply Blw.drewN | (refine Blw.after ?_ (by assumption)) | (refine Blw.set ?_ (by first | (dsimp only; omega) | (simp; omega)) _)); done) | (repeat' (first | assumption | exact Below.refl _ _ | apply Blw.alloc | apply Blw.drew | apply Blw.drewN | (refine Blw.after ?_ (by assumption)) | (refine Blw.set ?_ (by first | (dsimp only; omega) | (simp; done) | (simp; omega)) _)))))
      have hlwA := hkwA.1
      have hswA := hkwA.2.2.2
      try (have : W1.heap.size < wA.heap.size := by omega)
      go_wp2_with fail
      generalize hW : World.alloc _ _ = W3
      have kW3_23 : W3.cell? ⟨W1.heap.size, 0, none⟩ = some (.int .i64 (x)) := by rw [← hW]; clear hW; first | (go_simp; done) | ((repeat refine keepcell ((Below.refl _ _).alloc (Nat.le_refl _) _) ?_); go_simp; done) | (simp only [frozen?_alloc_cells]; go_simp; done)
      have kW3_24 : W3.cell? ⟨W1.heap.size, 1, none⟩ = some (.int .i64 (y)) := by rw [← hW]; clear hW; first | (go_simp; done) | ((repeat refine keepcell ((Below.refl _ _).alloc (Nat.le_refl _) _) ?_); go_simp; done) | (simp only [frozen?_alloc_cells]; go_simp; done)
      have : W1.heap.size < W3.heap.size := World.block_lt_of_cell? W3 ⟨W1.heap.size, 0, none⟩ (by assumption)
      have kW3_25 : W3.cell? ⟨wA.heap.size, 0, none⟩ = some (.int .i64 (0)) := by rw [← hW]; clear hW; first | (go_simp; done) | ((repeat refine keepcell ((Below.refl _ _).alloc (Nat.le_refl _) _) ?_); go_simp; done) | (simp only [frozen?_alloc_cells]; go_simp; done)
      have kW3_26 : W3.cell? ⟨wA.heap.size, 1, none⟩ = some (.int .i64 (0)) := by rw [← hW]; clear hW; first | (go_simp; done) | ((repeat refine keepcell ((Below.refl _ _).alloc (Nat.le_refl _) _) ?_); go_simp; done) | (simp only [frozen?_alloc_cells]; go_simp; done)
      have : wA.heap.size < W3.heap.size := World.block_lt_of_cell? W3 ⟨wA.heap.size, 0, none⟩ (by assumption)
      have kW3_27 : W3.cell? ⟨wA.heap.size + 1, 0, none⟩ = some (.int .i64 (0)) := by rw [← hW]; clear hW; first | (go_simp; done) | ((repeat refine keepcell ((Below.refl _ _).alloc (Nat.le_refl _) _) ?_); go_simp; done) | (simp only [frozen?_alloc_cells]; go_simp; done)
      have kW3_28 : W3.cell? ⟨wA.heap.size + 1, 1, none⟩ = some (.int .i64 (0)) := by rw [← hW]; clear hW; first | (go_simp; done) | ((repeat refine keepcell ((Below.refl _ _).alloc (Nat.le_refl _) _) ?_); go_simp; done) | (simp only [frozen?_alloc_cells]; go_simp; done)
      have : wA.heap.size + 1 < W3.heap.size := World.block_lt_of_cell? W3 ⟨wA.heap.size + 1, 0, none⟩ (by assumption)
      have hBW3 : Below w.heap.size w W3 := by rw [← hW]; (first | ((repeat' with_reducible first | assumption | exact Below.refl _ _ | apply Blw.alloc | apply Blw.drew | apply Blw.drewN | (refine Blw.after ?_ (by assumption)) | (refine Blw.set ?_ (by first | (dsimp only; omega) | (simp; omega)) _)); done) | (repeat' (first | assumption | exact Below.refl _ _ | apply Blw.alloc | apply Blw.drew | apply Blw.drewN | (refine Blw.after ?_ (by assumption)) | (refine Blw.set ?_ (by first | (dsimp only; omega) | (simp; done) | (simp; omega)) _))))
      have hsW3 := hBW3.size
      clear hW
      try clear kW2_21; try clear kW2_22; try clear hbwA; try clear hkwA; try clear hlwA
      go_wp2_with (fail)
      refine (HS.out _).mono ?_
      rintro e wB ⟨rfl, hbwB⟩
      have hkwB : Hld W3 wB := heldM (by (first | ((repeat' with_reducible first | assumption | exact Below.refl _ _ | apply Blw.alloc | apply Blw.drew | apply Blw.drewN | (refine Blw.after ?_ (by assumption)) | (refine Blw.set ?_ (by first | (dsimp only; omega) | (simp; omega)) _)); done) | (repeat' (first | assumption | exact Below.refl _ _ | apply Blw.alloc | apply Blw.drew | apply Blw.drewN | (refine Blw.after ?_ (by assumption)) | (refine Blw.set ?_ (by first | (dsimp only; omega) | (simp; done) | (simp; omega)) _)))))
      have hlwB := hkwB.1
      have hswB := hkwB.2.2.2
      try (have : W1.heap.size < wB.heap.size := by omega)
      try (have : wA.heap.size < wB.heap.size := by omega)
      try (have : wA.heap.size + 1 < wB.heap.size := by omega)
      go_wp2_with fail
      go_ret
      exact ⟨rfl, by (first | ((repeat' with_reducible first | assumption | exact Below.refl _ _ | apply Blw.alloc | apply Blw.drew | apply Blw.drewN | (refine Blw.after ?_ (by assumption)) | (refine Blw.set ?_ (by first | (dsimp only; omega) | (simp; omega)) _)); done) | (repeat' (first | assumption | exact Below.refl _ _ | apply Blw.alloc | apply Blw.drew | apply Blw.drewN | (refine Blw.after ?_ (by assumption)) | (refine Blw.set ?_ (by first | (dsimp only; omega) | (simp; done) | (simp; omega)) _))))⟩

namespace lawFnTileSplit
set_option maxRecDepth 100000 in
theorem lifted (os : Os) (started : os.Started) (H : Type) (enc : TypeId × Value → H) :
    ReturnsInHanded {} Tryd.checked os 4 .any (fun w args => (Rows.fnTileSplitSpec.pre enc Tryd.prog Tryd.f4 Rows.fnTileSplitRow.domain false w args ∧ laidMetH Tryd.prog Rows.fnTileSplitRow.laid w) ∧ sizedMet enc Tryd.prog Tryd.f4 (OpenSpec.ofChange Rows.fnTileSplitSpec) false w args)
      (Rows.fnTileSplitSpec.post enc Tryd.prog Tryd.f4 false true false false) := by
  refine returnsInHanded_of_change_and (C := Tryd.checked) (X := fun w _ => laidMetH Tryd.prog Rows.fnTileSplitRow.laid w) (fun _ _ _ hh h => h.of_heap hh) own started (by kernel_rfl) Tryd.func4
    (ChangeSpec.witness_shaped (enc := enc) (C := Tryd.checked) (os := os) (X := fun w _ => laidMetH Tryd.prog Rows.fnTileSplitRow.laid w) false (World.laidAll Tryd.prog os Rows.fnTileSplitRow.laid) #[.slice none 0 0] 8 (World.laidAll_os _ _ _)
      (World.shaped_of_ZipB (by kernel_rfl) (by kernel_rfl)) (by kernel_rfl) (by kernel_rfl) (by kernel_rfl)
      (by rw [MakeChecks.laidMetH_plain _ _ _ (by kernel_rfl)]; exact laidMet_laidAll _ (by kernel_rfl) (by kernel_rfl))) ?_
  intro W base args ds gs before hval0 hW hc0 _ hL _
  have hval : ∀ (j : Nat) t v, Tryd.f4.params[j]? = some t → args[j]? = some v → Value.okWide Tryd.prog W .any base t v := hval0
  have hW' := hW
  obtain ⟨p, q, hA0, hV, rfl, _, _⟩ := hW
  have hA : DataW.TrodAll enc Tryd.prog W 0 (fun _ => true) true Tryd.f4.params.toList args.toList ds p := hA0
  rw [Tryd.params4] at hA hval
  obtain ⟨v0, vs0, d0, ds0, p0, q0, hargs, rfl, rfl, h0, r0⟩ := trodAll_cons hA
  obtain ⟨rfl, rfl, rfl⟩ := trodAll_nil r0
  obtain rfl : args = #[v0] := by cases args; simp_all
  obtain ⟨rfl, rfl⟩ := trodVars_none hV
  obtain ⟨a, len, cap, rfl⟩ := okWide_slice Tryd.underlying22 (hval 0 22 v0 rfl rfl)
  clear hA0 hval0
  simp only [List.append_nil] at hW'
  have hlt : ∀ x ∈ p0, x.block < W.heap.size := fun x hx => by simpa using hW'.lt x hx
  refine (lawTileSplitP_c a len cap W (code_of h0)).mono fun e W' ⟨he, hg⟩ => ?_
  subst he
  have harg := Below.trod laidOut (by kernel_rfl) (of_decide_eq_true (by kernel_rfl)) h0 hg hlt
  refine ⟨_, rfl, _, _, _, [], p0, [], hW', ?_, ?_, ?_, hg.frame _, fun h => by cases h⟩
  · exact trodAll_cons_mk (shut_bool Tryd.underlying4 _) trodAll_mk0
  · exact trodAll_mk1 harg
  · rfl

theorem holds : Rows.FnTileSplitSaid :=
  OpenClaim.holds_of_wide 4 Tryd.f4 rfl rfl rfl rfl rfl rfl rfl ⟨rfl, rfl, rfl, rfl, rfl⟩ rfl rfl rfl rfl rfl (by kernel_rfl) Tryd.func4 (by kernel_rfl)
    (of_decide_eq_true (by kernel_rfl)) (by unfold Func.isWrapper; first | (rw [if_pos (by decide +kernel)]; kernel_rfl) | (rw [if_neg (by decide +kernel)]; exact ⟨rfl, rfl⟩))
    (fun os started H enc _ => lifted os started H enc)
theorem proved : Rows.FnTileSplitCardSaid :=
  Claim7.holds_tied_plain_at .later [] [.data, .pinned] true (true, "40e37c0d82d1a1fb0c632a6cbbca785942b217e333014797603bce4089056b42") true holds (fun _ h => by cases h) (by kernel_rfl) (fun _ h => by cases h) fnTileSplit_row_tie rfl ⟨rfl, rfl⟩ (by kernel_rfl) rfl
    (fun f fn hf hfn => by
      obtain rfl : f = 4 := Option.some.inj ((show Tryd.prog.funcNamed "loop.example/dragonnumbers/laws.FnTileSplit" = some 4 by kernel_rfl).symm.trans hf) |>.symm
      obtain rfl : fn = Tryd.f4 := (Option.some.inj (Tryd.func4.symm.trans hfn)).symm
      exact ⟨by kernel_rfl, fun j t ht => by
        rw [Tryd.params4] at ht
        have hm : t ∈ [22] := by simpa using Array.mem_of_getElem? ht
        have hall : ([22].all fun u => !Tryd.prog.wantsStandIn u) = true := by kernel_rfl
        exact (show Tryd.prog.wantsStandIn t = false by simpa using List.all_eq_true.1 hall t hm)⟩)
    (by kernel_rfl)
end lawFnTileSplit
end Go.Proofs.YtaleeoghifcadaaDoor

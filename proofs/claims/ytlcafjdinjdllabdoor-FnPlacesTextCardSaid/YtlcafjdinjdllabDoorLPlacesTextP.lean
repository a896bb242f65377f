/- FnPlacesText: whatever the code draws, the number text of both sides is the same; read exactly it is the number and its places, and its point multiplied back is the number. -/
import Derived.Test.YtlcafjdinjdllabDoorPtq
import Derived.Test.YtlcafjdinjdllabDoorTb
import Derived.Test.YtlcafjdinjdllabDoorGo
import Derived.Test.YtlcafjdinjdllabDoorDrawV
import Derived.Test.YtlcafjdinjdllabDoorBaseP
import Derived.Test.YtlcafjdinjdllabDoorTie
import Derived.Test.YtlcafjdinjdllabDoorCards
import Derived.OpenShut
import Derived.LaidMore
import Derived.Lay
import Derived.SevenTiedAt
import Derived.Stop.Joined
import Derived.Stop.LaidErr
import Derived.ChangeVars
import Derived.ChangeStays
import Derived.ChangeKeysEq
import Derived.OwnWalk
namespace Go.Proofs.YtlcafjdinjdllabDoor
set_option linter.unusedSimpArgs false
set_option linter.unusedVariables false
open Go.ChangeShapes Go.WideShapes Go.ChangeAt Go.RowKit Go.Joins Ieee

theorem text_yes (x y k : Int) : (∃ (n : Nat) (s : ByteArray), k = n ∧ n ≤ 30 ∧ s.size ≤ 2000000 ∧ ptB s = true ∧ inB 1000000 x y = true ∧
      (exW s = .tuple #[pr x y, .int .i64 n, .bool true] ∨ exW s = .tuple #[pr 0 0, .int .i64 0, .bool false]) ∧
      (∃ p : Int × Int, Vl2 .f64 (ptR .f64 s) (ptI .f64 s) p ∧ ptR .f64 s < 18446744073709551616 ∧ (∀ j, j < n → Okv2 .f64 (tb (tbI j p))) ∧ tbI n p = (x * 2 ^ un .f64, y * 2 ^ un .f64)) ∧
      (∀ w, Calls Tryd.prog 9 #[pr x y, .int .i64 k] w fun e w' => e = .returned (.tuple #[.string s, .bool true]) ∧ Below w.heap.size w w') ∧
      (∀ w, Calls Tryd.prog 10 #[pr x y, .int .i64 k] w fun e w' => e = .returned (.tuple #[.string s, .bool true]) ∧ Below w.heap.size w w')) ∨
    ((∀ w, Calls Tryd.prog 9 #[pr x y, .int .i64 k] w fun e w' => e = .returned (.tuple #[.string ⟨#[]⟩, .bool false]) ∧ Below w.heap.size w w') ∧
      (∀ w, Calls Tryd.prog 10 #[pr x y, .int .i64 k] w fun e w' => e = .returned (.tuple #[.string ⟨#[]⟩, .bool false]) ∧ Below w.heap.size w w')) := by
  rcases Bool.eq_false_or_eq_true (inR 0 30 k) with hk | hk
  · obtain ⟨n, rfl⟩ : ∃ n : Nat, k = n := ⟨k.toNat, by simp [inR] at hk; omega⟩
    have hn : n ≤ 30 := by simp [inR] at hk; omega
    rcases ofV_casesT x y with ⟨d, h1, h2, h3, h4⟩ | h
    · left
      obtain ⟨t1, t2, t3, ⟨t4, t5⟩, t6⟩ := text_back h2 hn h3 h4
      refine ⟨n, txS d n, rfl, hn, t3, t1, h4, ?_, t6, fun w => iPlacesText_y x y n d w h1 h2 hn, fun w => sPlacesText_y x y n d w h1 h2 hn⟩
      rcases Bool.eq_false_or_eq_true (exB (txS d n)) with hx | hx
      · left; rw [exW_yes hx, t2, t4, t5]
      · right; exact exW_no hx
    · exact .inr ⟨fun w => iPlacesText_n x y n w (.inl h), fun w => sPlacesText_n x y n w (.inl h)⟩
  · exact .inr ⟨fun w => iPlacesText_n x y k w (.inr hk), fun w => sPlacesText_n x y k w (.inr hk)⟩
set_option maxHeartbeats 8000000 in
set_option maxRecDepth 10000 in
theorem lawPlacesTextP_c (a : Option Addr) (len cap : Nat) (w : World) (hc : len ≤ 1048576 → Code (.slice a len cap) w) : Calls Tryd.prog 3 #[.slice a len cap] w fun e w' => e = .returned (.bool true) ∧ Below w.heap.size w w' := by
  by_cases hl : 1048576 < len
  · go_enter Tryd.func3, Tryd.ntmps3
    go_wp2_with fail
    go_ret
    exact ⟨rfl, by (repeat' (first | assumption | exact Below.refl _ _ | apply Blw.alloc | apply Blw.drew | apply Blw.drewN | (refine Blw.after ?_ (by assumption)) | (refine Blw.set ?_ (by first | (dsimp only; omega) | (simp; done) | (simp; omega)) _)))⟩
  · have hc' := hc (by omega)
    clear hc
    go_enter Tryd.func3, Tryd.ntmps3
    go_wp2_with fail
    refine (drawPT_c _ w hc').mono ?_
    rintro e W1 ⟨x, y, k, rfl, hb1⟩
    clear hc'
    go_wp2_with fail
    generalize hW : World.alloc _ _ = W0
    have kW0_1 : W0.cell? ⟨W1.heap.size, 0, none⟩ = some (.int .i64 (x)) := by rw [← hW]; clear hW; first | (go_simp; done) | ((repeat refine keepcell ((Below.refl _ _).alloc (Nat.le_refl _) _) ?_); go_simp; done) | (simp only [frozen?_alloc_cells]; go_simp; done)
    have kW0_2 : W0.cell? ⟨W1.heap.size, 1, none⟩ = some (.int .i64 (y)) := by rw [← hW]; clear hW; first | (go_simp; done) | ((repeat refine keepcell ((Below.refl _ _).alloc (Nat.le_refl _) _) ?_); go_simp; done) | (simp only [frozen?_alloc_cells]; go_simp; done)
    have : W1.heap.size < W0.heap.size := World.block_lt_of_cell? W0 ⟨W1.heap.size, 0, none⟩ (by assumption)
    have hBW0 : Below w.heap.size w W0 := by rw [← hW]; (repeat' (first | assumption | exact Below.refl _ _ | apply Blw.alloc | apply Blw.drew | apply Blw.drewN | (refine Blw.after ?_ (by assumption)) | (refine Blw.set ?_ (by first | (dsimp only; omega) | (simp; done) | (simp; omega)) _)))
    have hsW0 := hBW0.size
    clear hW
    rcases text_yes x y k with ⟨n, s, rfl, hn, hsz, hp, hi, hex, ⟨p, p1, p2, p3, p4⟩, D1, D2⟩ | ⟨D1, D2⟩
    · obtain ⟨b1, b2, b3, b4⟩ := inB_le hi
      have HP := Lib.hid (show ∀ w, Calls Tryd.prog 12 #[.string s] w fun e w' => e = .returned (.tuple #[.complex .f64 (ptR .f64 s) (ptI .f64 s), .bool true]) ∧ Below w.heap.size w w' from fun w => by
        have := iPointWide_c s w hsz
        simp only [ptV, hp, pickN, if_true] at this
        exact this)
      have HT := Lib.hid (fun w => timesBase_c' (ptR .f64 s) (ptI .f64 s) n p w (by omega) p1 p2 p3)
      rw [p4] at HT
      have HE := Lib.hid (fun w => iPlacesExact_c s w hsz)
      have HD1 := Lib.hid D1
      have HD2 := Lib.hid D2
      clear D1 D2 p1 p2 p3 p4 hp hsz hi
      rcases hex with hex | hex
      · rw [hex] at HE
        clear hex
        go_wp2_with (fail)
        refine (HD1.out _).mono ?_
        rintro e wA ⟨rfl, hbwA⟩
        have hkwA : Hld W0 wA := heldM (by (repeat' (first | assumption | exact Below.refl _ _ | apply Blw.alloc | apply Blw.drew | apply Blw.drewN | (refine Blw.after ?_ (by assumption)) | (refine Blw.set ?_ (by first | (dsimp only; omega) | (simp; done) | (simp; omega)) _))))
        have hlwA := hkwA.1
        have hswA := hkwA.2.2.2
        try (have : W1.heap.size < wA.heap.size := by omega)
        go_wp2_with fail
        go_wp2_with (fail)
        refine (HD2.out _).mono ?_
        rintro e wB ⟨rfl, hbwB⟩
        have hkwB : Hld W0 wB := heldM (by (repeat' (first | assumption | exact Below.refl _ _ | apply Blw.alloc | apply Blw.drew | apply Blw.drewN | (refine Blw.after ?_ (by assumption)) | (refine Blw.set ?_ (by first | (dsimp only; omega) | (simp; done) | (simp; omega)) _))))
        have hlwB := hkwB.1
        have hswB := hkwB.2.2.2
        try (have : W1.heap.size < wB.heap.size := by omega)
        go_wp2_with fail
        go_wp2_with (fail)
        refine (HE.out _).mono ?_
        rintro e wC ⟨rfl, hbwC⟩
        have hkwC : Hld W0 wC := heldM (by (repeat' (first | assumption | exact Below.refl _ _ | apply Blw.alloc | apply Blw.drew | apply Blw.drewN | (refine Blw.after ?_ (by assumption)) | (refine Blw.set ?_ (by first | (dsimp only; omega) | (simp; done) | (simp; omega)) _))))
        have hlwC := hkwC.1
        have hswC := hkwC.2.2.2
        try (have : W1.heap.size < wC.heap.size := by omega)
        go_wp2_with fail
        generalize hW : World.alloc _ _ = W4
        have kW4_3 : W4.cell? ⟨W1.heap.size, 0, none⟩ = some (.int .i64 (x)) := by rw [← hW]; clear hW; first | (go_simp; done) | ((repeat refine keepcell ((Below.refl _ _).alloc (Nat.le_refl _) _) ?_); go_simp; done) | (simp only [frozen?_alloc_cells]; go_simp; done)
        have kW4_4 : W4.cell? ⟨W1.heap.size, 1, none⟩ = some (.int .i64 (y)) := by rw [← hW]; clear hW; first | (go_simp; done) | ((repeat refine keepcell ((Below.refl _ _).alloc (Nat.le_refl _) _) ?_); go_simp; done) | (simp only [frozen?_alloc_cells]; go_simp; done)
        have : W1.heap.size < W4.heap.size := World.block_lt_of_cell? W4 ⟨W1.heap.size, 0, none⟩ (by assumption)
        have kW4_5 : W4.cell? ⟨wC.heap.size, 0, none⟩ = some (.int .i64 (x)) := by rw [← hW]; clear hW; first | (go_simp; done) | ((repeat refine keepcell ((Below.refl _ _).alloc (Nat.le_refl _) _) ?_); go_simp; done) | (simp only [frozen?_alloc_cells]; go_simp; done)
        have kW4_6 : W4.cell? ⟨wC.heap.size, 1, none⟩ = some (.int .i64 (y)) := by rw [← hW]; clear hW; first | (go_simp; done) | ((repeat refine keepcell ((Below.refl _ _).alloc (Nat.le_refl _) _) ?_); go_simp; done) | (simp only [frozen?_alloc_cells]; go_simp; done)
        have : wC.heap.size < W4.heap.size := World.block_lt_of_cell? W4 ⟨wC.heap.size, 0, none⟩ (by assumption)
        have hBW4 : Below w.heap.size w W4 := by rw [← hW]; (repeat' (first | assumption | exact Below.refl _ _ | apply Blw.alloc | apply Blw.drew | apply Blw.drewN | (refine Blw.after ?_ (by assumption)) | (refine Blw.set ?_ (by first | (dsimp only; omega) | (simp; done) | (simp; omega)) _)))
        have hsW4 := hBW4.size
        clear hW
        try clear kW0_1; try clear kW0_2; try clear hbwA; try clear hkwA; try clear hlwA; try clear hbwB; try clear hkwB; try clear hlwB; try clear hbwC; try clear hkwC; try clear hlwC
        go_wp2_with (fail)
        refine (HP.out _).mono ?_
        rintro e wD ⟨rfl, hbwD⟩
        have hkwD : Hld W4 wD := heldM (by (repeat' (first | assumption | exact Below.refl _ _ | apply Blw.alloc | apply Blw.drew | apply Blw.drewN | (refine Blw.after ?_ (by assumption)) | (refine Blw.set ?_ (by first | (dsimp only; omega) | (simp; done) | (simp; omega)) _))))
        have hlwD := hkwD.1
        have hswD := hkwD.2.2.2
        try (have : W1.heap.size < wD.heap.size := by omega)
        try (have : wC.heap.size < wD.heap.size := by omega)
        go_wp2_with fail
        refine (HT.out _).mono ?_
        rintro e wE ⟨r, i, rfl, ⟨v1, v2⟩, -, rfl⟩
        have HG := Lib.hid (fun w => gaussOf_c r i x y w v1 v2 ⟨b1, b2⟩ ⟨b3, b4⟩)
        clear v1 v2
        go_wp2_with (fail)
        refine (HG.out _).mono ?_
        rintro e wF ⟨rfl, hbwF⟩
        have hkwF : Hld W4 wF := heldM (by (repeat' (first | assumption | exact Below.refl _ _ | apply Blw.alloc | apply Blw.drew | apply Blw.drewN | (refine Blw.after ?_ (by assumption)) | (refine Blw.set ?_ (by first | (dsimp only; omega) | (simp; done) | (simp; omega)) _))))
        have hlwF := hkwF.1
        have hswF := hkwF.2.2.2
        try (have : W1.heap.size < wF.heap.size := by omega)
        try (have : wC.heap.size < wF.heap.size := by omega)
        go_wp2_with fail
        generalize hW : World.alloc _ _ = W5
        have kW5_7 : W5.cell? ⟨W1.heap.size, 0, none⟩ = some (.int .i64 (x)) := by rw [← hW]; clear hW; first | (go_simp; done) | ((repeat refine keepcell ((Below.refl _ _).alloc (Nat.le_refl _) _) ?_); go_simp; done) | (simp only [frozen?_alloc_cells]; go_simp; done)
        have kW5_8 : W5.cell? ⟨W1.heap.size, 1, none⟩ = some (.int .i64 (y)) := by rw [← hW]; clear hW; first | (go_simp; done) | ((repeat refine keepcell ((Below.refl _ _).alloc (Nat.le_refl _) _) ?_); go_simp; done) | (simp only [frozen?_alloc_cells]; go_simp; done)
        have : W1.heap.size < W5.heap.size := World.block_lt_of_cell? W5 ⟨W1.heap.size, 0, none⟩ (by assumption)
        have kW5_9 : W5.cell? ⟨wC.heap.size, 0, none⟩ = some (.int .i64 (x)) := by rw [← hW]; clear hW; first | (go_simp; done) | ((repeat refine keepcell ((Below.refl _ _).alloc (Nat.le_refl _) _) ?_); go_simp; done) | (simp only [frozen?_alloc_cells]; go_simp; done)
        have kW5_10 : W5.cell? ⟨wC.heap.size, 1, none⟩ = some (.int .i64 (y)) := by rw [← hW]; clear hW; first | (go_simp; done) | ((repeat refine keepcell ((Below.refl _ _).alloc (Nat.le_refl _) _) ?_); go_simp; done) | (simp only [frozen?_alloc_cells]; go_simp; done)
        have : wC.heap.size < W5.heap.size := World.block_lt_of_cell? W5 ⟨wC.heap.size, 0, none⟩ (by assumption)
        have kW5_11 : W5.cell? ⟨wF.heap.size, 0, none⟩ = some (.int .i64 (x)) := by rw [← hW]; clear hW; first | (go_simp; done) | ((repeat refine keepcell ((Below.refl _ _).alloc (Nat.le_refl _) _) ?_); go_simp; done) | (simp only [frozen?_alloc_cells]; go_simp; done)
        have kW5_12 : W5.cell? ⟨wF.heap.size, 1, none⟩ = some (.int .i64 (y)) := by rw [← hW]; clear hW; first | (go_simp; done) | ((repeat refine keepcell ((Below.refl _ _).alloc (Nat.le_refl _) _) ?_); go_simp; done) | (simp only [frozen?_alloc_cells]; go_simp; done)
        have : wF.heap.size < W5.heap.size := World.block_lt_of_cell? W5 ⟨wF.heap.size, 0, none⟩ (by assumption)
        have hBW5 : Below w.heap.size w W5 := by rw [← hW]; (repeat' (first | assumption | exact Below.refl _ _ | apply Blw.alloc | apply Blw.drew | apply Blw.drewN | (refine Blw.after ?_ (by assumption)) | (refine Blw.set ?_ (by first | (dsimp only; omega) | (simp; done) | (simp; omega)) _)))
        have hsW5 := hBW5.size
        clear hW
        try clear kW4_3; try clear kW4_4; try clear kW4_5; try clear kW4_6; try clear hbwD; try clear hkwD; try clear hlwD; try clear hbwF; try clear hkwF; try clear hlwF
        go_wp2_with fail
        go_ret
        exact ⟨by first | rfl | simp, by (repeat' (first | assumption | exact Below.refl _ _ | apply Blw.alloc | apply Blw.drew | apply Blw.drewN | (refine Blw.after ?_ (by assumption)) | (refine Blw.set ?_ (by first | (dsimp only; omega) | (simp; done) | (simp; omega)) _)))⟩
      · rw [hex] at HE
        clear hex
        go_wp2_with (fail)
        refine (HD1.out _).mono ?_
        rintro e wA ⟨rfl, hbwA⟩
        have hkwA : Hld W0 wA := heldM (by (repeat' (first | assumption | exact Below.refl _ _ | apply Blw.alloc | apply Blw.drew | apply Blw.drewN | (refine Blw.after ?_ (by assumption)) | (refine Blw.set ?_ (by first | (dsimp only; omega) | (simp; done) | (simp; omega)) _))))
        have hlwA := hkwA.1
        have hswA := hkwA.2.2.2
        try (have : W1.heap.size < wA.heap.size := by omega)
        try (have : wC.heap.size < wA.heap.size := by omega)
        try (have : wF.heap.size < wA.heap.size := by omega)
        go_wp2_with fail
        go_wp2_with (fail)
        refine (HD2.out _).mono ?_
        rintro e wB ⟨rfl, hbwB⟩
        have hkwB : Hld W0 wB := heldM (by (repeat' (first | assumption | exact Below.refl _ _ | apply Blw.alloc | apply Blw.drew | apply Blw.drewN | (refine Blw.after ?_ (by assumption)) | (refine Blw.set ?_ (by first | (dsimp only; omega) | (simp; done) | (simp; omega)) _))))
        have hlwB := hkwB.1
        have hswB := hkwB.2.2.2
        try (have : W1.heap.size < wB.heap.size := by omega)
        try (have : wC.heap.size < wB.heap.size := by omega)
        try (have : wF.heap.size < wB.heap.size := by omega)
        go_wp2_with fail
        go_wp2_with (fail)
        refine (HE.out _).mono ?_
        rintro e wC ⟨rfl, hbwC⟩
        have hkwC : Hld W0 wC := heldM (by (repeat' (first | assumption | exact Below.refl _ _ | apply Blw.alloc | apply Blw.drew | apply Blw.drewN | (refine Blw.after ?_ (by assumption)) | (refine Blw.set ?_ (by first | (dsimp only; omega) | (simp; done) | (simp; omega)) _))))
        have hlwC := hkwC.1
        have hswC := hkwC.2.2.2
        try (have : W1.heap.size < wC.heap.size := by omega)
        try (have : wF.heap.size < wC.heap.size := by omega)
        go_wp2_with fail
        generalize hW : World.alloc _ _ = W4
        have kW4_13 : W4.cell? ⟨W1.heap.size, 0, none⟩ = some (.int .i64 (x)) := by rw [← hW]; clear hW; first | (go_simp; done) | ((repeat refine keepcell ((Below.refl _ _).alloc (Nat.le_refl _) _) ?_); go_simp; done) | (simp only [frozen?_alloc_cells]; go_simp; done)
        have kW4_14 : W4.cell? ⟨W1.heap.size, 1, none⟩ = some (.int .i64 (y)) := by rw [← hW]; clear hW; first | (go_simp; done) | ((repeat refine keepcell ((Below.refl _ _).alloc (Nat.le_refl _) _) ?_); go_simp; done) | (simp only [frozen?_alloc_cells]; go_simp; done)
        have : W1.heap.size < W4.heap.size := World.block_lt_of_cell? W4 ⟨W1.heap.size, 0, none⟩ (by assumption)
        have kW4_15 : W4.cell? ⟨wC.heap.size, 0, none⟩ = some (.int .i64 (0)) := by rw [← hW]; clear hW; first | (go_simp; done) | ((repeat refine keepcell ((Below.refl _ _).alloc (Nat.le_refl _) _) ?_); go_simp; done) | (simp only [frozen?_alloc_cells]; go_simp; done)
        have kW4_16 : W4.cell? ⟨wC.heap.size, 1, none⟩ = some (.int .i64 (0)) := by rw [← hW]; clear hW; first | (go_simp; done) | ((repeat refine keepcell ((Below.refl _ _).alloc (Nat.le_refl _) _) ?_); go_simp; done) | (simp only [frozen?_alloc_cells]; go_simp; done)
        have : wC.heap.size < W4.heap.size := World.block_lt_of_cell? W4 ⟨wC.heap.size, 0, none⟩ (by assumption)
        have hBW4 : Below w.heap.size w W4 := by rw [← hW]; (repeat' (first | assumption | exact Below.refl _ _ | apply Blw.alloc | apply Blw.drew | apply Blw.drewN | (refine Blw.after ?_ (by assumption)) | (refine Blw.set ?_ (by first | (dsimp only; omega) | (simp; done) | (simp; omega)) _)))
        have hsW4 := hBW4.size
        clear hW
        try clear kW5_7; try clear kW5_8; try clear kW5_9; try clear kW5_10; try clear kW5_11; try clear kW5_12; try clear hbwA; try clear hkwA; try clear hlwA; try clear hbwB; try clear hkwB; try clear hlwB; try clear hbwC; try clear hkwC; try clear hlwC
        go_wp2_with (fail)
        refine (HP.out _).mono ?_
        rintro e wD ⟨rfl, hbwD⟩
        have hkwD : Hld W4 wD := heldM (by (repeat' (first | assumption | exact Below.refl _ _ | apply Blw.alloc | apply Blw.drew | apply Blw.drewN | (refine Blw.after ?_ (by assumption)) | (refine Blw.set ?_ (by first | (dsimp only; omega) | (simp; done) | (simp; omega)) _))))
        have hlwD := hkwD.1
        have hswD := hkwD.2.2.2
        try (have : W1.heap.size < wD.heap.size := by omega)
        try (have : wC.heap.size < wD.heap.size := by omega)
        go_wp2_with fail
        refine (HT.out _).mono ?_
        rintro e wE ⟨r, i, rfl, ⟨v1, v2⟩, -, rfl⟩
        have HG := Lib.hid (fun w => gaussOf_c r i x y w v1 v2 ⟨b1, b2⟩ ⟨b3, b4⟩)
        clear v1 v2
        go_wp2_with (fail)
        refine (HG.out _).mono ?_
        rintro e wF ⟨rfl, hbwF⟩
        have hkwF : Hld W4 wF := heldM (by (repeat' (first | assumption | exact Below.refl _ _ | apply Blw.alloc | apply Blw.drew | apply Blw.drewN | (refine Blw.after ?_ (by assumption)) | (refine Blw.set ?_ (by first | (dsimp only; omega) | (simp; done) | (simp; omega)) _))))
        have hlwF := hkwF.1
        have hswF := hkwF.2.2.2
        try (have : W1.heap.size < wF.heap.size := by omega)
        try (have : wC.heap.size < wF.heap.size := by omega)
        go_wp2_with fail
        generalize hW : World.alloc _ _ = W5
        have kW5_17 : W5.cell? ⟨W1.heap.size, 0, none⟩ = some (.int .i64 (x)) := by rw [← hW]; clear hW; first | (go_simp; done) | ((repeat refine keepcell ((Below.refl _ _).alloc (Nat.le_refl _) _) ?_); go_simp; done) | (simp only [frozen?_alloc_cells]; go_simp; done)
        have kW5_18 : W5.cell? ⟨W1.heap.size, 1, none⟩ = some (.int .i64 (y)) := by rw [← hW]; clear hW; first | (go_simp; done) | ((repeat refine keepcell ((Below.refl _ _).alloc (Nat.le_refl _) _) ?_); go_simp; done) | (simp only [frozen?_alloc_cells]; go_simp; done)
        have : W1.heap.size < W5.heap.size := World.block_lt_of_cell? W5 ⟨W1.heap.size, 0, none⟩ (by assumption)
        have kW5_19 : W5.cell? ⟨wC.heap.size, 0, none⟩ = some (.int .i64 (0)) := by rw [← hW]; clear hW; first | (go_simp; done) | ((repeat refine keepcell ((Below.refl _ _).alloc (Nat.le_refl _) _) ?_); go_simp; done) | (simp only [frozen?_alloc_cells]; go_simp; done)
        have kW5_20 : W5.cell? ⟨wC.heap.size, 1, none⟩ = some (.int .i64 (0)) := by rw [← hW]; clear hW; first | (go_simp; done) | ((repeat refine keepcell ((Below.refl _ _).alloc (Nat.le_refl _) _) ?_); go_simp; done) | (simp only [frozen?_alloc_cells]; go_simp; done)
        have : wC.heap.size < W5.heap.size := World.block_lt_of_cell? W5 ⟨wC.heap.size, 0, none⟩ (by assumption)
        have kW5_21 : W5.cell? ⟨wF.heap.size, 0, none⟩ = some (.int .i64 (x)) := by rw [← hW]; clear hW; first | (go_simp; done) | ((repeat refine keepcell ((Below.refl _ _).alloc (Nat.le_refl _) _) ?_); go_simp; done) | (simp only [frozen?_alloc_cells]; go_simp; done)
        have kW5_22 : W5.cell? ⟨wF.heap.size, 1, none⟩ = some (.int .i64 (y)) := by rw [← hW]; clear hW; first | (go_simp; done) | ((repeat refine keepcell ((Below.refl _ _).alloc (Nat.le_refl _) _) ?_); go_simp; done) | (simp only [frozen?_alloc_cells]; go_simp; done)
        have : wF.heap.size < W5.heap.size := World.block_lt_of_cell? W5 ⟨wF.heap.size, 0, none⟩ (by assumption)
        have hBW5 : Below w.heap.size w W5 := by rw [← hW]; (repeat' (first | assumption | exact Below.refl _ _ | apply Blw.alloc | apply Blw.drew | apply Blw.drewN | (refine Blw.after ?_ (by assumption)) | (refine Blw.set ?_ (by first | (dsimp only; omega) | (simp; done) | (simp; omega)) _)))
        have hsW5 := hBW5.size
        clear hW
        try clear kW4_13; try clear kW4_14; try clear kW4_15; try clear kW4_16; try clear hbwD; try clear hkwD; try clear hlwD; try clear hbwF; try clear hkwF; try clear hlwF
        go_wp2_with fail
        go_ret
        exact ⟨by first | rfl | simp, by (repeat' (first | assumption | exact Below.refl _ _ | apply Blw.alloc | apply Blw.drew | apply Blw.drewN | (refine Blw.after ?_ (by assumption)) | (refine Blw.set ?_ (by first | (dsimp only; omega) | (simp; done) | (simp; omega)) _)))⟩
    · have _t := trivial
      go_wp2_with (fail)
      refine (D1 _).mono ?_
      rintro e wA ⟨rfl, hbwA⟩
      have hkwA : Hld W0 wA := heldM (by (repeat' (first | assumption | exact Below.refl _ _ | apply Blw.alloc | apply Blw.drew | apply Blw.drewN | (refine Blw.after ?_ (by assumption)) | (refine Blw.set ?_ (by first | (dsimp only; omega) | (simp; done) | (simp; omega)) _))))
      have hlwA := hkwA.1
      have hswA := hkwA.2.2.2
      try (have : W1.heap.size < wA.heap.size := by omega)
      try (have : wC.heap.size < wA.heap.size := by omega)
      try (have : wF.heap.size < wA.heap.size := by omega)
      have g1 : W1.heap.size < wA.heap.size := by omega
      go_wp2_with fail
      go_wp2_with (fail)
      refine (D2 _).mono ?_
      rintro e wB ⟨rfl, hbwB⟩
      have hkwB : Hld wA wB := heldM (by (repeat' (first | assumption | exact Below.refl _ _ | apply Blw.alloc | apply Blw.drew | apply Blw.drewN | (refine Blw.after ?_ (by assumption)) | (refine Blw.set ?_ (by first | (dsimp only; omega) | (simp; done) | (simp; omega)) _))))
      have hlwB := hkwB.1
      have hswB := hkwB.2.2.2
      try (have : W1.heap.size < wB.heap.size := by omega)
      try (have : wC.heap.size < wB.heap.size := by omega)
      try (have : wF.heap.size < wB.heap.size := by omega)
      go_wp2_with fail
      go_ret
      exact ⟨rfl, by (repeat' (first | assumption | exact Below.refl _ _ | apply Blw.alloc | apply Blw.drew | apply Blw.drewN | (refine Blw.after ?_ (by assumption)) | (refine Blw.set ?_ (by first | (dsimp only; omega) | (simp; done) | (simp; omega)) _)))⟩

namespace lawFnPlacesText
set_option maxRecDepth 100000 in
theorem lifted (os : Os) (started : os.Started) (H : Type) (enc : TypeId × Value → H) :
    ReturnsInHanded {} Tryd.checked os 3 .any (fun w args => (Rows.fnPlacesTextSpec.pre enc Tryd.prog Tryd.f3 Rows.fnPlacesTextRow.domain false w args ∧ laidMetH Tryd.prog Rows.fnPlacesTextRow.laid w) ∧ sizedMet enc Tryd.prog Tryd.f3 (OpenSpec.ofChange Rows.fnPlacesTextSpec) false w args)
      (Rows.fnPlacesTextSpec.post enc Tryd.prog Tryd.f3 false true false false) := by
  refine returnsInHanded_of_change_and (C := Tryd.checked) (X := fun w _ => laidMetH Tryd.prog Rows.fnPlacesTextRow.laid w) (fun _ _ _ hh h => h.of_heap hh) own started (by kernel_rfl) Tryd.func3
    (ChangeSpec.witness_shaped (enc := enc) (C := Tryd.checked) (os := os) (X := fun w _ => laidMetH Tryd.prog Rows.fnPlacesTextRow.laid w) false (World.laidAll Tryd.prog os Rows.fnPlacesTextRow.laid) #[.slice none 0 0] 8 (World.laidAll_os _ _ _)
      (World.shaped_of_ZipB (by kernel_rfl) (by kernel_rfl)) (by kernel_rfl) (by kernel_rfl) (by kernel_rfl)
      (by rw [MakeChecks.laidMetH_plain _ _ _ (by kernel_rfl)]; exact laidMet_laidAll _ (by kernel_rfl) (by kernel_rfl))) ?_
  intro W base args ds gs before hval0 hW hc0 _ hL _
  have hval : ∀ (j : Nat) t v, Tryd.f3.params[j]? = some t → args[j]? = some v → Value.okWide Tryd.prog W .any base t v := hval0
  have hW' := hW
  obtain ⟨p, q, hA0, hV, rfl, _, _⟩ := hW
  have hA : DataW.TrodAll enc Tryd.prog W 0 (fun _ => true) true Tryd.f3.params.toList args.toList ds p := hA0
  rw [Tryd.params3] at hA hval
  obtain ⟨v0, vs0, d0, ds0, p0, q0, hargs, rfl, rfl, h0, r0⟩ := trodAll_cons hA
  obtain ⟨rfl, rfl, rfl⟩ := trodAll_nil r0
  obtain rfl : args = #[v0] := by cases args; simp_all
  obtain ⟨rfl, rfl⟩ := trodVars_none hV
  obtain ⟨a, len, cap, rfl⟩ := okWide_slice Tryd.underlying22 (hval 0 22 v0 rfl rfl)
  clear hA0 hval0
  simp only [List.append_nil] at hW'
  have hlt : ∀ x ∈ p0, x.block < W.heap.size := fun x hx => by simpa using hW'.lt x hx
  refine (lawPlacesTextP_c a len cap W (code_of h0)).mono fun e W' ⟨he, hg⟩ => ?_
  subst he
  have harg := Below.trod laidOut (by kernel_rfl) (of_decide_eq_true (by kernel_rfl)) h0 hg hlt
  refine ⟨_, rfl, _, _, _, [], p0, [], hW', ?_, ?_, ?_, hg.frame _, fun h => by cases h⟩
  · exact trodAll_cons_mk (shut_bool Tryd.underlying4 _) trodAll_mk0
  · exact trodAll_mk1 harg
  · rfl

theorem holds : Rows.FnPlacesTextSaid :=
  OpenClaim.holds_of_wide 3 Tryd.f3 rfl rfl rfl rfl rfl rfl rfl ⟨rfl, rfl, rfl, rfl, rfl⟩ rfl rfl rfl rfl rfl (by kernel_rfl) Tryd.func3 (by kernel_rfl)
    (of_decide_eq_true (by kernel_rfl)) (by unfold Func.isWrapper; first | (rw [if_pos (by decide +kernel)]; kernel_rfl) | (rw [if_neg (by decide +kernel)]; exact ⟨rfl, rfl⟩))
    (fun os started H enc _ => lifted os started H enc)
theorem proved : Rows.FnPlacesTextCardSaid :=
  Claim7.holds_tied_plain_at .later [] [.data, .pinned] true (true, "aeb0fa9aca182e173f9b3572f9ace8bbeba5290dd6529958d3bc587160e0ede2") false holds (fun _ h => by cases h) (by kernel_rfl) (fun _ h => by cases h) fnPlacesText_row_tie rfl ⟨rfl, rfl⟩ (by kernel_rfl) rfl
    (fun f fn hf hfn => by
      obtain rfl : f = 3 := Option.some.inj ((show Tryd.prog.funcNamed "loop.example/dragonnumbers/laws.FnPlacesText" = some 3 by kernel_rfl).symm.trans hf) |>.symm
      obtain rfl : fn = Tryd.f3 := (Option.some.inj (Tryd.func3.symm.trans hfn)).symm
      exact ⟨by kernel_rfl, fun j t ht => by
        rw [Tryd.params3] at ht
        have hm : t ∈ [22] := by simpa using Array.mem_of_getElem? ht
        have hall : ([22].all fun u => !Tryd.prog.wantsStandIn u) = true := by kernel_rfl
        exact (show Tryd.prog.wantsStandIn t = false by simpa using List.all_eq_true.1 hall t hm)⟩)
    (by kernel_rfl)
end lawFnPlacesText
end Go.Proofs.YtlcafjdinjdllabDoor

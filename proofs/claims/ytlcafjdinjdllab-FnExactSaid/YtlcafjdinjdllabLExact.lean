/- FnExact: whatever the code draws, a number text of few places is read exactly by both sides, and its point multiplied back is that number; no condition. -/
import Derived.Test.YtlcafjdinjdllabPe
import Derived.Test.YtlcafjdinjdllabPy
import Derived.Test.YtlcafjdinjdllabExq
import Derived.Test.YtlcafjdinjdllabGo
import Derived.Test.YtlcafjdinjdllabDrawQ
import Derived.Test.YtlcafjdinjdllabBaseP
import Derived.ChangeKeysEq
import Derived.OwnWalk
namespace Go.Proofs.Ytlcafjdinjdllab
set_option linter.unusedSimpArgs false
set_option linter.unusedVariables false
open Go.ChangeShapes Go.WideShapes Go.ChangeAt Go.RowKit Go.Joins Ieee

theorem exB_parts {s : ByteArray} (h : exB s = true) : cutB s = true ∧ ptB s = true ∧ (tlS s).size ≤ 30 ∧ inB 1000000 (valX (toL (hdS s ++ tlS s))) (valY (toL (hdS s ++ tlS s))) = true := by
  unfold exB at h
  simp only [Bool.and_eq_true, decide_eq_true_eq] at h
  obtain ⟨h1, h2, h3, h4⟩ := h
  exact ⟨h1, by unfold ptB; rw [h1, h3]; rfl, by omega, h4⟩
theorem exact_back {s : ByteArray} (h : exB s = true) : ∃ p : Int × Int, Vl2 .f64 (ptR .f64 s) (ptI .f64 s) p ∧ ptR .f64 s < 18446744073709551616 ∧ (∀ j, j < (tlS s).size → Okv2 .f64 (tb (tbI j p))) ∧
    tbI (tlS s).size p = (valX (toL (hdS s ++ tlS s)) * 2 ^ un .f64, valY (toL (hdS s ++ tlS s)) * 2 ^ un .f64) := by
  obtain ⟨hc, hp, h30, hi⟩ := exB_parts h
  have hi2 : inB 1000000 (valX (toL (hdS s))) (valY (toL (hdS s))) = true := by unfold ptB at hp; rw [Bool.and_eq_true] at hp; exact hp.2
  obtain ⟨c0, c1, c2, c3⟩ := cutB_facts hc
  obtain ⟨a1, a2, a3, a4⟩ := inB_le hi2
  obtain ⟨b1, b2, b3, b4⟩ := inB_le hi
  have e : vF (valX (toL (hdS s)), valY (toL (hdS s))) (toL (tlS s)) = (valX (toL (hdS s ++ tlS s)), valY (toL (hdS s ++ tlS s))) := by
    rw [toL_append]; exact vF_app _ _
  have hl : (toL (tlS s)).length = (tlS s).size := toL_len _
  have hx := exact_point (onlyB_bits c1) (by rw [hl]; exact h30) ⟨a1, a2⟩ ⟨a3, a4⟩ (by rw [e]; exact ⟨b1, b2⟩) (by rw [e]; exact ⟨b3, b4⟩)
  rw [e, hl] at hx
  obtain ⟨p, p1, p2, p3⟩ := hx
  obtain ⟨q1, -, -⟩ := last_ops .f64 c3 ⟨a1, a2⟩ ⟨a3, a4⟩
  exact ⟨p, p1, Format.add_lt _ q1, p2, p3⟩
set_option maxHeartbeats 4000000 in
set_option maxRecDepth 10000 in
theorem lawExact_c (a : Option Addr) (len cap : Nat) (w : World) (hc : len ≤ 1048576 → Code (.slice a len cap) w) : Calls Try.prog 4 #[.slice a len cap] w fun e w' => e = .returned (.bool true) ∧ Below w.heap.size w w' := by
  by_cases hl : 1048576 < len
  · go_enter Try.func4, Try.ntmps4
    go_wp2_with fail
    go_ret
    exact ⟨rfl, by (repeat' (first | assumption | exact Below.refl _ _ | apply Blw.alloc | apply Blw.drew | apply Blw.drewN | (refine Blw.after ?_ (by assumption)) | (refine Blw.set ?_ (by first | (dsimp only; omega) | (simp; done) | (simp; omega)) _)))⟩
  · have hc' := hc (by omega)
    clear hc
    go_enter Try.func4, Try.ntmps4
    go_wp2_with fail
    refine (drawPlE_c _ w hc').mono ?_
    rintro e W1 ⟨s, rfl, ht, hb1⟩
    clear hc'
    have hsz : s.size ≤ 2000000 := by omega
    rcases Bool.eq_false_or_eq_true (exB s) with hx | hx
    · have V := exW_yes hx
      have HI := Lib.hid (show ∀ w, Calls Try.prog 16 #[.string s] w fun e w' => e = .returned (.tuple #[pr (valX (toL (hdS s ++ tlS s))) (valY (toL (hdS s ++ tlS s))), .int .i64 (tlS s).size, .bool true]) ∧ Below w.heap.size w w' from fun w => by rw [← V]; exact iPlacesExact_c s w hsz)
      have HS := Lib.hid (show ∀ w, Calls Try.prog 17 #[.string s] w fun e w' => e = .returned (.tuple #[pr (valX (toL (hdS s ++ tlS s))) (valY (toL (hdS s ++ tlS s))), .int .i64 (tlS s).size, .bool true]) ∧ Below w.heap.size w w' from fun w => by rw [← V]; exact sPlacesExact_c s w hsz)
      obtain ⟨hcut, hp, h30, hi⟩ := exB_parts hx
      obtain ⟨b1, b2, b3, b4⟩ := inB_le hi
      obtain ⟨p, p1, p2, p3, p4⟩ := exact_back hx
      have HP := Lib.hid (show ∀ w, Calls Try.prog 13 #[.string s] w fun e w' => e = .returned (.tuple #[.complex .f64 (ptR .f64 s) (ptI .f64 s), .bool true]) ∧ Below w.heap.size w w' from fun w => by
        have := iPointWide_c s w hsz
        simp only [ptV, hp, pickN, if_true] at this
        exact this)
      have HT := Lib.hid (fun w => timesBase_c' (ptR .f64 s) (ptI .f64 s) (tlS s).size p w (by omega) p1 p2 p3)
      rw [p4] at HT
      clear V hcut hp hi hx p1 p2 p3 p4
      have hn : (tlS s).size ≤ 30 := h30
      generalize valX (toL (hdS s ++ tlS s)) = x at *
      generalize valY (toL (hdS s ++ tlS s)) = y at *
      generalize (tlS s).size = n at *
      go_wp2_with (fail)
      refine (HI.out _).mono ?_
      rintro e wA ⟨rfl, hbwA⟩
      have hkwA : Hld W1 wA := heldM (by (repeat' (first | assumption | exact Below.refl _ _ | apply Blw.alloc | apply Blw.drew | apply Blw.drewN | (refine Blw.after ?_ (by assumption)) | (refine Blw.set ?_ (by first | (dsimp only; omega) | (simp; done) | (simp; omega)) _))))
      have hlwA := hkwA.1
      have hswA := hkwA.2.2.2
      try (have : w.heap.size < wA.heap.size := by omega)
      go_wp2_with fail
      generalize hW : World.alloc _ _ = W2
      have kW2_53 : W2.cell? ⟨wA.heap.size, 0, none⟩ = some (.int .i64 (x)) := by rw [← hW]; clear hW; first | (go_simp; done) | ((repeat refine keepcell ((Below.refl _ _).alloc (Nat.le_refl _) _) ?_); go_simp; done) | (simp only [frozen?_alloc_cells]; go_simp; done)
      have kW2_54 : W2.cell? ⟨wA.heap.size, 1, none⟩ = some (.int .i64 (y)) := by rw [← hW]; clear hW; first | (go_simp; done) | ((repeat refine keepcell ((Below.refl _ _).alloc (Nat.le_refl _) _) ?_); go_simp; done) | (simp only [frozen?_alloc_cells]; go_simp; done)
      have : wA.heap.size < W2.heap.size := World.block_lt_of_cell? W2 ⟨wA.heap.size, 0, none⟩ (by assumption)
      have hBW2 : Below w.heap.size w W2 := by rw [← hW]; (repeat' (first | assumption | exact Below.refl _ _ | apply Blw.alloc | apply Blw.drew | apply Blw.drewN | (refine Blw.after ?_ (by assumption)) | (refine Blw.set ?_ (by first | (dsimp only; omega) | (simp; done) | (simp; omega)) _)))
      have hsW2 := hBW2.size
      clear hW
      try clear kW1_51; try clear zW1_51; try clear kW1_52; try clear zW1_52; try clear hbwA; try clear hkwA; try clear hlwA
      go_wp2_with (fail)
      refine (HS.out _).mono ?_
      rintro e wB ⟨rfl, hbwB⟩
      have hkwB : Hld W2 wB := heldM (by (repeat' (first | assumption | exact Below.refl _ _ | apply Blw.alloc | apply Blw.drew | apply Blw.drewN | (refine Blw.after ?_ (by assumption)) | (refine Blw.set ?_ (by first | (dsimp only; omega) | (simp; done) | (simp; omega)) _))))
      have hlwB := hkwB.1
      have hswB := hkwB.2.2.2
      try (have : wA.heap.size < wB.heap.size := by omega)
      go_wp2_with fail
      generalize hW : World.alloc _ _ = W3
      have kW3_55 : W3.cell? ⟨wA.heap.size, 0, none⟩ = some (.int .i64 (x)) := by rw [← hW]; clear hW; first | (go_simp; done) | ((repeat refine keepcell ((Below.refl _ _).alloc (Nat.le_refl _) _) ?_); go_simp; done) | (simp only [frozen?_alloc_cells]; go_simp; done)
      have kW3_56 : W3.cell? ⟨wA.heap.size, 1, none⟩ = some (.int .i64 (y)) := by rw [← hW]; clear hW; first | (go_simp; done) | ((repeat refine keepcell ((Below.refl _ _).alloc (Nat.le_refl _) _) ?_); go_simp; done) | (simp only [frozen?_alloc_cells]; go_simp; done)
      have : wA.heap.size < W3.heap.size := World.block_lt_of_cell? W3 ⟨wA.heap.size, 0, none⟩ (by assumption)
      have kW3_57 : W3.cell? ⟨wB.heap.size, 0, none⟩ = some (.int .i64 (x)) := by rw [← hW]; clear hW; first | (go_simp; done) | ((repeat refine keepcell ((Below.refl _ _).alloc (Nat.le_refl _) _) ?_); go_simp; done) | (simp only [frozen?_alloc_cells]; go_simp; done)
      have kW3_58 : W3.cell? ⟨wB.heap.size, 1, none⟩ = some (.int .i64 (y)) := by rw [← hW]; clear hW; first | (go_simp; done) | ((repeat refine keepcell ((Below.refl _ _).alloc (Nat.le_refl _) _) ?_); go_simp; done) | (simp only [frozen?_alloc_cells]; go_simp; done)
      have : wB.heap.size < W3.heap.size := World.block_lt_of_cell? W3 ⟨wB.heap.size, 0, none⟩ (by assumption)
      have hBW3 : Below w.heap.size w W3 := by rw [← hW]; (repeat' (first | assumption | exact Below.refl _ _ | apply Blw.alloc | apply Blw.drew | apply Blw.drewN | (refine Blw.after ?_ (by assumption)) | (refine Blw.set ?_ (by first | (dsimp only; omega) | (simp; done) | (simp; omega)) _)))
      have hsW3 := hBW3.size
      clear hW
      try clear kW2_53; try clear kW2_54; try clear hbwB; try clear hkwB; try clear hlwB
      go_wp2_with (fail)
      refine (HP.out _).mono ?_
      rintro e wC ⟨rfl, hbwC⟩
      have hkwC : Hld W3 wC := heldM (by (repeat' (first | assumption | exact Below.refl _ _ | apply Blw.alloc | apply Blw.drew | apply Blw.drewN | (refine Blw.after ?_ (by assumption)) | (refine Blw.set ?_ (by first | (dsimp only; omega) | (simp; done) | (simp; omega)) _))))
      have hlwC := hkwC.1
      have hswC := hkwC.2.2.2
      try (have : wA.heap.size < wC.heap.size := by omega)
      try (have : wB.heap.size < wC.heap.size := by omega)
      go_wp2_with fail
      refine (HT.out _).mono ?_
      rintro e wD ⟨r, i, rfl, ⟨v1, v2⟩, -, rfl⟩
      have HG := Lib.hid (fun w => gaussOf_c r i x y w v1 v2 ⟨b1, b2⟩ ⟨b3, b4⟩)
      clear v1 v2
      go_wp2_with (fail)
      refine (HG.out _).mono ?_
      rintro e wE ⟨rfl, hbwE⟩
      have hkwE : Hld W3 wE := heldM (by (repeat' (first | assumption | exact Below.refl _ _ | apply Blw.alloc | apply Blw.drew | apply Blw.drewN | (refine Blw.after ?_ (by assumption)) | (refine Blw.set ?_ (by first | (dsimp only; omega) | (simp; done) | (simp; omega)) _))))
      have hlwE := hkwE.1
      have hswE := hkwE.2.2.2
      try (have : wA.heap.size < wE.heap.size := by omega)
      try (have : wB.heap.size < wE.heap.size := by omega)
      go_wp2_with fail
      generalize hW : World.alloc _ _ = W4
      have kW4_59 : W4.cell? ⟨wA.heap.size, 0, none⟩ = some (.int .i64 (x)) := by rw [← hW]; clear hW; first | (go_simp; done) | ((repeat refine keepcell ((Below.refl _ _).alloc (Nat.le_refl _) _) ?_); go_simp; done) | (simp only [frozen?_alloc_cells]; go_simp; done)
      have kW4_60 : W4.cell? ⟨wA.heap.size, 1, none⟩ = some (.int .i64 (y)) := by rw [← hW]; clear hW; first | (go_simp; done) | ((repeat refine keepcell ((Below.refl _ _).alloc (Nat.le_refl _) _) ?_); go_simp; done) | (simp only [frozen?_alloc_cells]; go_simp; done)
      have : wA.heap.size < W4.heap.size := World.block_lt_of_cell? W4 ⟨wA.heap.size, 0, none⟩ (by assumption)
      have kW4_61 : W4.cell? ⟨wE.heap.size, 0, none⟩ = some (.int .i64 (x)) := by rw [← hW]; clear hW; first | (go_simp; done) | ((repeat refine keepcell ((Below.refl _ _).alloc (Nat.le_refl _) _) ?_); go_simp; done) | (simp only [frozen?_alloc_cells]; go_simp; done)
      have kW4_62 : W4.cell? ⟨wE.heap.size, 1, none⟩ = some (.int .i64 (y)) := by rw [← hW]; clear hW; first | (go_simp; done) | ((repeat refine keepcell ((Below.refl _ _).alloc (Nat.le_refl _) _) ?_); go_simp; done) | (simp only [frozen?_alloc_cells]; go_simp; done)
      have : wE.heap.size < W4.heap.size := World.block_lt_of_cell? W4 ⟨wE.heap.size, 0, none⟩ (by assumption)
      have hBW4 : Below w.heap.size w W4 := by rw [← hW]; (repeat' (first | assumption | exact Below.refl _ _ | apply Blw.alloc | apply Blw.drew | apply Blw.drewN | (refine Blw.after ?_ (by assumption)) | (refine Blw.set ?_ (by first | (dsimp only; omega) | (simp; done) | (simp; omega)) _)))
      have hsW4 := hBW4.size
      clear hW
      try clear kW3_55; try clear kW3_56; try clear kW3_57; try clear kW3_58; try clear hbwC; try clear hkwC; try clear hlwC; try clear hbwE; try clear hkwE; try clear hlwE
      go_wp2_with fail
      go_ret
      exact ⟨by simp, by (repeat' (first | assumption | exact Below.refl _ _ | apply Blw.alloc | apply Blw.drew | apply Blw.drewN | (refine Blw.after ?_ (by assumption)) | (refine Blw.set ?_ (by first | (dsimp only; omega) | (simp; done) | (simp; omega)) _)))⟩
    · have V := exW_no hx
      have HI := Lib.hid (show ∀ w, Calls Try.prog 16 #[.string s] w fun e w' => e = .returned (.tuple #[pr 0 0, .int .i64 0, .bool false]) ∧ Below w.heap.size w w' from fun w => by rw [← V]; exact iPlacesExact_c s w hsz)
      have HS := Lib.hid (show ∀ w, Calls Try.prog 17 #[.string s] w fun e w' => e = .returned (.tuple #[pr 0 0, .int .i64 0, .bool false]) ∧ Below w.heap.size w w' from fun w => by rw [← V]; exact sPlacesExact_c s w hsz)
      clear V hx
      go_wp2_with (fail)
      refine (HI.out _).mono ?_
      rintro e wA ⟨rfl, hbwA⟩
      have hkwA : Hld W1 wA := heldM (by (repeat' (first | assumption | exact Below.refl _ _ | apply Blw.alloc | apply Blw.drew | apply Blw.drewN | (refine Blw.after ?_ (by assumption)) | (refine Blw.set ?_ (by first | (dsimp only; omega) | (simp; done) | (simp; omega)) _))))
      have hlwA := hkwA.1
      have hswA := hkwA.2.2.2
      try (have : wE.heap.size < wA.heap.size := by omega)
      go_wp2_with fail
      generalize hW : World.alloc _ _ = W2
      have kW2_63 : W2.cell? ⟨wA.heap.size, 0, none⟩ = some (.int .i64 (0)) := by rw [← hW]; clear hW; first | (go_simp; done) | ((repeat refine keepcell ((Below.refl _ _).alloc (Nat.le_refl _) _) ?_); go_simp; done) | (simp only [frozen?_alloc_cells]; go_simp; done)
      have kW2_64 : W2.cell? ⟨wA.heap.size, 1, none⟩ = some (.int .i64 (0)) := by rw [← hW]; clear hW; first | (go_simp; done) | ((repeat refine keepcell ((Below.refl _ _).alloc (Nat.le_refl _) _) ?_); go_simp; done) | (simp only [frozen?_alloc_cells]; go_simp; done)
      have : wA.heap.size < W2.heap.size := World.block_lt_of_cell? W2 ⟨wA.heap.size, 0, none⟩ (by assumption)
      have hBW2 : Below w.heap.size w W2 := by rw [← hW]; (repeat' (first | assumption | exact Below.refl _ _ | apply Blw.alloc | apply Blw.drew | apply Blw.drewN | (refine Blw.after ?_ (by assumption)) | (refine Blw.set ?_ (by first | (dsimp only; omega) | (simp; done) | (simp; omega)) _)))
      have hsW2 := hBW2.size
      clear hW
      try clear kW4_59; try clear kW4_60; try clear kW4_61; try clear kW4_62; try clear hbwA; try clear hkwA; try clear hlwA
      go_wp2_with (fail)
      refine (HS.out _).mono ?_
      rintro e wB ⟨rfl, hbwB⟩
      have hkwB : Hld W2 wB := heldM (by (repeat' (first | assumption | exact Below.refl _ _ | apply Blw.alloc | apply Blw.drew | apply Blw.drewN | (refine Blw.after ?_ (by assumption)) | (refine Blw.set ?_ (by first | (dsimp only; omega) | (simp; done) | (simp; omega)) _))))
      have hlwB := hkwB.1
      have hswB := hkwB.2.2.2
      try (have : wA.heap.size < wB.heap.size := by omega)
      go_wp2_with fail
      generalize hW : World.alloc _ _ = W3
      have kW3_65 : W3.cell? ⟨wA.heap.size, 0, none⟩ = some (.int .i64 (0)) := by rw [← hW]; clear hW; first | (go_simp; done) | ((repeat refine keepcell ((Below.refl _ _).alloc (Nat.le_refl _) _) ?_); go_simp; done) | (simp only [frozen?_alloc_cells]; go_simp; done)
      have kW3_66 : W3.cell? ⟨wA.heap.size, 1, none⟩ = some (.int .i64 (0)) := by rw [← hW]; clear hW; first | (go_simp; done) | ((repeat refine keepcell ((Below.refl _ _).alloc (Nat.le_refl _) _) ?_); go_simp; done) | (simp only [frozen?_alloc_cells]; go_simp; done)
      have : wA.heap.size < W3.heap.size := World.block_lt_of_cell? W3 ⟨wA.heap.size, 0, none⟩ (by assumption)
      have kW3_67 : W3.cell? ⟨wB.heap.size, 0, none⟩ = some (.int .i64 (0)) := by rw [← hW]; clear hW; first | (go_simp; done) | ((repeat refine keepcell ((Below.refl _ _).alloc (Nat.le_refl _) _) ?_); go_simp; done) | (simp only [frozen?_alloc_cells]; go_simp; done)
      have kW3_68 : W3.cell? ⟨wB.heap.size, 1, none⟩ = some (.int .i64 (0)) := by rw [← hW]; clear hW; first | (go_simp; done) | ((repeat refine keepcell ((Below.refl _ _).alloc (Nat.le_refl _) _) ?_); go_simp; done) | (simp only [frozen?_alloc_cells]; go_simp; done)
      have : wB.heap.size < W3.heap.size := World.block_lt_of_cell? W3 ⟨wB.heap.size, 0, none⟩ (by assumption)
      have hBW3 : Below w.heap.size w W3 := by rw [← hW]; (repeat' (first | assumption | exact Below.refl _ _ | apply Blw.alloc | apply Blw.drew | apply Blw.drewN | (refine Blw.after ?_ (by assumption)) | (refine Blw.set ?_ (by first | (dsimp only; omega) | (simp; done) | (simp; omega)) _)))
      have hsW3 := hBW3.size
      clear hW
      try clear kW2_63; try clear kW2_64; try clear hbwB; try clear hkwB; try clear hlwB
      go_wp2_with fail
      go_ret
      exact ⟨by simp, by (repeat' (first | assumption | exact Below.refl _ _ | apply Blw.alloc | apply Blw.drew | apply Blw.drewN | (refine Blw.after ?_ (by assumption)) | (refine Blw.set ?_ (by first | (dsimp only; omega) | (simp; done) | (simp; omega)) _)))⟩

namespace lawFnExact
set_option maxRecDepth 100000 in
theorem lifted (os : Os) (started : os.Started) (H : Type) (enc : TypeId × Value → H) :
    ReturnsInHanded {} Try.checked os 4 .any (Rows.fnExactSpec.pre6 enc Try.prog Try.f4 Rows.fnExactRow.domain false) (Rows.fnExactSpec.post enc Try.prog Try.f4 false true false false) := by
  refine returnsInHanded_of_change (C := Try.checked) own started (by kernel_rfl) Try.func4
    (ChangeSpec.witness6 (enc := enc) (C := Try.checked) false ⟨#[], #[.slice none 0 0], []⟩ 8 (by kernel_rfl) (by kernel_rfl) (by kernel_rfl) (by kernel_rfl)) ?_
  intro W base args ds gs before hval0 hW _ _
  have hval : ∀ (j : Nat) t v, Try.f4.params[j]? = some t → args[j]? = some v → Value.okWide Try.prog W .any base t v := hval0
  have hW' := hW
  obtain ⟨p, q, hA0, hV, rfl, _, _⟩ := hW
  have hA : DataW.TrodAll enc Try.prog W 0 (fun _ => true) true Try.f4.params.toList args.toList ds p := hA0
  rw [Try.params4] at hA hval
  obtain ⟨v0, vs0, d0, ds0, p0, q0, hargs, rfl, rfl, h0, r0⟩ := trodAll_cons hA
  obtain ⟨rfl, rfl, rfl⟩ := trodAll_nil r0
  obtain rfl : args = #[v0] := by cases args; simp_all
  obtain ⟨rfl, rfl⟩ := trodVars_none hV
  obtain ⟨a, len, cap, rfl⟩ := okWide_slice Try.underlying22 (hval 0 22 v0 rfl rfl)
  clear hA0 hval0
  simp only [List.append_nil] at hW'
  have hlt : ∀ x ∈ p0, x.block < W.heap.size := fun x hx => by simpa using hW'.lt x hx
  refine (lawExact_c a len cap W (code_of h0)).mono fun e W' ⟨he, hg⟩ => ?_
  subst he
  have harg := Below.trod laidOut (by kernel_rfl) (of_decide_eq_true (by kernel_rfl)) h0 hg hlt
  refine ⟨_, rfl, _, _, _, [], p0, [], hW', ?_, ?_, ?_, hg.frame _, fun h => by cases h⟩
  · exact trodAll_cons_mk (shut_bool Try.underlying4 _) trodAll_mk0
  · exact trodAll_mk1 harg
  · rfl

theorem proved : Rows.FnExactSaid :=
  OpenClaim.holds_of_wide 4 Try.f4 rfl rfl rfl rfl rfl rfl rfl ⟨rfl, rfl, rfl, rfl, rfl⟩ rfl rfl rfl rfl rfl (by kernel_rfl) Try.func4 (by kernel_rfl)
    (of_decide_eq_true (by kernel_rfl)) (by unfold Func.isWrapper; first | (rw [if_pos (by decide +kernel)]; kernel_rfl) | (rw [if_neg (by decide +kernel)]; exact ⟨rfl, rfl⟩))
    (fun os started H enc _ => lifted os started H enc)
end lawFnExact
end Go.Proofs.Ytlcafjdinjdllab

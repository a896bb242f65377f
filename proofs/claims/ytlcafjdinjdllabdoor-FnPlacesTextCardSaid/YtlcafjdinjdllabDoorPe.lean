/- Chapter 3: PlacesExact of both sides. -/
import Derived.Test.YtlcafjdinjdllabDoorCutW
import Derived.Test.YtlcafjdinjdllabDoorDc
import Derived.Test.YtlcafjdinjdllabDoorDe2
namespace Go.Proofs.YtlcafjdinjdllabDoor
set_option linter.unusedSimpArgs false
set_option linter.unusedVariables false
open Go.RowKit

theorem valF_zero (l : List UInt8) : valF (48 :: l) = valF l := rfl
theorem val_strip : ∀ l : List UInt8, valF (strip l) = valF l
  | [] => by rw [strip_short (by simp)]
  | [c] => by rw [strip_short (by simp)]
  | c :: d :: r => by
    by_cases h : c = 48
    · subst h
      have := strip_cons48 (l := 48 :: d :: r) (by simp) (by simp)
      rw [← this, List.drop_succ_cons, List.drop_zero, val_strip (d :: r)]
      rfl
    · rw [strip_keep (by simpa using h)]
theorem toL_append (a b : ByteArray) : toL (a ++ b) = toL a ++ toL b := by
  show (a ++ b).data.toList = _
  rw [ByteArray.data_append, Array.toList_append]
theorem strip_le : ∀ l : List UInt8, (strip l).length ≤ l.length
  | [] => Nat.le_refl _
  | [_] => Nat.le_refl _
  | c :: d :: r => by
    unfold strip
    split
    · have := strip_le (d :: r); simp only [List.length_cons] at this ⊢; omega
    · exact Nat.le_refl _
def exB (s : ByteArray) : Bool := cutB s && (decide ((hdS s).size + (tlS s).size ≤ 30) && (inB 1000000 (valX (toL (hdS s))) (valY (toL (hdS s))) && inB 1000000 (valX (toL (hdS s ++ tlS s))) (valY (toL (hdS s ++ tlS s)))))
abbrev exW (s : ByteArray) : Value := .tuple #[pr (sel (exB s) (valX (toL (hdS s ++ tlS s)))) (sel (exB s) (valY (toL (hdS s ++ tlS s)))), .int .i64 (sel (exB s) (tlS s).size), .bool (exB s)]
theorem exW_no {s : ByteArray} (h : exB s = false) : exW s = .tuple #[pr 0 0, .int .i64 0, .bool false] := by unfold exW; rw [h]; rfl
theorem exW_yes {s : ByteArray} (h : exB s = true) : exW s = .tuple #[pr (valX (toL (hdS s ++ tlS s))) (valY (toL (hdS s ++ tlS s))), .int .i64 (tlS s).size, .bool true] := by unfold exW; rw [h]; rfl
/-- what the whole text without the point is, stripped -/
theorem whole_ok {a T : ByteArray} (hv : vldB a = true) (hb : onlyB T = true) (hs : a.size + T.size ≤ 30) :
    (∀ c ∈ toL (a ++ T), bitC c = true) ∧ (a ++ T).size ≤ 30 ∧ vldB (bs (strip (toL (a ++ T)))) = true ∧ strip (toL (a ++ T)) = toL (bs (strip (toL (a ++ T)))) := by
  have h1 : ∀ c ∈ toL (a ++ T), bitC c = true := by
    rw [toL_append]
    intro c hc
    rcases List.mem_append.1 hc with h | h
    · exact vldB_bits hv c h
    · exact onlyB_bits hb c h
  have h2 : (toL (a ++ T)).length = a.size + T.size := by rw [toL_append, List.length_append, toL_len, toL_len]
  have h3 : (strip (toL (a ++ T))).length ≤ (toL (a ++ T)).length := strip_le _
  have hne : toL (a ++ T) ≠ [] := by
    have := (vldB_len hv).1
    intro e
    rw [e] at h2
    simp at h2
    omega
  refine ⟨h1, by rw [← toL_len, h2]; exact hs, ?_, (toL_bs _).symm⟩
  unfold vldB
  rw [toL_bs, vldL_strip h1 hne]
  exact decide_eq_true (by omega)
theorem keepfroz {w w' : World} {p : Addr} (h : Below w.heap.size w w') (hp : p.block < w.heap.size) (hf : w.frozen? p = false) : w'.frozen? p = false := (h.frozen hp).trans hf
theorem cutS_fail {s : ByteArray} (h : cutB s = false) : ∃ a T, cutS s = .tuple #[.string a, .string T, .bool false] := ⟨_, _, by unfold cutS; rw [h]⟩
theorem cutI_fail {s : ByteArray} (h : cutB s = false) : ∃ a T, cutI s = .tuple #[.string a, .string T, .bool false] := ⟨_, _, cutI_no h⟩
set_option maxRecDepth 100000 in
set_option maxHeartbeats 2000000 in
theorem iPlacesExact_c (s : ByteArray) (w : World) (hsz : s.size ≤ 2000000) : Calls Tryd.prog 11 #[.string s] w fun e w' => e = .returned (exW s) ∧ Below w.heap.size w w' := by
  rcases Bool.eq_false_or_eq_true (cutB s) with hc | hc
  · have HC := Lib.hid (cutI_yes hc)
    obtain ⟨-, c1, c2, c3⟩ := cutB_facts hc
    have hS : ∀ w, Calls Tryd.prog 34 #[.string s] w fun e w' => e = .returned (.tuple #[.string (hdS s), .string (tlS s), .bool true]) ∧ Below w.heap.size w w' := fun w => by rw [← HC.out]; exact cutI_c s w hsz
    clear HC
    have l1 := (vldB_len c2).2
    by_cases h30 : (hdS s).size + (tlS s).size ≤ 30
    · obtain ⟨q1, q2, q3, q4⟩ := whole_ok c2 c1 h30
      have HE : exB s = (inB 1000000 (valX (toL (hdS s))) (valY (toL (hdS s))) && inB 1000000 (valX (toL (hdS s ++ tlS s))) (valY (toL (hdS s ++ tlS s)))) := by unfold exB; rw [hc]; simp [h30]
      have HX := Lib.hid (show exW s = .tuple #[pr (sel (exB s) (valX (toL (hdS s ++ tlS s)))) (sel (exB s) (valY (toL (hdS s ++ tlS s)))), .int .i64 (sel (exB s) (tlS s).size), .bool (exB s)] from rfl)
      rw [HE] at HX
      have hD := fun w => iDigitsValue_c (hdS s) w
      rw [valV_yes c2] at hD
      have hP := fun w => digitsPair_c (hdS s ++ tlS s) w q1 (by omega)
      clear q1 q3 q4 hc c1 c2 HE
      have l2 : (hdS s ++ tlS s).size ≤ 1000 := by omega
      generalize valX (toL (hdS s)) = X1 at *
      generalize valY (toL (hdS s)) = Y1 at *
      generalize valX (toL (hdS s ++ tlS s)) = X at *
      generalize valY (toL (hdS s ++ tlS s)) = Y at *
      generalize hdS s = a at *
      generalize tlS s = T at *
      have hin : ∀ w, Calls Tryd.prog 37 #[pr X Y] w fun e w' => e = .returned (res2 (inB 1000000 X Y) X Y) ∧ Below w.heap.size w w' := fun w => ifSmall_c X Y w
      generalize inB 1000000 X Y = b2 at *
      generalize inB 1000000 X1 Y1 = b1 at *
      go_enter Tryd.func11, Tryd.ntmps11
      go_wp2_with fail
      generalize hW : World.alloc _ _ = W0
      have kW0_21 : W0.cell? ⟨w.heap.size, 0, none⟩ = some (.int .i64 (0)) := by rw [← hW]; clear hW; first | (go_simp; done) | ((repeat refine keepcell ((Below.refl _ _).alloc (Nat.le_refl _) _) ?_); go_simp; done) | (simp only [frozen?_alloc_cells]; go_simp; done)
      have zW0_21 : W0.frozen? ⟨w.heap.size, 0, none⟩ = false := by rw [← hW]; clear hW; first | (go_simp; done) | ((repeat refine keepcell ((Below.refl _ _).alloc (Nat.le_refl _) _) ?_); go_simp; done) | (simp only [frozen?_alloc_cells]; go_simp; done)
      have kW0_22 : W0.cell? ⟨w.heap.size, 1, none⟩ = some (.int .i64 (0)) := by rw [← hW]; clear hW; first | (go_simp; done) | ((repeat refine keepcell ((Below.refl _ _).alloc (Nat.le_refl _) _) ?_); go_simp; done) | (simp only [frozen?_alloc_cells]; go_simp; done)
      have zW0_22 : W0.frozen? ⟨w.heap.size, 1, none⟩ = false := by rw [← hW]; clear hW; first | (go_simp; done) | ((repeat refine keepcell ((Below.refl _ _).alloc (Nat.le_refl _) _) ?_); go_simp; done) | (simp only [frozen?_alloc_cells]; go_simp; done)
      have : w.heap.size < W0.heap.size := World.block_lt_of_cell? W0 ⟨w.heap.size, 0, none⟩ (by assumption)
      have hBW0 : Below w.heap.size w W0 := by rw [← hW]; (repeat' (first | assumption | exact Below.refl _ _ | apply Blw.alloc | apply Blw.drew | apply Blw.drewN | (refine Blw.after ?_ (by assumption)) | (refine Blw.set ?_ (by first | (dsimp only; omega) | (simp; done) | (simp; omega)) _)))
      have hsW0 := hBW0.size
      clear hW
      go_wp2_with (fail)
      refine (hS _).mono ?_
      rintro e wA ⟨rfl, hbwA⟩
      have hkwA : Hld W0 wA := heldM (by (repeat' (first | assumption | exact Below.refl _ _ | apply Blw.alloc | apply Blw.drew | apply Blw.drewN | (refine Blw.after ?_ (by assumption)) | (refine Blw.set ?_ (by first | (dsimp only; omega) | (simp; done) | (simp; omega)) _))))
      have hlwA := hkwA.1
      have hswA := hkwA.2.2.2
      try (have : w.heap.size < wA.heap.size := by omega)
      go_wp2_with (fail)
      refine (hD _).mono ?_
      rintro e wB ⟨rfl, hbwB⟩
      have hkwB : Hld W0 wB := heldM (by (repeat' (first | assumption | exact Below.refl _ _ | apply Blw.alloc | apply Blw.drew | apply Blw.drewN | (refine Blw.after ?_ (by assumption)) | (refine Blw.set ?_ (by first | (dsimp only; omega) | (simp; done) | (simp; omega)) _))))
      have hlwB := hkwB.1
      have hswB := hkwB.2.2.2
      try (have : w.heap.size < wB.heap.size := by omega)
      cases b1
      · skip
        have z0 : ∀ o, (World.alloc wB o).frozen? ⟨w.heap.size, 0, none⟩ = false := fun o => keepfroz (w := W0) (by (repeat' (first | assumption | exact Below.refl _ _ | apply Blw.alloc | apply Blw.drew | apply Blw.drewN | (refine Blw.after ?_ (by assumption)) | (refine Blw.set ?_ (by first | (dsimp only; omega) | (simp; done) | (simp; omega)) _)))) (by assumption) (by assumption)
        have z1 : ∀ o, (World.alloc wB o).frozen? ⟨w.heap.size, 1, none⟩ = false := fun o => keepfroz (w := W0) (by (repeat' (first | assumption | exact Below.refl _ _ | apply Blw.alloc | apply Blw.drew | apply Blw.drewN | (refine Blw.after ?_ (by assumption)) | (refine Blw.set ?_ (by first | (dsimp only; omega) | (simp; done) | (simp; omega)) _)))) (by assumption) (by assumption)
        go_wp2_with fail
        exact bodyPost_ret (v := exW s) (by rw [HX.out]; simp [results, Tryd.results11, go_sem, *, res2, sel]) rfl ⟨rfl, by (repeat' (first | assumption | exact Below.refl _ _ | apply Blw.alloc | apply Blw.drew | apply Blw.drewN | (refine Blw.after ?_ (by assumption)) | (refine Blw.set ?_ (by first | (dsimp only; omega) | (simp; done) | (simp; omega)) _)))⟩
      · go_wp2_with fail
        generalize hW : World.alloc _ _ = W1
        have kW1_23 : W1.cell? ⟨w.heap.size, 0, none⟩ = some (.int .i64 (0)) := by rw [← hW]; clear hW; first | (go_simp; done) | ((repeat refine keepcell ((Below.refl _ _).alloc (Nat.le_refl _) _) ?_); go_simp; done) | (simp only [frozen?_alloc_cells]; go_simp; done)
        have zW1_23 : W1.frozen? ⟨w.heap.size, 0, none⟩ = false := by rw [← hW]; clear hW; first | (go_simp; done) | ((repeat refine keepcell ((Below.refl _ _).alloc (Nat.le_refl _) _) ?_); go_simp; done) | (simp only [frozen?_alloc_cells]; go_simp; done)
        have kW1_24 : W1.cell? ⟨w.heap.size, 1, none⟩ = some (.int .i64 (0)) := by rw [← hW]; clear hW; first | (go_simp; done) | ((repeat refine keepcell ((Below.refl _ _).alloc (Nat.le_refl _) _) ?_); go_simp; done) | (simp only [frozen?_alloc_cells]; go_simp; done)
        have zW1_24 : W1.frozen? ⟨w.heap.size, 1, none⟩ = false := by rw [← hW]; clear hW; first | (go_simp; done) | ((repeat refine keepcell ((Below.refl _ _).alloc (Nat.le_refl _) _) ?_); go_simp; done) | (simp only [frozen?_alloc_cells]; go_simp; done)
        have : w.heap.size < W1.heap.size := World.block_lt_of_cell? W1 ⟨w.heap.size, 0, none⟩ (by assumption)
        have hBW1 : Below w.heap.size w W1 := by rw [← hW]; (repeat' (first | assumption | exact Below.refl _ _ | apply Blw.alloc | apply Blw.drew | apply Blw.drewN | (refine Blw.after ?_ (by assumption)) | (refine Blw.set ?_ (by first | (dsimp only; omega) | (simp; done) | (simp; omega)) _)))
        have hsW1 := hBW1.size
        clear hW
        try clear kW0_21; try clear zW0_21; try clear kW0_22; try clear zW0_22; try clear hbwA; try clear hkwA; try clear hlwA; try clear hbwB; try clear hkwB; try clear hlwB
        go_wp2_with (fail)
        refine (hP _).mono ?_
        rintro e wC ⟨rfl, hbwC⟩
        have hkwC : Hld W1 wC := heldM (by (repeat' (first | assumption | exact Below.refl _ _ | apply Blw.alloc | apply Blw.drew | apply Blw.drewN | (refine Blw.after ?_ (by assumption)) | (refine Blw.set ?_ (by first | (dsimp only; omega) | (simp; done) | (simp; omega)) _))))
        have hlwC := hkwC.1
        have hswC := hkwC.2.2.2
        try (have : w.heap.size < wC.heap.size := by omega)
        go_wp2_with (fail)
        refine (hin _).mono ?_
        rintro e wD ⟨rfl, hbwD⟩
        have hkwD : Hld W1 wD := heldM (by (repeat' (first | assumption | exact Below.refl _ _ | apply Blw.alloc | apply Blw.drew | apply Blw.drewN | (refine Blw.after ?_ (by assumption)) | (refine Blw.set ?_ (by first | (dsimp only; omega) | (simp; done) | (simp; omega)) _))))
        have hlwD := hkwD.1
        have hswD := hkwD.2.2.2
        try (have : w.heap.size < wD.heap.size := by omega)
        have z0 : ∀ o, (World.alloc wD o).frozen? ⟨w.heap.size, 0, none⟩ = false := fun o => keepfroz (w := W1) (by (repeat' (first | assumption | exact Below.refl _ _ | apply Blw.alloc | apply Blw.drew | apply Blw.drewN | (refine Blw.after ?_ (by assumption)) | (refine Blw.set ?_ (by first | (dsimp only; omega) | (simp; done) | (simp; omega)) _)))) (by assumption) (by assumption)
        have z1 : ∀ o, (World.alloc wD o).frozen? ⟨w.heap.size, 1, none⟩ = false := fun o => keepfroz (w := W1) (by (repeat' (first | assumption | exact Below.refl _ _ | apply Blw.alloc | apply Blw.drew | apply Blw.drewN | (refine Blw.after ?_ (by assumption)) | (refine Blw.set ?_ (by first | (dsimp only; omega) | (simp; done) | (simp; omega)) _)))) (by assumption) (by assumption)
        cases b2
        all_goals
          go_wp2_with fail
          exact bodyPost_ret (v := exW s) (by rw [HX.out]; simp [results, Tryd.results11, go_sem, *, res2, sel]) rfl ⟨rfl, by (repeat' (first | assumption | exact Below.refl _ _ | apply Blw.alloc | apply Blw.drew | apply Blw.drewN | (refine Blw.after ?_ (by assumption)) | (refine Blw.set ?_ (by first | (dsimp only; omega) | (simp; done) | (simp; omega)) _)))⟩
    · have HX := Lib.hid (exW_no (s := s) (by unfold exB; simp [h30]))
      generalize hdS s = a at *
      generalize tlS s = T at *
      go_enter Tryd.func11, Tryd.ntmps11
      go_wp2_with fail
      generalize hW : World.alloc _ _ = W0
      have kW0_25 : W0.cell? ⟨w.heap.size, 0, none⟩ = some (.int .i64 (0)) := by rw [← hW]; clear hW; first | (go_simp; done) | ((repeat refine keepcell ((Below.refl _ _).alloc (Nat.le_refl _) _) ?_); go_simp; done) | (simp only [frozen?_alloc_cells]; go_simp; done)
      have zW0_25 : W0.frozen? ⟨w.heap.size, 0, none⟩ = false := by rw [← hW]; clear hW; first | (go_simp; done) | ((repeat refine keepcell ((Below.refl _ _).alloc (Nat.le_refl _) _) ?_); go_simp; done) | (simp only [frozen?_alloc_cells]; go_simp; done)
      have kW0_26 : W0.cell? ⟨w.heap.size, 1, none⟩ = some (.int .i64 (0)) := by rw [← hW]; clear hW; first | (go_simp; done) | ((repeat refine keepcell ((Below.refl _ _).alloc (Nat.le_refl _) _) ?_); go_simp; done) | (simp only [frozen?_alloc_cells]; go_simp; done)
      have zW0_26 : W0.frozen? ⟨w.heap.size, 1, none⟩ = false := by rw [← hW]; clear hW; first | (go_simp; done) | ((repeat refine keepcell ((Below.refl _ _).alloc (Nat.le_refl _) _) ?_); go_simp; done) | (simp only [frozen?_alloc_cells]; go_simp; done)
      have : w.heap.size < W0.heap.size := World.block_lt_of_cell? W0 ⟨w.heap.size, 0, none⟩ (by assumption)
      have hBW0 : Below w.heap.size w W0 := by rw [← hW]; (repeat' (first | assumption | exact Below.refl _ _ | apply Blw.alloc | apply Blw.drew | apply Blw.drewN | (refine Blw.after ?_ (by assumption)) | (refine Blw.set ?_ (by first | (dsimp only; omega) | (simp; done) | (simp; omega)) _)))
      have hsW0 := hBW0.size
      clear hW
      go_wp2_with (first | (go_at_call 34; refine (hS _).mono ?_; rintro e w1 ⟨rfl, hb⟩; have hk : Hld W0 w1 := heldM (by (repeat' (first | assumption | exact Below.refl _ _ | apply Blw.alloc | apply Blw.drew | apply Blw.drewN | (refine Blw.after ?_ (by assumption)) | (refine Blw.set ?_ (by first | (dsimp only; omega) | (simp; done) | (simp; omega)) _)))); have hk1 := hk.1))
      exact bodyPost_ret (v := exW s) (by rw [HX.out]; simp [results, Tryd.results11, go_sem, *]) rfl ⟨rfl, by (repeat' (first | assumption | exact Below.refl _ _ | apply Blw.alloc | apply Blw.drew | apply Blw.drewN | (refine Blw.after ?_ (by assumption)) | (refine Blw.set ?_ (by first | (dsimp only; omega) | (simp; done) | (simp; omega)) _)))⟩
  · have HX := Lib.hid (exW_no (s := s) (by unfold exB; simp [hc]))
    obtain ⟨a, T, hV⟩ := cutI_fail hc
    have hS : ∀ w, Calls Tryd.prog 34 #[.string s] w fun e w' => e = .returned (.tuple #[.string a, .string T, .bool false]) ∧ Below w.heap.size w w' := fun w => by rw [← hV]; exact cutI_c s w hsz
    clear hV hc
    go_enter Tryd.func11, Tryd.ntmps11
    go_wp2_with fail
    generalize hW : World.alloc _ _ = W0
    have kW0_27 : W0.cell? ⟨w.heap.size, 0, none⟩ = some (.int .i64 (0)) := by rw [← hW]; clear hW; first | (go_simp; done) | ((repeat refine keepcell ((Below.refl _ _).alloc (Nat.le_refl _) _) ?_); go_simp; done) | (simp only [frozen?_alloc_cells]; go_simp; done)
    have zW0_27 : W0.frozen? ⟨w.heap.size, 0, none⟩ = false := by rw [← hW]; clear hW; first | (go_simp; done) | ((repeat refine keepcell ((Below.refl _ _).alloc (Nat.le_refl _) _) ?_); go_simp; done) | (simp only [frozen?_alloc_cells]; go_simp; done)
    have kW0_28 : W0.cell? ⟨w.heap.size, 1, none⟩ = some (.int .i64 (0)) := by rw [← hW]; clear hW; first | (go_simp; done) | ((repeat refine keepcell ((Below.refl _ _).alloc (Nat.le_refl _) _) ?_); go_simp; done) | (simp only [frozen?_alloc_cells]; go_simp; done)
    have zW0_28 : W0.frozen? ⟨w.heap.size, 1, none⟩ = false := by rw [← hW]; clear hW; first | (go_simp; done) | ((repeat refine keepcell ((Below.refl _ _).alloc (Nat.le_refl _) _) ?_); go_simp; done) | (simp only [frozen?_alloc_cells]; go_simp; done)
    have : w.heap.size < W0.heap.size := World.block_lt_of_cell? W0 ⟨w.heap.size, 0, none⟩ (by assumption)
    have hBW0 : Below w.heap.size w W0 := by rw [← hW]; (repeat' (first | assumption | exact Below.refl _ _ | apply Blw.alloc | apply Blw.drew | apply Blw.drewN | (refine Blw.after ?_ (by assumption)) | (refine Blw.set ?_ (by first | (dsimp only; omega) | (simp; done) | (simp; omega)) _)))
    have hsW0 := hBW0.size
    clear hW
    go_wp2_with (first | (go_at_call 34; refine (hS _).mono ?_; rintro e w1 ⟨rfl, hb⟩; have hk : Hld W0 w1 := heldM (by (repeat' (first | assumption | exact Below.refl _ _ | apply Blw.alloc | apply Blw.drew | apply Blw.drewN | (refine Blw.after ?_ (by assumption)) | (refine Blw.set ?_ (by first | (dsimp only; omega) | (simp; done) | (simp; omega)) _)))); have hk1 := hk.1))
    exact bodyPost_ret (v := exW s) (by rw [HX.out]; simp [results, Tryd.results11, go_sem, *]) rfl ⟨rfl, by (repeat' (first | assumption | exact Below.refl _ _ | apply Blw.alloc | apply Blw.drew | apply Blw.drewN | (refine Blw.after ?_ (by assumption)) | (refine Blw.set ?_ (by first | (dsimp only; omega) | (simp; done) | (simp; omega)) _)))⟩
end Go.Proofs.YtlcafjdinjdllabDoor

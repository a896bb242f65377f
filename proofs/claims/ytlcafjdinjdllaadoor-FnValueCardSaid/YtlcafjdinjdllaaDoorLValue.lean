/- FnValue: whatever the code draws, the value of both sides is the same, its expansion is the text, and it is odd where the last digit is 1. -/
import Derived.Test.YtlcafjdinjdllaaDoorDh
import Derived.Test.YtlcafjdinjdllaaDoorDe3
import Derived.Test.YtlcafjdinjdllaaDoorDc
import Derived.Test.YtlcafjdinjdllaaDoorDrawD
import Derived.Test.YtlcafjdinjdllaaDoorBaseP
import Derived.Test.YtlcafjdinjdllaaDoorTie
import Derived.Test.YtlcafjdinjdllaaDoorCards
import Derived.OpenShut
import Derived.LaidMore
import Derived.Lay
import Derived.SevenTiedAt
import Derived.Stop.Joined
import Derived.Stop.LaidErr
import Derived.ChangeVars
import Derived.ChangeStays
namespace Go.Proofs.YtlcafjdinjdllaaDoor
set_option linter.unusedSimpArgs false
set_option linter.unusedVariables false
open Go.ChangeShapes Go.WideShapes Go.ChangeAt Go.RowKit Go.Joins

theorem dgs_val : ∀ (l : List UInt8), (∀ c ∈ l, bitC c = true) → (l = [] ∨ l.head? = some 49) → dgs (valX l) (valY l) = l.reverse := by
  intro l
  induction l using rev_ind with
  | h0 => intro _ _; rw [valX_nil, valY_nil, dgs_zero]; rfl
  | h1 l c ih =>
    intro hb hh
    have hc := dg_bit (hb c (by simp))
    have hbl : ∀ c ∈ l, bitC c = true := fun c hc => hb c (by simp [hc])
    have hhl : l = [] ∨ l.head? = some 49 := by
      cases l with
      | nil => exact Or.inl rfl
      | cons a r => right; rcases hh with h | h; simp at h; simpa using h
    have h := ih hbl hhl
    have hd : dg c = 0 ∨ dg c = 1 := by omega
    have hz : ¬ (valX (l ++ [c]) = 0 ∧ valY (l ++ [c]) = 0) := by
      rintro ⟨z1, z2⟩
      rw [valX_snoc] at z1
      rw [valY_snoc] at z2
      have e0 : valX l = 0 := by omega
      have e1 : valY l = 0 := by omega
      have e2 : dg c = 0 := by omega
      rw [e0, e1, dgs_zero] at h
      have hl : l = [] := by simpa using h.symm
      subst hl
      rcases hh with h | h
      · simp at h
      · simp at h; subst h; exact absurd e2 (by decide)
    rw [dgs_step hz, valX_snoc, valY_snoc, lastD_of _ _ _ hd, nX_of _ _ _ hd, nY_of _ _ _ hd, h, bitc_dg (hb c (by simp)), List.reverse_append]
    rfl
theorem strip_vld {s : ByteArray} (hv : vldB s = true) : strip (toL s) = toL s := by
  obtain ⟨l1, l2, l3, l4⟩ := (vldL_iff (toL s)).1 hv
  rcases l3 with h | h
  · rw [h]; rfl
  · exact strip_keep (by rw [← List.head?_eq_getElem?]; exact h)
/-- the expansion of a value is the text -/
theorem ofV_val {s : ByteArray} (hv : vldB s = true) (hi : inB 1000000 (valX (toL s)) (valY (toL s)) = true) : ofV (valX (toL s)) (valY (toL s)) = .tuple #[.string s, .bool true] := by
  obtain ⟨l1, l2, l3, l4⟩ := (vldL_iff (toL s)).1 hv
  unfold ofV
  rw [hi, if_pos rfl]
  have hd : (dgs1 (valX (toL s)) (valY (toL s))).reverse = toL s := by
    by_cases hz : toL s = [48]
    · rw [hz]; decide
    · have hh : (toL s).head? = some 49 := by
        have h3 := l3.resolve_left hz
        cases hL : toL s with
        | nil => rw [hL] at l1; simp at l1
        | cons c r =>
          rw [hL] at h3
          have hc := l4 c (by rw [hL]; simp)
          rw [bitC_iff] at hc
          rcases hc with hc | hc
          · exfalso; apply h3; simp; exact UInt8.toNat_inj.1 (by rw [hc]; rfl)
          · simp; exact UInt8.toNat_inj.1 (by rw [hc]; rfl)
      have h := dgs_val (toL s) l4 (Or.inr hh)
      unfold dgs1
      rw [if_neg (by
        rintro ⟨z1, z2⟩
        rw [z1, z2, dgs_zero] at h
        have : toL s = [] := by simpa using h.symm
        rw [this] at hh; simp at hh), h, List.reverse_reverse]
  rw [hd]
  exact resD_t (strip_vld hv) hv
theorem tmod2b (n : Int) : (n.tmod 2 != 0) = decide (n % 2 = 1) := by
  by_cases h : n % 2 = 0
  · rw [Int.tmod_eq_zero_of_dvd (Int.dvd_of_emod_eq_zero h), decide_eq_false (by omega)]; rfl
  · have : n.tmod 2 ≠ 0 := fun e => h (Int.emod_eq_zero_of_dvd (Int.dvd_of_tmod_eq_zero e))
    rw [decide_eq_true (by omega)]; simpa using this
/-- a value is odd where the last digit is 1 -/
theorem odd_last {s : ByteArray} (hv : vldB s = true) (h : s.size - 1 < s.size) : ((valX (toL s) + valY (toL s)).tmod 2 != 0) = ((s[s.size - 1].toNat : Int) == 49) := by
  obtain ⟨l1, l2⟩ := vldB_len hv
  have h2 := vldB_at hv (s.size - 1) h
  have e : toL s = (toL s).take (s.size - 1) ++ [s[s.size - 1]] := by
    rw [← take_snocB s (s.size - 1) h, show s.size - 1 + 1 = s.size by omega, take_allB s s.size (Nat.le_refl _)]
  rw [tmod2b]
  have hx : valX (toL s) + valY (toL s) = -2 * valY ((toL s).take (s.size - 1)) + dg s[s.size - 1] := by
    conv => lhs; rw [e]
    rw [valX_snoc, valY_snoc]; omega
  rw [hx]
  unfold dg
  rcases h2 with h2 | h2
  · rw [h2, decide_eq_false (by omega)]; rfl
  · rw [h2, decide_eq_true (by omega)]; rfl

theorem drawValue_c (v : Value) (w : World) (h : Code v w) : Calls Tryd.prog 20 #[v] w (OneText w) := by
  go_enter Tryd.func20, Tryd.ntmps20
  go_wp2_with fail
  refine (l6Open_c v w h).mono ?_
  rintro e W1 ⟨sv, rfl, hr, hs, hz, hb⟩
  go_wp2_with fail
  refine (pick_d w.heap.size sv 0 8 W1 hs hr ⟨by omega, by omega⟩ ⟨by omega, by omega⟩).mono ?_
  rintro e W2 ⟨v, p1, ⟨k, rfl, k0, k1⟩, rfl, q0, q1, h1, hs1, m1⟩
  have hk : k = 0 ∨ k = 1 ∨ k = 2 ∨ k = 3 ∨ k = 4 ∨ k = 5 ∨ k = 6 ∨ k = 7 := by omega
  rcases hk with rfl | rfl | rfl | rfl | rfl | rfl | rfl | rfl
  all_goals
    go_wp2_with fail
    refine (l91Digits_c w.heap.size sv p1 _ W2 hs1 h1 ⟨by omega, by omega⟩ (by decide)).mono ?_
    rintro e W3 ⟨v', p', ⟨t, rfl, ht⟩, rfl, -, -, -, -, m⟩
    have hB2 : Below w.heap.size w W3 := (m1.trans m).2.2.2 w hb (Nat.le_refl _)
    go_wp2_with fail
    go_ret
    exact ⟨t, rfl, ht, hB2⟩

set_option maxHeartbeats 4000000 in
set_option maxRecDepth 10000 in
theorem lawValue_c (a : Option Addr) (len cap : Nat) (w : World) (hc : len ≤ 1048576 → Code (.slice a len cap) w) : Calls Tryd.prog 5 #[.slice a len cap] w fun e w' => e = .returned (.bool true) ∧ Below w.heap.size w w' := by
  by_cases hl : 1048576 < len
  · go_enter Tryd.func5, Tryd.ntmps5
    go_wp2_with fail
    go_ret
    exact ⟨rfl, by (repeat' (first | assumption | exact Below.refl _ _ | apply Blw.alloc | apply Blw.drew | apply Blw.drewN | (refine Blw.after ?_ (by assumption)) | (refine Blw.set ?_ (by first | (dsimp only; omega) | (simp; done) | (simp; omega)) _)))⟩
  · have hc' := hc (by omega)
    clear hc
    go_enter Tryd.func5, Tryd.ntmps5
    go_wp2_with fail
    refine (drawValue_c _ w hc').mono ?_
    rintro e W1 ⟨t, rfl, ht, hb1⟩
    clear hc'
    rcases Bool.eq_false_or_eq_true (valB t) with hV | hV
    · have hvi : vldB t = true ∧ inB 1000000 (valX (toL t)) (valY (toL t)) = true := by simpa [valB] using hV
      obtain ⟨hv, hi⟩ := hvi
      obtain ⟨l1, l50⟩ := vldB_len hv
      have hlt : t.size - 1 < t.size := by omega
      have e1 : ((t.size : Int) - 1).toNat = t.size - 1 := by omega
      have hO := odd_last hv hlt
      have hval : valV t = .tuple #[pr (valX (toL t)) (valY (toL t)), .bool true] := by unfold valV; rw [hV]; rfl
      have hof := ofV_val hv hi
      obtain ⟨x1, x2, y1, y2⟩ := inB_le hi
      generalize valX (toL t) = x at *
      generalize valY (toL t) = y at *
      have C1 : ∀ w, Calls Tryd.prog 19 #[.string t] w fun e w' => e = .returned (.tuple #[pr x y, .bool true]) ∧ Below w.heap.size w w' := fun w => by
        have h := iDigitsValue_c t w; rwa [hval] at h
      have C2 : ∀ w, Calls Tryd.prog 21 #[.string t] w fun e w' => e = .returned (.tuple #[pr x y, .bool true]) ∧ Below w.heap.size w w' := fun w => by
        have h := sDigitsValue_c t w; rwa [hval] at h
      have C3 : ∀ w, Calls Tryd.prog 17 #[pr x y] w fun e w' => e = .returned (.tuple #[.string t, .bool true]) ∧ Below w.heap.size w w' := fun w => by
        have h := iDigitsOf_c x y w; rwa [hof] at h
      clear hV hv hi hval hof
      go_wp2_with fail
      go_wp2_with (fail)
      refine (C1 _).mono ?_
      rintro e wA ⟨rfl, hbwA⟩
      have hkwA : Hld W1 wA := heldM (by (repeat' (first | assumption | exact Below.refl _ _ | apply Blw.alloc | apply Blw.drew | apply Blw.drewN | (refine Blw.after ?_ (by assumption)) | (refine Blw.set ?_ (by first | (dsimp only; omega) | (simp; done) | (simp; omega)) _))))
      have hlwA := hkwA.1
      have hswA := hkwA.2.2.2
      try (have : W1.heap.size < wA.heap.size := by omega)
      try (have : wC.heap.size < wA.heap.size := by omega)
      go_wp2_with fail
      generalize hW : World.alloc _ _ = W2
      have kW2_37 : W2.cell? ⟨wA.heap.size, 0, none⟩ = some (.int .i64 (x)) := by rw [← hW]; clear hW; first | (go_simp; done) | ((repeat refine keepcell ((Below.refl _ _).alloc (Nat.le_refl _) _) ?_); go_simp; done) | (simp only [frozen?_alloc_cells]; go_simp; done)
      have kW2_38 : W2.cell? ⟨wA.heap.size, 1, none⟩ = some (.int .i64 (y)) := by rw [← hW]; clear hW; first | (go_simp; done) | ((repeat refine keepcell ((Below.refl _ _).alloc (Nat.le_refl _) _) ?_); go_simp; done) | (simp only [frozen?_alloc_cells]; go_simp; done)
      have : wA.heap.size < W2.heap.size := World.block_lt_of_cell? W2 ⟨wA.heap.size, 0, none⟩ (by assumption)
      have hBW2 : Below w.heap.size w W2 := by rw [← hW]; (repeat' (first | assumption | exact Below.refl _ _ | apply Blw.alloc | apply Blw.drew | apply Blw.drewN | (refine Blw.after ?_ (by assumption)) | (refine Blw.set ?_ (by first | (dsimp only; omega) | (simp; done) | (simp; omega)) _)))
      have hsW2 := hBW2.size
      clear hW
      try clear kW2_33; try clear kW2_34; try clear kW2_35; try clear kW2_36; try clear hbwA; try clear hkwA; try clear hlwA
      go_wp2_with (fail)
      refine (C2 _).mono ?_
      rintro e wB ⟨rfl, hbwB⟩
      have hkwB : Hld W2 wB := heldM (by (repeat' (first | assumption | exact Below.refl _ _ | apply Blw.alloc | apply Blw.drew | apply Blw.drewN | (refine Blw.after ?_ (by assumption)) | (refine Blw.set ?_ (by first | (dsimp only; omega) | (simp; done) | (simp; omega)) _))))
      have hlwB := hkwB.1
      have hswB := hkwB.2.2.2
      try (have : wA.heap.size < wB.heap.size := by omega)
      go_wp2_with fail
      generalize hW : World.alloc _ _ = W3
      have kW3_39 : W3.cell? ⟨wA.heap.size, 0, none⟩ = some (.int .i64 (x)) := by rw [← hW]; clear hW; first | (go_simp; done) | ((repeat refine keepcell ((Below.refl _ _).alloc (Nat.le_refl _) _) ?_); go_simp; done) | (simp only [frozen?_alloc_cells]; go_simp; done)
      have kW3_40 : W3.cell? ⟨wA.heap.size, 1, none⟩ = some (.int .i64 (y)) := by rw [← hW]; clear hW; first | (go_simp; done) | ((repeat refine keepcell ((Below.refl _ _).alloc (Nat.le_refl _) _) ?_); go_simp; done) | (simp only [frozen?_alloc_cells]; go_simp; done)
      have : wA.heap.size < W3.heap.size := World.block_lt_of_cell? W3 ⟨wA.heap.size, 0, none⟩ (by assumption)
      have kW3_41 : W3.cell? ⟨wB.heap.size, 0, none⟩ = some (.int .i64 (x)) := by rw [← hW]; clear hW; first | (go_simp; done) | ((repeat refine keepcell ((Below.refl _ _).alloc (Nat.le_refl _) _) ?_); go_simp; done) | (simp only [frozen?_alloc_cells]; go_simp; done)
      have kW3_42 : W3.cell? ⟨wB.heap.size, 1, none⟩ = some (.int .i64 (y)) := by rw [← hW]; clear hW; first | (go_simp; done) | ((repeat refine keepcell ((Below.refl _ _).alloc (Nat.le_refl _) _) ?_); go_simp; done) | (simp only [frozen?_alloc_cells]; go_simp; done)
      have : wB.heap.size < W3.heap.size := World.block_lt_of_cell? W3 ⟨wB.heap.size, 0, none⟩ (by assumption)
      have hBW3 : Below w.heap.size w W3 := by rw [← hW]; (repeat' (first | assumption | exact Below.refl _ _ | apply Blw.alloc | apply Blw.drew | apply Blw.drewN | (refine Blw.after ?_ (by assumption)) | (refine Blw.set ?_ (by first | (dsimp only; omega) | (simp; done) | (simp; omega)) _)))
      have hsW3 := hBW3.size
      clear hW
      try clear kW2_37; try clear kW2_38; try clear hbwB; try clear hkwB; try clear hlwB
      go_wp2_with (fail)
      refine (C3 _).mono ?_
      rintro e wC ⟨rfl, hbwC⟩
      have hkwC : Hld W3 wC := heldM (by (repeat' (first | assumption | exact Below.refl _ _ | apply Blw.alloc | apply Blw.drew | apply Blw.drewN | (refine Blw.after ?_ (by assumption)) | (refine Blw.set ?_ (by first | (dsimp only; omega) | (simp; done) | (simp; omega)) _))))
      have hlwC := hkwC.1
      have hswC := hkwC.2.2.2
      try (have : wA.heap.size < wC.heap.size := by omega)
      try (have : wB.heap.size < wC.heap.size := by omega)
      rcases Bool.eq_false_or_eq_true ((t[t.size - 1].toNat : Int) == 49) with a2 | a2
      all_goals
        rw [a2] at hO
        go_wp2_with fail
        go_ret
        exact ⟨rfl, by (repeat' (first | assumption | exact Below.refl _ _ | apply Blw.alloc | apply Blw.drew | apply Blw.drewN | (refine Blw.after ?_ (by assumption)) | (refine Blw.set ?_ (by first | (dsimp only; omega) | (simp; done) | (simp; omega)) _)))⟩
    · have hval : valV t = .tuple #[pr 0 0, .bool false] := by unfold valV; rw [hV]; rfl
      have C1 : ∀ w, Calls Tryd.prog 19 #[.string t] w fun e w' => e = .returned (.tuple #[pr 0 0, .bool false]) ∧ Below w.heap.size w w' := fun w => by
        have h := iDigitsValue_c t w; rwa [hval] at h
      have C2 : ∀ w, Calls Tryd.prog 21 #[.string t] w fun e w' => e = .returned (.tuple #[pr 0 0, .bool false]) ∧ Below w.heap.size w w' := fun w => by
        have h := sDigitsValue_c t w; rwa [hval] at h
      clear hV hval
      go_wp2_with fail
      go_wp2_with (fail)
      refine (C1 _).mono ?_
      rintro e wA ⟨rfl, hbwA⟩
      have hkwA : Hld W1 wA := heldM (by (repeat' (first | assumption | exact Below.refl _ _ | apply Blw.alloc | apply Blw.drew | apply Blw.drewN | (refine Blw.after ?_ (by assumption)) | (refine Blw.set ?_ (by first | (dsimp only; omega) | (simp; done) | (simp; omega)) _))))
      have hlwA := hkwA.1
      have hswA := hkwA.2.2.2
      try (have : wB.heap.size < wA.heap.size := by omega)
      go_wp2_with fail
      generalize hW : World.alloc _ _ = W2
      have kW2_43 : W2.cell? ⟨wA.heap.size, 0, none⟩ = some (.int .i64 (0)) := by rw [← hW]; clear hW; first | (go_simp; done) | ((repeat refine keepcell ((Below.refl _ _).alloc (Nat.le_refl _) _) ?_); go_simp; done) | (simp only [frozen?_alloc_cells]; go_simp; done)
      have kW2_44 : W2.cell? ⟨wA.heap.size, 1, none⟩ = some (.int .i64 (0)) := by rw [← hW]; clear hW; first | (go_simp; done) | ((repeat refine keepcell ((Below.refl _ _).alloc (Nat.le_refl _) _) ?_); go_simp; done) | (simp only [frozen?_alloc_cells]; go_simp; done)
      have : wA.heap.size < W2.heap.size := World.block_lt_of_cell? W2 ⟨wA.heap.size, 0, none⟩ (by assumption)
      have hBW2 : Below w.heap.size w W2 := by rw [← hW]; (repeat' (first | assumption | exact Below.refl _ _ | apply Blw.alloc | apply Blw.drew | apply Blw.drewN | (refine Blw.after ?_ (by assumption)) | (refine Blw.set ?_ (by first | (dsimp only; omega) | (simp; done) | (simp; omega)) _)))
      have hsW2 := hBW2.size
      clear hW
      try clear kW3_39; try clear kW3_40; try clear kW3_41; try clear kW3_42; try clear hbwC; try clear hkwC; try clear hlwC; try clear hbwA; try clear hkwA; try clear hlwA
      go_wp2_with (fail)
      refine (C2 _).mono ?_
      rintro e wB ⟨rfl, hbwB⟩
      have hkwB : Hld W2 wB := heldM (by (repeat' (first | assumption | exact Below.refl _ _ | apply Blw.alloc | apply Blw.drew | apply Blw.drewN | (refine Blw.after ?_ (by assumption)) | (refine Blw.set ?_ (by first | (dsimp only; omega) | (simp; done) | (simp; omega)) _))))
      have hlwB := hkwB.1
      have hswB := hkwB.2.2.2
      try (have : wA.heap.size < wB.heap.size := by omega)
      go_wp2_with fail
      generalize hW : World.alloc _ _ = W3
      have kW3_45 : W3.cell? ⟨wA.heap.size, 0, none⟩ = some (.int .i64 (0)) := by rw [← hW]; clear hW; first | (go_simp; done) | ((repeat refine keepcell ((Below.refl _ _).alloc (Nat.le_refl _) _) ?_); go_simp; done) | (simp only [frozen?_alloc_cells]; go_simp; done)
      have kW3_46 : W3.cell? ⟨wA.heap.size, 1, none⟩ = some (.int .i64 (0)) := by rw [← hW]; clear hW; first | (go_simp; done) | ((repeat refine keepcell ((Below.refl _ _).alloc (Nat.le_refl _) _) ?_); go_simp; done) | (simp only [frozen?_alloc_cells]; go_simp; done)
      have : wA.heap.size < W3.heap.size := World.block_lt_of_cell? W3 ⟨wA.heap.size, 0, none⟩ (by assumption)
      have kW3_47 : W3.cell? ⟨wB.heap.size, 0, none⟩ = some (.int .i64 (0)) := by rw [← hW]; clear hW; first | (go_simp; done) | ((repeat refine keepcell ((Below.refl _ _).alloc (Nat.le_refl _) _) ?_); go_simp; done) | (simp only [frozen?_alloc_cells]; go_simp; done)
      have kW3_48 : W3.cell? ⟨wB.heap.size, 1, none⟩ = some (.int .i64 (0)) := by rw [← hW]; clear hW; first | (go_simp; done) | ((repeat refine keepcell ((Below.refl _ _).alloc (Nat.le_refl _) _) ?_); go_simp; done) | (simp only [frozen?_alloc_cells]; go_simp; done)
      have : wB.heap.size < W3.heap.size := World.block_lt_of_cell? W3 ⟨wB.heap.size, 0, none⟩ (by assumption)
      have hBW3 : Below w.heap.size w W3 := by rw [← hW]; (repeat' (first | assumption | exact Below.refl _ _ | apply Blw.alloc | apply Blw.drew | apply Blw.drewN | (refine Blw.after ?_ (by assumption)) | (refine Blw.set ?_ (by first | (dsimp only; omega) | (simp; done) | (simp; omega)) _)))
      have hsW3 := hBW3.size
      clear hW
      try clear kW2_43; try clear kW2_44; try clear hbwB; try clear hkwB; try clear hlwB
      go_wp2_with fail
      go_ret
      exact ⟨rfl, by (repeat' (first | assumption | exact Below.refl _ _ | apply Blw.alloc | apply Blw.drew | apply Blw.drewN | (refine Blw.after ?_ (by assumption)) | (refine Blw.set ?_ (by first | (dsimp only; omega) | (simp; done) | (simp; omega)) _)))⟩

namespace lawFnValue
set_option maxRecDepth 100000 in
theorem lifted (os : Os) (started : os.Started) (H : Type) (enc : TypeId × Value → H) :
    ReturnsInHanded {} Tryd.checked os 5 .any (fun w args => (Rows.fnValueSpec.pre enc Tryd.prog Tryd.f5 Rows.fnValueRow.domain false w args ∧ laidMetH Tryd.prog Rows.fnValueRow.laid w) ∧ sizedMet enc Tryd.prog Tryd.f5 (OpenSpec.ofChange Rows.fnValueSpec) false w args)
      (Rows.fnValueSpec.post enc Tryd.prog Tryd.f5 false true false false) := by
  refine returnsInHanded_of_change_and (C := Tryd.checked) (X := fun w _ => laidMetH Tryd.prog Rows.fnValueRow.laid w) (fun _ _ _ hh h => h.of_heap hh) own started (by kernel_rfl) Tryd.func5
    (ChangeSpec.witness_shaped (enc := enc) (C := Tryd.checked) (os := os) (X := fun w _ => laidMetH Tryd.prog Rows.fnValueRow.laid w) false (World.laidAll Tryd.prog os Rows.fnValueRow.laid) #[.slice none 0 0] 8 (World.laidAll_os _ _ _)
      (World.shaped_of_ZipB (by kernel_rfl) (by kernel_rfl)) (by kernel_rfl) (by kernel_rfl) (by kernel_rfl)
      (by rw [MakeChecks.laidMetH_plain _ _ _ (by kernel_rfl)]; exact laidMet_laidAll _ (by kernel_rfl) (by kernel_rfl))) ?_
  intro W base args ds gs before hval0 hW hc0 _ hL _
  have hval : ∀ (j : Nat) t v, Tryd.f5.params[j]? = some t → args[j]? = some v → Value.okWide Tryd.prog W .any base t v := hval0
  have hW' := hW
  obtain ⟨p, q, hA0, hV, rfl, _, _⟩ := hW
  have hA : DataW.TrodAll enc Tryd.prog W 0 (fun _ => true) true Tryd.f5.params.toList args.toList ds p := hA0
  rw [Tryd.params5] at hA hval
  obtain ⟨v0, vs0, d0, ds0, p0, q0, hargs, rfl, rfl, h0, r0⟩ := trodAll_cons hA
  obtain ⟨rfl, rfl, rfl⟩ := trodAll_nil r0
  obtain rfl : args = #[v0] := by cases args; simp_all
  obtain ⟨rfl, rfl⟩ := trodVars_none hV
  obtain ⟨a, len, cap, rfl⟩ := okWide_slice Tryd.underlying22 (hval 0 22 v0 rfl rfl)
  clear hA0 hval0
  simp only [List.append_nil] at hW'
  have hlt : ∀ x ∈ p0, x.block < W.heap.size := fun x hx => by simpa using hW'.lt x hx
  refine (lawValue_c a len cap W (code_of h0)).mono fun e W' ⟨he, hg⟩ => ?_
  subst he
  have harg := Below.trod laidOut (by kernel_rfl) (of_decide_eq_true (by kernel_rfl)) h0 hg hlt
  refine ⟨_, rfl, _, _, _, [], p0, [], hW', ?_, ?_, ?_, hg.frame _, fun h => by cases h⟩
  · exact trodAll_cons_mk (shut_bool Tryd.underlying4 _) trodAll_mk0
  · exact trodAll_mk1 harg
  · rfl

theorem holds : Rows.FnValueSaid :=
  OpenClaim.holds_of_wide 5 Tryd.f5 rfl rfl rfl rfl rfl rfl rfl ⟨rfl, rfl, rfl, rfl, rfl⟩ rfl rfl rfl rfl rfl (by kernel_rfl) Tryd.func5 (by kernel_rfl)
    (of_decide_eq_true (by kernel_rfl)) (by unfold Func.isWrapper; first | (rw [if_pos (by decide +kernel)]; kernel_rfl) | (rw [if_neg (by decide +kernel)]; exact ⟨rfl, rfl⟩))
    (fun os started H enc _ => lifted os started H enc)
theorem proved : Rows.FnValueCardSaid :=
  Claim7.holds_tied_plain_at .later [] [.data, .pinned] true (true, "ae5a7e1e5273026bef1a235bdfcbe898f8817563e717396bf1d72361ce9333b6") false holds (fun _ h => by cases h) (by kernel_rfl) (fun _ h => by cases h) fnValue_row_tie rfl ⟨rfl, rfl⟩ (by kernel_rfl) rfl
    (fun f fn hf hfn => by
      obtain rfl : f = 5 := Option.some.inj ((show Tryd.prog.funcNamed "loop.example/dragonnumbers/laws.FnValue" = some 5 by kernel_rfl).symm.trans hf) |>.symm
      obtain rfl : fn = Tryd.f5 := (Option.some.inj (Tryd.func5.symm.trans hfn)).symm
      exact ⟨by kernel_rfl, fun j t ht => by
        rw [Tryd.params5] at ht
        have hm : t ∈ [22] := by simpa using Array.mem_of_getElem? ht
        have hall : ([22].all fun u => !Tryd.prog.wantsStandIn u) = true := by kernel_rfl
        exact (show Tryd.prog.wantsStandIn t = false by simpa using List.all_eq_true.1 hall t hm)⟩)
    (by kernel_rfl)
end lawFnValue
end Go.Proofs.YtlcafjdinjdllaaDoor

/- Chapter 3: points, of both sides, in both widths. -/
import Derived.Test.YtlcafjdinjdllabPx0
import Derived.Test.YtlcafjdinjdllabCutW
import Derived.Test.YtlcafjdinjdllabDc
namespace Go.Proofs.Ytlcafjdinjdllab
set_option linter.unusedSimpArgs false
set_option linter.unusedVariables false
open Go.RowKit

set_option maxHeartbeats 2000000 in
theorem sPointSingle_c (s : ByteArray) (w : World) (hsz : s.size ≤ 2000000) : Calls Try.prog 25 #[.string s] w fun e w' => e = .returned (ptV .f32 s) ∧ Below w.heap.size w w' := by
  rcases Bool.eq_false_or_eq_true (cutB s) with hc | hc
  · have HC := Lib.hid (cutS_yes hc)
    obtain ⟨-, c1, c2, c3⟩ := cutB_facts hc
    have hS : ∀ w, Calls Try.prog 38 #[.string s] w fun e w' => e = .returned (.tuple #[.string (hdS s), .string (tlS s), .bool true]) ∧ Below w.heap.size w w' := fun w => by rw [← HC.out]; exact l3Cut_c s w hsz
    clear HC
    rcases Bool.eq_false_or_eq_true (inB 1000000 (valX (toL (hdS s))) (valY (toL (hdS s)))) with hi | hi
    · have H := Lib.hid (ptV_yes (k := .f32) hc hi)
      have HV := Lib.hid (show valV (hdS s) = .tuple #[pr (valX (toL (hdS s))) (valY (toL (hdS s))), .bool true] by rw [valV_yes c2, hi]; rfl)
      have hD : ∀ w, Calls Try.prog 32 #[.string (hdS s)] w fun e w' => e = .returned (.tuple #[pr (valX (toL (hdS s))) (valY (toL (hdS s))), .bool true]) ∧ Below w.heap.size w w' := fun w => by rw [← HV.out]; exact sDigitsValue_c _ w
      obtain ⟨x1, x2, y1, y2⟩ := inB_le hi
      have HB := Lib.hid (onlyB_bits c1)
      clear HV hc hi c1 c2
      generalize valX (toL (hdS s)) = X at *
      generalize valY (toL (hdS s)) = Y at *
      generalize hdS s = a at *
      generalize tlS s = T at *
      go_enter Try.func25, Try.ntmps25
      go_wp2_with (first | (go_at_call 38; refine (hS _).mono ?_; rintro e w1 ⟨rfl, hb⟩; obtain ⟨hc, hf⟩ := bcell hb; have hz := bsize hb; have hs := hb.size; try simp at hs) | (go_at_call 32; refine (hD _).mono ?_; rintro e w1 ⟨rfl, hb⟩; obtain ⟨hc, hf⟩ := bcell hb; have hz := bsize hb; have hs := hb.size; try simp at hs))
      generalize hW : World.alloc _ _ = W0
      have kW0_21 : W0.cell? ⟨w1.heap.size, 0, none⟩ = some (.int .i64 (X)) := by rw [← hW]; clear hW; first | (go_simp; done) | ((repeat refine keepcell ((Below.refl _ _).alloc (Nat.le_refl _) _) ?_); go_simp; done) | (simp only [frozen?_alloc_cells]; go_simp; done)
      have kW0_22 : W0.cell? ⟨w1.heap.size, 1, none⟩ = some (.int .i64 (Y)) := by rw [← hW]; clear hW; first | (go_simp; done) | ((repeat refine keepcell ((Below.refl _ _).alloc (Nat.le_refl _) _) ?_); go_simp; done) | (simp only [frozen?_alloc_cells]; go_simp; done)
      have : w1.heap.size < W0.heap.size := World.block_lt_of_cell? W0 ⟨w1.heap.size, 0, none⟩ (by assumption)
      have hBW0 : Below w.heap.size w W0 := by rw [← hW]; (repeat' (first | assumption | exact Below.refl _ _ | apply Blw.alloc | apply Blw.drew | apply Blw.drewN | (refine Blw.after ?_ (by assumption)) | (refine Blw.set ?_ (by first | (dsimp only; omega) | (simp; done) | (simp; omega)) _)))
      have hsW0 := hBW0.size
      clear hW
      go_loopg [9, 10] T.size (fun m z i wr => PtRel .f32 T W0 m z i wr)
      case atStart => exact ⟨Nat.le_refl _, by go_num, rfl, by rw [drop_end]; rfl⟩
      case round =>
        obtain ⟨hm, rfl, rfl, rfl⟩ := hrel
        cases gk with
        | zero =>
          obtain ⟨f1, f2, -⟩ := last_ops .f32 c3 ⟨x1, x2⟩ ⟨y1, y2⟩
          have f3 := sum_c (t := 28) (.inl rfl) f1 f2
          clear f1 f2
          rw [List.drop_zero, show ((0 : Nat) : Int) - 1 = -1 by rfl]
          go_wp2
          go_ret2
          exact ⟨by rw [H.out]; rfl, by (repeat' (first | assumption | exact Below.refl _ _ | apply Blw.alloc | apply Blw.drew | apply Blw.drewN | (refine Blw.after ?_ (by assumption)) | (refine Blw.set ?_ (by first | (dsimp only; omega) | (simp; done) | (simp; omega)) _)))⟩
        | succ i =>
          obtain ⟨r, j, f1, f2, f3⟩ := place_ops .f32 HB.out c3 (i := i) (by omega)
          have f4 := sum_c (t := 28) (.inl rfl) f1 f2
          obtain ⟨b1, b2⟩ := byte_atB HB.out i (by omega)
          clear f1 f2
          rw [show ((i + 1 : Nat) : Int) - 1 = (i : Int) by omega]
          have hlt : i < T.size := by omega
          go_wp2_with (go_at_call 48; refine (sSingle_c _ f3).mono ?_; rintro e w1 ⟨rfl, rfl⟩)
          go_roundg i
          case measure => omega
          case rel => exact ⟨by omega, by go_num, rfl, rfl⟩
    · have H := Lib.hid (ptV_no (k := .f32) (s := s) (.inr hi))
      have HV := Lib.hid (show valV (hdS s) = .tuple #[pr 0 0, .bool false] by rw [valV_yes c2, hi]; rfl)
      have hD : ∀ w, Calls Try.prog 32 #[.string (hdS s)] w fun e w' => e = .returned (.tuple #[pr 0 0, .bool false]) ∧ Below w.heap.size w w' := fun w => by rw [← HV.out]; exact sDigitsValue_c _ w
      go_enter Try.func25, Try.ntmps25
      go_wp2_with (first | (go_at_call 38; refine (hS _).mono ?_; rintro e w1 ⟨rfl, hb⟩; obtain ⟨hc, hf⟩ := bcell hb; have hz := bsize hb; have hs := hb.size; try simp at hs) | (go_at_call 32; refine (hD _).mono ?_; rintro e w1 ⟨rfl, hb⟩; obtain ⟨hc, hf⟩ := bcell hb; have hz := bsize hb; have hs := hb.size; try simp at hs))
      go_ret2
      exact ⟨by rw [H.out]; rfl, by (repeat' (first | assumption | exact Below.refl _ _ | apply Blw.alloc | apply Blw.drew | apply Blw.drewN | (refine Blw.after ?_ (by assumption)) | (refine Blw.set ?_ (by first | (dsimp only; omega) | (simp; done) | (simp; omega)) _)))⟩
  · have H := Lib.hid (ptV_no (k := .f32) (s := s) (.inl hc))
    go_enter Try.func25, Try.ntmps25
    go_wp2_with (go_at_call 38; refine (l3Cut_c _ _ hsz).mono ?_; rintro e w1 ⟨rfl, hb⟩; obtain ⟨hc, hf⟩ := bcell hb; have hz := bsize hb; have hs := hb.size; try simp at hs)
    go_ret2
    exact ⟨by rw [H.out]; rfl, by (repeat' (first | assumption | exact Below.refl _ _ | apply Blw.alloc | apply Blw.drew | apply Blw.drewN | (refine Blw.after ?_ (by assumption)) | (refine Blw.set ?_ (by first | (dsimp only; omega) | (simp; done) | (simp; omega)) _)))⟩
set_option maxHeartbeats 2000000 in
theorem sPointWide_c (s : ByteArray) (w : World) (hsz : s.size ≤ 2000000) : Calls Try.prog 21 #[.string s] w fun e w' => e = .returned (ptV .f64 s) ∧ Below w.heap.size w w' := by
  rcases Bool.eq_false_or_eq_true (cutB s) with hc | hc
  · have HC := Lib.hid (cutS_yes hc)
    obtain ⟨-, c1, c2, c3⟩ := cutB_facts hc
    have hS : ∀ w, Calls Try.prog 38 #[.string s] w fun e w' => e = .returned (.tuple #[.string (hdS s), .string (tlS s), .bool true]) ∧ Below w.heap.size w w' := fun w => by rw [← HC.out]; exact l3Cut_c s w hsz
    clear HC
    rcases Bool.eq_false_or_eq_true (inB 1000000 (valX (toL (hdS s))) (valY (toL (hdS s)))) with hi | hi
    · have H := Lib.hid (ptV_yes (k := .f64) hc hi)
      have HV := Lib.hid (show valV (hdS s) = .tuple #[pr (valX (toL (hdS s))) (valY (toL (hdS s))), .bool true] by rw [valV_yes c2, hi]; rfl)
      have hD : ∀ w, Calls Try.prog 32 #[.string (hdS s)] w fun e w' => e = .returned (.tuple #[pr (valX (toL (hdS s))) (valY (toL (hdS s))), .bool true]) ∧ Below w.heap.size w w' := fun w => by rw [← HV.out]; exact sDigitsValue_c _ w
      obtain ⟨x1, x2, y1, y2⟩ := inB_le hi
      have HB := Lib.hid (onlyB_bits c1)
      clear HV hc hi c1 c2
      generalize valX (toL (hdS s)) = X at *
      generalize valY (toL (hdS s)) = Y at *
      generalize hdS s = a at *
      generalize tlS s = T at *
      go_enter Try.func21, Try.ntmps21
      go_wp2_with (first | (go_at_call 38; refine (hS _).mono ?_; rintro e w1 ⟨rfl, hb⟩; obtain ⟨hc, hf⟩ := bcell hb; have hz := bsize hb; have hs := hb.size; try simp at hs) | (go_at_call 32; refine (hD _).mono ?_; rintro e w1 ⟨rfl, hb⟩; obtain ⟨hc, hf⟩ := bcell hb; have hz := bsize hb; have hs := hb.size; try simp at hs))
      generalize hW : World.alloc _ _ = W0
      have kW0_23 : W0.cell? ⟨w1.heap.size, 0, none⟩ = some (.int .i64 (X)) := by rw [← hW]; clear hW; first | (go_simp; done) | ((repeat refine keepcell ((Below.refl _ _).alloc (Nat.le_refl _) _) ?_); go_simp; done) | (simp only [frozen?_alloc_cells]; go_simp; done)
      have kW0_24 : W0.cell? ⟨w1.heap.size, 1, none⟩ = some (.int .i64 (Y)) := by rw [← hW]; clear hW; first | (go_simp; done) | ((repeat refine keepcell ((Below.refl _ _).alloc (Nat.le_refl _) _) ?_); go_simp; done) | (simp only [frozen?_alloc_cells]; go_simp; done)
      have : w1.heap.size < W0.heap.size := World.block_lt_of_cell? W0 ⟨w1.heap.size, 0, none⟩ (by assumption)
      have hBW0 : Below w.heap.size w W0 := by rw [← hW]; (repeat' (first | assumption | exact Below.refl _ _ | apply Blw.alloc | apply Blw.drew | apply Blw.drewN | (refine Blw.after ?_ (by assumption)) | (refine Blw.set ?_ (by first | (dsimp only; omega) | (simp; done) | (simp; omega)) _)))
      have hsW0 := hBW0.size
      clear hW
      go_loopg [9, 10] T.size (fun m z i wr => PtRel .f64 T W0 m z i wr)
      case atStart => exact ⟨Nat.le_refl _, by go_num, rfl, by rw [drop_end]; rfl⟩
      case round =>
        obtain ⟨hm, rfl, rfl, rfl⟩ := hrel
        cases gk with
        | zero =>
          obtain ⟨f1, f2, -⟩ := last_ops .f64 c3 ⟨x1, x2⟩ ⟨y1, y2⟩
          have f3 := sum_c (t := 25) (.inl rfl) f1 f2
          clear f1 f2
          rw [List.drop_zero, show ((0 : Nat) : Int) - 1 = -1 by rfl]
          go_wp2
          go_ret2
          exact ⟨by rw [H.out]; rfl, by (repeat' (first | assumption | exact Below.refl _ _ | apply Blw.alloc | apply Blw.drew | apply Blw.drewN | (refine Blw.after ?_ (by assumption)) | (refine Blw.set ?_ (by first | (dsimp only; omega) | (simp; done) | (simp; omega)) _)))⟩
        | succ i =>
          obtain ⟨r, j, f1, f2, f3⟩ := place_ops .f64 HB.out c3 (i := i) (by omega)
          have f4 := sum_c (t := 25) (.inl rfl) f1 f2
          obtain ⟨b1, b2⟩ := byte_atB HB.out i (by omega)
          clear f1 f2
          rw [show ((i + 1 : Nat) : Int) - 1 = (i : Int) by omega]
          have hlt : i < T.size := by omega
          go_wp2_with (go_at_call 46; refine (sWide_c _ f3).mono ?_; rintro e w1 ⟨rfl, rfl⟩)
          go_roundg i
          case measure => omega
          case rel => exact ⟨by omega, by go_num, rfl, rfl⟩
    · have H := Lib.hid (ptV_no (k := .f64) (s := s) (.inr hi))
      have HV := Lib.hid (show valV (hdS s) = .tuple #[pr 0 0, .bool false] by rw [valV_yes c2, hi]; rfl)
      have hD : ∀ w, Calls Try.prog 32 #[.string (hdS s)] w fun e w' => e = .returned (.tuple #[pr 0 0, .bool false]) ∧ Below w.heap.size w w' := fun w => by rw [← HV.out]; exact sDigitsValue_c _ w
      go_enter Try.func21, Try.ntmps21
      go_wp2_with (first | (go_at_call 38; refine (hS _).mono ?_; rintro e w1 ⟨rfl, hb⟩; obtain ⟨hc, hf⟩ := bcell hb; have hz := bsize hb; have hs := hb.size; try simp at hs) | (go_at_call 32; refine (hD _).mono ?_; rintro e w1 ⟨rfl, hb⟩; obtain ⟨hc, hf⟩ := bcell hb; have hz := bsize hb; have hs := hb.size; try simp at hs))
      go_ret2
      exact ⟨by rw [H.out]; rfl, by (repeat' (first | assumption | exact Below.refl _ _ | apply Blw.alloc | apply Blw.drew | apply Blw.drewN | (refine Blw.after ?_ (by assumption)) | (refine Blw.set ?_ (by first | (dsimp only; omega) | (simp; done) | (simp; omega)) _)))⟩
  · have H := Lib.hid (ptV_no (k := .f64) (s := s) (.inl hc))
    go_enter Try.func21, Try.ntmps21
    go_wp2_with (go_at_call 38; refine (l3Cut_c _ _ hsz).mono ?_; rintro e w1 ⟨rfl, hb⟩; obtain ⟨hc, hf⟩ := bcell hb; have hz := bsize hb; have hs := hb.size; try simp at hs)
    go_ret2
    exact ⟨by rw [H.out]; rfl, by (repeat' (first | assumption | exact Below.refl _ _ | apply Blw.alloc | apply Blw.drew | apply Blw.drewN | (refine Blw.after ?_ (by assumption)) | (refine Blw.set ?_ (by first | (dsimp only; omega) | (simp; done) | (simp; omega)) _)))⟩
end Go.Proofs.Ytlcafjdinjdllab

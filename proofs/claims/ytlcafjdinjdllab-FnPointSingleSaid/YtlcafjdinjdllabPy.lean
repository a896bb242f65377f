/- Chapter 3: points of the program, in both widths. -/
import Derived.Test.YtlcafjdinjdllabPx
import Derived.Test.YtlcafjdinjdllabPwd
namespace Go.Proofs.Ytlcafjdinjdllab
set_option linter.unusedSimpArgs false
set_option linter.unusedVariables false
open Go.RowKit

set_option maxHeartbeats 2000000 in
theorem pointOf32_c (s : ByteArray) (w : World) (hsz : s.size ≤ 2000000) : Calls Try.prog 40 #[.string s] w fun e w' => e = .returned (ptV .f32 s) ∧ Below w.heap.size w w' := by
  rcases Bool.eq_false_or_eq_true (cutB s) with hc | hc
  · have HC := Lib.hid (cutI_yes hc)
    obtain ⟨-, c1, c2, c3⟩ := cutB_facts hc
    have hS : ∀ w, Calls Try.prog 37 #[.string s] w fun e w' => e = .returned (.tuple #[.string (hdS s), .string (tlS s), .bool true]) ∧ Below w.heap.size w w' := fun w => by rw [← HC.out]; exact cutI_c s w hsz
    clear HC
    rcases Bool.eq_false_or_eq_true (inB 1000000 (valX (toL (hdS s))) (valY (toL (hdS s)))) with hi | hi
    · have H := Lib.hid (ptV_yes (k := .f32) hc hi)
      have HV := Lib.hid (show valV (hdS s) = .tuple #[pr (valX (toL (hdS s))) (valY (toL (hdS s))), .bool true] by rw [valV_yes c2, hi]; rfl)
      have hD : ∀ w, Calls Try.prog 33 #[.string (hdS s)] w fun e w' => e = .returned (.tuple #[pr (valX (toL (hdS s))) (valY (toL (hdS s))), .bool true]) ∧ Below w.heap.size w w' := fun w => by rw [← HV.out]; exact iDigitsValue_c _ w
      obtain ⟨x1, x2, y1, y2⟩ := inB_le hi
      have HB := Lib.hid (onlyB_bits c1)
      clear HV hc hi c1 c2
      generalize valX (toL (hdS s)) = X at *
      generalize valY (toL (hdS s)) = Y at *
      generalize hdS s = a at *
      generalize tlS s = T at *
      go_enter Try.func40, Try.ntmps40
      go_wp2_with (first | (go_at_call 37; refine (hS _).mono ?_; rintro e w1 ⟨rfl, hb⟩; obtain ⟨hc, hf⟩ := bcell hb; have hz := bsize hb; have hs := hb.size; try simp at hs) | (go_at_call 33; refine (hD _).mono ?_; rintro e w1 ⟨rfl, hb⟩; obtain ⟨hc, hf⟩ := bcell hb; have hz := bsize hb; have hs := hb.size; try simp at hs))
      generalize hW : World.alloc _ _ = W0
      have kW0_25 : W0.cell? ⟨w1.heap.size, 0, none⟩ = some (.int .i64 (X)) := by rw [← hW]; clear hW; first | (go_simp; done) | ((repeat refine keepcell ((Below.refl _ _).alloc (Nat.le_refl _) _) ?_); go_simp; done) | (simp only [frozen?_alloc_cells]; go_simp; done)
      have kW0_26 : W0.cell? ⟨w1.heap.size, 1, none⟩ = some (.int .i64 (Y)) := by rw [← hW]; clear hW; first | (go_simp; done) | ((repeat refine keepcell ((Below.refl _ _).alloc (Nat.le_refl _) _) ?_); go_simp; done) | (simp only [frozen?_alloc_cells]; go_simp; done)
      have : w1.heap.size < W0.heap.size := World.block_lt_of_cell? W0 ⟨w1.heap.size, 0, none⟩ (by assumption)
      have hBW0 : Below w.heap.size w W0 := by rw [← hW]; (repeat' (first | assumption | exact Below.refl _ _ | apply Blw.alloc | apply Blw.drew | apply Blw.drewN | (refine Blw.after ?_ (by assumption)) | (refine Blw.set ?_ (by first | (dsimp only; omega) | (simp; done) | (simp; omega)) _)))
      have hsW0 := hBW0.size
      clear hW
      go_loopg [8, 9] T.size (fun m z i wr => PtRelI .f32 T w w1.heap.size X Y m z i wr)
      case atStart => exact ⟨Nat.le_refl _, by go_num, hBW0, by assumption, by assumption, by rw [drop_end]; rfl⟩
      case round =>
        obtain ⟨hm, rfl, hBw, z0, z1, rfl⟩ := hrel
        have L1 : w1.heap.size < wr.heap.size := World.block_lt_of_cell? wr _ z0
        cases gk with
        | zero =>
          obtain ⟨f1, f2, -⟩ := last_ops .f32 c3 ⟨x1, x2⟩ ⟨y1, y2⟩
          have f3 := sum_c (t := 28) (.inl rfl) f1 f2
          have f4 := conv_c (k := .f64) (l := .f32) Try.underlying58 Try.underlying28 (int_down ⟨x1, x2⟩) (int_down ⟨y1, y2⟩)
          clear f1 f2
          rw [List.drop_zero, show ((0 : Nat) : Int) - 1 = -1 by rfl]
          go_wp2_with (first | (go_at_call 61; refine (gPair_c _ _ _).mono ?_; rintro e w1 ⟨rfl, hb⟩; have hk : Hld wr w1 := heldM (by (repeat' (first | assumption | exact Below.refl _ _ | apply Blw.alloc | apply Blw.drew | apply Blw.drewN | (refine Blw.after ?_ (by assumption)) | (refine Blw.set ?_ (by first | (dsimp only; omega) | (simp; done) | (simp; omega)) _)))); have hk1 := hk.1) | (go_at_call 60; refine (pwide_c _ _ _).mono ?_; rintro e w1 ⟨rfl, hb⟩; have hk : Hld wr w1 := heldM (by (repeat' (first | assumption | exact Below.refl _ _ | apply Blw.alloc | apply Blw.drew | apply Blw.drewN | (refine Blw.after ?_ (by assumption)) | (refine Blw.set ?_ (by first | (dsimp only; omega) | (simp; done) | (simp; omega)) _)))); have hk1 := hk.1))
          go_ret2
          exact ⟨by rw [H.out]; rfl, by (repeat' (first | assumption | exact Below.refl _ _ | apply Blw.alloc | apply Blw.drew | apply Blw.drewN | (refine Blw.after ?_ (by assumption)) | (refine Blw.set ?_ (by first | (dsimp only; omega) | (simp; done) | (simp; omega)) _)))⟩
        | succ i =>
          obtain ⟨r, j, f1, f2, f3⟩ := place_ops .f32 HB.out c3 (i := i) (by omega)
          rw [← show floatOfInt .f32 0 = 0 from zero_word .f32] at f2
          have f4 := sum_c (t := 28) (.inl rfl) f1 f2
          obtain ⟨b1, b2⟩ := byte_atB HB.out i (by omega)
          have f5 := conv_c (k := .f64) (l := .f32) Try.underlying58 Try.underlying28 (int_down (x := (T[i].toNat : Int) - 48) (by omega)) (int_down (x := 0) (by omega))
          clear f1 f2
          rw [show ((i + 1 : Nat) : Int) - 1 = (i : Int) by omega]
          have hlt : i < T.size := by omega
          go_wp2_with (first | (go_at_call 60; refine (pwide_c _ _ _).mono ?_; rintro e w1 ⟨rfl, hb⟩; obtain ⟨hc, hf⟩ := bcell hb; have hz := bsize hb; have hs := hb.size; try simp at hs) | (go_at_call 62; refine (iSingle_c _ f3).mono ?_; rintro e w1 ⟨rfl, rfl⟩))
          go_roundg i
          case measure => omega
          case rel => exact ⟨by omega, by go_num, by (repeat' (first | assumption | exact Below.refl _ _ | apply Blw.alloc | apply Blw.drew | apply Blw.drewN | (refine Blw.after ?_ (by assumption)) | (refine Blw.set ?_ (by first | (dsimp only; omega) | (simp; done) | (simp; omega)) _))), by go_simp, by go_simp, rfl⟩
    · have H := Lib.hid (ptV_no (k := .f32) (s := s) (.inr hi))
      have HV := Lib.hid (show valV (hdS s) = .tuple #[pr 0 0, .bool false] by rw [valV_yes c2, hi]; rfl)
      have hD : ∀ w, Calls Try.prog 33 #[.string (hdS s)] w fun e w' => e = .returned (.tuple #[pr 0 0, .bool false]) ∧ Below w.heap.size w w' := fun w => by rw [← HV.out]; exact iDigitsValue_c _ w
      go_enter Try.func40, Try.ntmps40
      go_wp2_with (first | (go_at_call 37; refine (hS _).mono ?_; rintro e w1 ⟨rfl, hb⟩; obtain ⟨hc, hf⟩ := bcell hb; have hz := bsize hb; have hs := hb.size; try simp at hs) | (go_at_call 33; refine (hD _).mono ?_; rintro e w1 ⟨rfl, hb⟩; obtain ⟨hc, hf⟩ := bcell hb; have hz := bsize hb; have hs := hb.size; try simp at hs))
      go_ret2
      exact ⟨by rw [H.out]; rfl, by (repeat' (first | assumption | exact Below.refl _ _ | apply Blw.alloc | apply Blw.drew | apply Blw.drewN | (refine Blw.after ?_ (by assumption)) | (refine Blw.set ?_ (by first | (dsimp only; omega) | (simp; done) | (simp; omega)) _)))⟩
  · have H := Lib.hid (ptV_no (k := .f32) (s := s) (.inl hc))
    have HC := Lib.hid (cutI_no hc)
    have hS : ∀ w, Calls Try.prog 37 #[.string s] w fun e w' => e = .returned (.tuple #[.string ⟨#[]⟩, .string ⟨#[]⟩, .bool false]) ∧ Below w.heap.size w w' := fun w => by rw [← HC.out]; exact cutI_c s w hsz
    go_enter Try.func40, Try.ntmps40
    go_wp2_with (go_at_call 37; refine (hS _).mono ?_; rintro e w1 ⟨rfl, hb⟩; obtain ⟨hc, hf⟩ := bcell hb; have hz := bsize hb; have hs := hb.size; try simp at hs)
    go_ret2
    exact ⟨by rw [H.out]; rfl, by (repeat' (first | assumption | exact Below.refl _ _ | apply Blw.alloc | apply Blw.drew | apply Blw.drewN | (refine Blw.after ?_ (by assumption)) | (refine Blw.set ?_ (by first | (dsimp only; omega) | (simp; done) | (simp; omega)) _)))⟩
theorem iPointSingle_c (s : ByteArray) (w : World) (hsz : s.size ≤ 2000000) : Calls Try.prog 14 #[.string s] w fun e w' => e = .returned (ptV .f32 s) ∧ Below w.heap.size w w' := by
  go_enter Try.func14, Try.ntmps14
  go_wp2_with (go_at_call 40; refine (pointOf32_c _ _ hsz).mono ?_; rintro e w1 ⟨rfl, hb⟩; obtain ⟨hc, hf⟩ := bcell hb; have hz := bsize hb; have hs := hb.size; try simp at hs)
  go_ret2
  exact ⟨rfl, by (repeat' (first | assumption | exact Below.refl _ _ | apply Blw.alloc | apply Blw.drew | apply Blw.drewN | (refine Blw.after ?_ (by assumption)) | (refine Blw.set ?_ (by first | (dsimp only; omega) | (simp; done) | (simp; omega)) _)))⟩
set_option maxHeartbeats 2000000 in
theorem pointOf64_c (s : ByteArray) (w : World) (hsz : s.size ≤ 2000000) : Calls Try.prog 39 #[.string s] w fun e w' => e = .returned (ptV .f64 s) ∧ Below w.heap.size w w' := by
  rcases Bool.eq_false_or_eq_true (cutB s) with hc | hc
  · have HC := Lib.hid (cutI_yes hc)
    obtain ⟨-, c1, c2, c3⟩ := cutB_facts hc
    have hS : ∀ w, Calls Try.prog 37 #[.string s] w fun e w' => e = .returned (.tuple #[.string (hdS s), .string (tlS s), .bool true]) ∧ Below w.heap.size w w' := fun w => by rw [← HC.out]; exact cutI_c s w hsz
    clear HC
    rcases Bool.eq_false_or_eq_true (inB 1000000 (valX (toL (hdS s))) (valY (toL (hdS s)))) with hi | hi
    · have H := Lib.hid (ptV_yes (k := .f64) hc hi)
      have HV := Lib.hid (show valV (hdS s) = .tuple #[pr (valX (toL (hdS s))) (valY (toL (hdS s))), .bool true] by rw [valV_yes c2, hi]; rfl)
      have hD : ∀ w, Calls Try.prog 33 #[.string (hdS s)] w fun e w' => e = .returned (.tuple #[pr (valX (toL (hdS s))) (valY (toL (hdS s))), .bool true]) ∧ Below w.heap.size w w' := fun w => by rw [← HV.out]; exact iDigitsValue_c _ w
      obtain ⟨x1, x2, y1, y2⟩ := inB_le hi
      have HB := Lib.hid (onlyB_bits c1)
      clear HV hc hi c1 c2
      generalize valX (toL (hdS s)) = X at *
      generalize valY (toL (hdS s)) = Y at *
      generalize hdS s = a at *
      generalize tlS s = T at *
      go_enter Try.func39, Try.ntmps39
      go_wp2_with (first | (go_at_call 37; refine (hS _).mono ?_; rintro e w1 ⟨rfl, hb⟩; obtain ⟨hc, hf⟩ := bcell hb; have hz := bsize hb; have hs := hb.size; try simp at hs) | (go_at_call 33; refine (hD _).mono ?_; rintro e w1 ⟨rfl, hb⟩; obtain ⟨hc, hf⟩ := bcell hb; have hz := bsize hb; have hs := hb.size; try simp at hs))
      generalize hW : World.alloc _ _ = W0
      have kW0_27 : W0.cell? ⟨w1.heap.size, 0, none⟩ = some (.int .i64 (X)) := by rw [← hW]; clear hW; first | (go_simp; done) | ((repeat refine keepcell ((Below.refl _ _).alloc (Nat.le_refl _) _) ?_); go_simp; done) | (simp only [frozen?_alloc_cells]; go_simp; done)
      have kW0_28 : W0.cell? ⟨w1.heap.size, 1, none⟩ = some (.int .i64 (Y)) := by rw [← hW]; clear hW; first | (go_simp; done) | ((repeat refine keepcell ((Below.refl _ _).alloc (Nat.le_refl _) _) ?_); go_simp; done) | (simp only [frozen?_alloc_cells]; go_simp; done)
      have : w1.heap.size < W0.heap.size := World.block_lt_of_cell? W0 ⟨w1.heap.size, 0, none⟩ (by assumption)
      have hBW0 : Below w.heap.size w W0 := by rw [← hW]; (repeat' (first | assumption | exact Below.refl _ _ | apply Blw.alloc | apply Blw.drew | apply Blw.drewN | (refine Blw.after ?_ (by assumption)) | (refine Blw.set ?_ (by first | (dsimp only; omega) | (simp; done) | (simp; omega)) _)))
      have hsW0 := hBW0.size
      clear hW
      go_loopg [8, 9] T.size (fun m z i wr => PtRelI .f64 T w w1.heap.size X Y m z i wr)
      case atStart => exact ⟨Nat.le_refl _, by go_num, hBW0, by assumption, by assumption, by rw [drop_end]; rfl⟩
      case round =>
        obtain ⟨hm, rfl, hBw, z0, z1, rfl⟩ := hrel
        have L1 : w1.heap.size < wr.heap.size := World.block_lt_of_cell? wr _ z0
        cases gk with
        | zero =>
          obtain ⟨f1, f2, -⟩ := last_ops .f64 c3 ⟨x1, x2⟩ ⟨y1, y2⟩
          have f3 := sum_c (t := 25) (.inl rfl) f1 f2
          have f4 := conv_c (k := .f64) (l := .f64) Try.underlying58 Try.underlying25 (conv_same .f64 (floatOfInt .f64 X)) (conv_same .f64 (floatOfInt .f64 Y))
          clear f1 f2
          rw [List.drop_zero, show ((0 : Nat) : Int) - 1 = -1 by rfl]
          go_wp2_with (first | (go_at_call 61; refine (gPair_c _ _ _).mono ?_; rintro e w1 ⟨rfl, hb⟩; have hk : Hld wr w1 := heldM (by (repeat' (first | assumption | exact Below.refl _ _ | apply Blw.alloc | apply Blw.drew | apply Blw.drewN | (refine Blw.after ?_ (by assumption)) | (refine Blw.set ?_ (by first | (dsimp only; omega) | (simp; done) | (simp; omega)) _)))); have hk1 := hk.1) | (go_at_call 60; refine (pwide_c _ _ _).mono ?_; rintro e w1 ⟨rfl, hb⟩; have hk : Hld wr w1 := heldM (by (repeat' (first | assumption | exact Below.refl _ _ | apply Blw.alloc | apply Blw.drew | apply Blw.drewN | (refine Blw.after ?_ (by assumption)) | (refine Blw.set ?_ (by first | (dsimp only; omega) | (simp; done) | (simp; omega)) _)))); have hk1 := hk.1))
          go_ret2
          exact ⟨by rw [H.out]; rfl, by (repeat' (first | assumption | exact Below.refl _ _ | apply Blw.alloc | apply Blw.drew | apply Blw.drewN | (refine Blw.after ?_ (by assumption)) | (refine Blw.set ?_ (by first | (dsimp only; omega) | (simp; done) | (simp; omega)) _)))⟩
        | succ i =>
          obtain ⟨r, j, f1, f2, f3⟩ := place_ops .f64 HB.out c3 (i := i) (by omega)
          rw [← show floatOfInt .f64 0 = 0 from zero_word .f64] at f2
          have f4 := sum_c (t := 25) (.inl rfl) f1 f2
          obtain ⟨b1, b2⟩ := byte_atB HB.out i (by omega)
          have f5 := conv_c (k := .f64) (l := .f64) Try.underlying58 Try.underlying25 (conv_same .f64 (floatOfInt .f64 ((T[i].toNat : Int) - 48))) (conv_same .f64 (floatOfInt .f64 0))
          clear f1 f2
          rw [show ((i + 1 : Nat) : Int) - 1 = (i : Int) by omega]
          have hlt : i < T.size := by omega
          go_wp2_with (first | (go_at_call 60; refine (pwide_c _ _ _).mono ?_; rintro e w1 ⟨rfl, hb⟩; obtain ⟨hc, hf⟩ := bcell hb; have hz := bsize hb; have hs := hb.size; try simp at hs) | (go_at_call 59; refine (iWide_c _ f3).mono ?_; rintro e w1 ⟨rfl, rfl⟩))
          go_roundg i
          case measure => omega
          case rel => exact ⟨by omega, by go_num, by (repeat' (first | assumption | exact Below.refl _ _ | apply Blw.alloc | apply Blw.drew | apply Blw.drewN | (refine Blw.after ?_ (by assumption)) | (refine Blw.set ?_ (by first | (dsimp only; omega) | (simp; done) | (simp; omega)) _))), by go_simp, by go_simp, rfl⟩
    · have H := Lib.hid (ptV_no (k := .f64) (s := s) (.inr hi))
      have HV := Lib.hid (show valV (hdS s) = .tuple #[pr 0 0, .bool false] by rw [valV_yes c2, hi]; rfl)
      have hD : ∀ w, Calls Try.prog 33 #[.string (hdS s)] w fun e w' => e = .returned (.tuple #[pr 0 0, .bool false]) ∧ Below w.heap.size w w' := fun w => by rw [← HV.out]; exact iDigitsValue_c _ w
      go_enter Try.func39, Try.ntmps39
      go_wp2_with (first | (go_at_call 37; refine (hS _).mono ?_; rintro e w1 ⟨rfl, hb⟩; obtain ⟨hc, hf⟩ := bcell hb; have hz := bsize hb; have hs := hb.size; try simp at hs) | (go_at_call 33; refine (hD _).mono ?_; rintro e w1 ⟨rfl, hb⟩; obtain ⟨hc, hf⟩ := bcell hb; have hz := bsize hb; have hs := hb.size; try simp at hs))
      go_ret2
      exact ⟨by rw [H.out]; rfl, by (repeat' (first | assumption | exact Below.refl _ _ | apply Blw.alloc | apply Blw.drew | apply Blw.drewN | (refine Blw.after ?_ (by assumption)) | (refine Blw.set ?_ (by first | (dsimp only; omega) | (simp; done) | (simp; omega)) _)))⟩
  · have H := Lib.hid (ptV_no (k := .f64) (s := s) (.inl hc))
    have HC := Lib.hid (cutI_no hc)
    have hS : ∀ w, Calls Try.prog 37 #[.string s] w fun e w' => e = .returned (.tuple #[.string ⟨#[]⟩, .string ⟨#[]⟩, .bool false]) ∧ Below w.heap.size w w' := fun w => by rw [← HC.out]; exact cutI_c s w hsz
    go_enter Try.func39, Try.ntmps39
    go_wp2_with (go_at_call 37; refine (hS _).mono ?_; rintro e w1 ⟨rfl, hb⟩; obtain ⟨hc, hf⟩ := bcell hb; have hz := bsize hb; have hs := hb.size; try simp at hs)
    go_ret2
    exact ⟨by rw [H.out]; rfl, by (repeat' (first | assumption | exact Below.refl _ _ | apply Blw.alloc | apply Blw.drew | apply Blw.drewN | (refine Blw.after ?_ (by assumption)) | (refine Blw.set ?_ (by first | (dsimp only; omega) | (simp; done) | (simp; omega)) _)))⟩
theorem iPointWide_c (s : ByteArray) (w : World) (hsz : s.size ≤ 2000000) : Calls Try.prog 13 #[.string s] w fun e w' => e = .returned (ptV .f64 s) ∧ Below w.heap.size w w' := by
  go_enter Try.func13, Try.ntmps13
  go_wp2_with (go_at_call 39; refine (pointOf64_c _ _ hsz).mono ?_; rintro e w1 ⟨rfl, hb⟩; obtain ⟨hc, hf⟩ := bcell hb; have hz := bsize hb; have hs := hb.size; try simp at hs)
  go_ret2
  exact ⟨rfl, by (repeat' (first | assumption | exact Below.refl _ _ | apply Blw.alloc | apply Blw.drew | apply Blw.drewN | (refine Blw.after ?_ (by assumption)) | (refine Blw.set ?_ (by first | (dsimp only; omega) | (simp; done) | (simp; omega)) _)))⟩
end Go.Proofs.Ytlcafjdinjdllab

/- Chapter 3: points, of both sides, in both widths. -/
import Derived.Test.YtfodfapaidfhbaaPo
import Derived.Test.YtfodfapaidfhbaaCutW
import Derived.Test.YtfodfapaidfhbaaDc
namespace Go.Proofs.Ytfodfapaidfhbaa
set_option linter.unusedSimpArgs false
set_option linter.unusedVariables false
open Go.RowKit

def ptB (s : ByteArray) : Bool := cutB s && inB 1000000 (valX (toL (hdS s))) (valY (toL (hdS s)))
def ptR (k : FloatKind) (s : ByteArray) : Nat := whR k (pv k (toL (tlS s))) (valX (toL (hdS s)))
def ptI (k : FloatKind) (s : ByteArray) : Nat := whI k (pv k (toL (tlS s))) (valY (toL (hdS s)))
abbrev ptV (k : FloatKind) (s : ByteArray) : Value := .tuple #[.complex k (pickN (ptB s) (ptR k s)) (pickN (ptB s) (ptI k s)), .bool (ptB s)]
theorem ptV_yes {k : FloatKind} {s : ByteArray} (h : cutB s = true) (hi : inB 1000000 (valX (toL (hdS s))) (valY (toL (hdS s))) = true) :
    ptV k s = .tuple #[.complex k (whR k (pv k (toL (tlS s))) (valX (toL (hdS s)))) (whI k (pv k (toL (tlS s))) (valY (toL (hdS s)))), .bool true] := by
  have : ptB s = true := by unfold ptB; rw [h, hi]; rfl
  unfold ptV pickN; rw [this]; rfl
theorem ptV_no {k : FloatKind} {s : ByteArray} (h : cutB s = false ∨ inB 1000000 (valX (toL (hdS s))) (valY (toL (hdS s))) = false) :
    ptV k s = .tuple #[.complex k 0 0, .bool false] := by
  have : ptB s = false := by unfold ptB; rcases h with h | h <;> rw [h] <;> simp
  unfold ptV pickN; rw [this]; rfl
theorem bitW_int (k : FloatKind) {c : UInt8} (h : c.toNat = 48 ∨ c.toNat = 49) : bitW k c = floatOfInt k ((c.toNat : Int) - 48) := by
  have e : c = 48 ∨ c = 49 := by
    rcases h with h | h
    · exact .inl (UInt8.toNat_inj.1 (by rw [h]; rfl))
    · exact .inr (UInt8.toNat_inj.1 (by rw [h]; rfl))
  rcases e with rfl | rfl
  · exact (zero_word k).symm
  · exact (one_word k).symm
theorem drop_consB (T : ByteArray) (i : Nat) (h : i < T.size) : (toL T).drop i = T[i] :: (toL T).drop (i + 1) := by
  have h' : i < (toL T).length := by rw [toL_len]; exact h
  rw [List.drop_eq_getElem_cons h']
  congr 1
/-- what one place asks of the floats -/
theorem place_ops (k : FloatKind) {T : ByteArray} (hb : ∀ c ∈ toL T, bitC c = true) (hs : T.size ≤ 320) {i : Nat} (h : i < T.size) :
    ∃ r j, floatBits .add k (pv k ((toL T).drop (i + 1))).1 (floatOfInt k ((T[i].toNat : Int) - 48)) = some r ∧ floatBits .add k (pv k ((toL T).drop (i + 1))).2 0 = some j ∧
      Div k r j (pv k ((toL T).drop i)).1 (pv k ((toL T).drop i)).2 := by
  have hl : ((toL T).drop (i + 1)).length ≤ 320 := by rw [List.length_drop, toL_len]; omega
  obtain ⟨h1, h2, h3, -⟩ := pv_step (k := k) (c := T[i]) (B := ((toL T).drop (i + 1)).length) (by omega) (pv_pt k _ (by omega))
  have hbit : T[i].toNat = 48 ∨ T[i].toNat = 49 := (bitC_iff _).1 (hb _ (List.mem_of_getElem? (toL_get T i h)))
  rw [bitW_int k hbit] at h1
  rw [drop_consB T i h]
  exact ⟨_, _, h1, h2, h3⟩
theorem last_ops (k : FloatKind) {T : ByteArray} (hs : T.size ≤ 320) {X Y : Int} (hX : -1000000 ≤ X ∧ X ≤ 1000000) (hY : -1000000 ≤ Y ∧ Y ≤ 1000000) :
    floatBits .add k (pv k (toL T)).1 (floatOfInt k X) = some (whR k (pv k (toL T)) X) ∧ floatBits .add k (pv k (toL T)).2 (floatOfInt k Y) = some (whI k (pv k (toL T)) Y) ∧
    Pt k.format (un k) 1001000 (whR k (pv k (toL T)) X) (whI k (pv k (toL T)) Y) :=
  wh_ops ((pv_pt k (toL T) (by rw [toL_len]; omega)).mono (by rw [toL_len]; omega)) hX hY
def PtRel (k : FloatKind) (T : ByteArray) (W : World) (m : Nat) (z i : Value) (wr : World) : Prop :=
  m ≤ T.size ∧ i = .int .i64 ((m : Int) - 1) ∧ wr = W ∧ z = .complex k (pv k ((toL T).drop m)).1 (pv k ((toL T).drop m)).2
def PtRelI (k : FloatKind) (T : ByteArray) (w : World) (b : Nat) (X Y : Int) (m : Nat) (z i : Value) (wr : World) : Prop :=
  m ≤ T.size ∧ i = .int .i64 ((m : Int) - 1) ∧ Below w.heap.size w wr ∧ wr.cell? ⟨b, 0, none⟩ = some (.int .i64 X) ∧ wr.cell? ⟨b, 1, none⟩ = some (.int .i64 Y) ∧ z = .complex k (pv k ((toL T).drop m)).1 (pv k ((toL T).drop m)).2
theorem drop_end (T : ByteArray) : (toL T).drop T.size = [] := List.drop_of_length_le (by rw [toL_len]; exact Nat.le_refl _)
set_option maxHeartbeats 2000000 in
theorem sPointSingle_c (s : ByteArray) (w : World) (hsz : s.size ≤ 2000000) : Calls Try.prog 20 #[.string s] w fun e w' => e = .returned (ptV .f32 s) ∧ Below w.heap.size w w' := by
  rcases Bool.eq_false_or_eq_true (cutB s) with hc | hc
  · have HC := Lib.hid (cutS_yes hc)
    obtain ⟨-, c1, c2, c3⟩ := cutB_facts hc
    have hS : ∀ w, Calls Try.prog 32 #[.string s] w fun e w' => e = .returned (.tuple #[.string (hdS s), .string (tlS s), .bool true]) ∧ Below w.heap.size w w' := fun w => by rw [← HC.out]; exact l3Cut_c s w hsz
    clear HC
    rcases Bool.eq_false_or_eq_true (inB 1000000 (valX (toL (hdS s))) (valY (toL (hdS s)))) with hi | hi
    · have H := Lib.hid (ptV_yes (k := .f32) hc hi)
      have HV := Lib.hid (show valV (hdS s) = .tuple #[pr (valX (toL (hdS s))) (valY (toL (hdS s))), .bool true] by rw [valV_yes c2, hi]; rfl)
      have hD : ∀ w, Calls Try.prog 34 #[.string (hdS s)] w fun e w' => e = .returned (.tuple #[pr (valX (toL (hdS s))) (valY (toL (hdS s))), .bool true]) ∧ Below w.heap.size w w' := fun w => by rw [← HV.out]; exact sDigitsValue_c _ w
      obtain ⟨x1, x2, y1, y2⟩ := inB_le hi
      have HB := Lib.hid (onlyB_bits c1)
      clear HV hc hi c1 c2
      generalize valX (toL (hdS s)) = X at *
      generalize valY (toL (hdS s)) = Y at *
      generalize hdS s = a at *
      generalize tlS s = T at *
      go_enter Try.func20, Try.ntmps20
      go_wp2_with (first | (go_at_call 32; refine (hS _).mono ?_; rintro e w1 ⟨rfl, hb⟩; obtain ⟨hc, hf⟩ := bcell hb; have hz := bsize hb; have hs := hb.size; try simp at hs) | (go_at_call 34; refine (hD _).mono ?_; rintro e w1 ⟨rfl, hb⟩; obtain ⟨hc, hf⟩ := bcell hb; have hz := bsize hb; have hs := hb.size; try simp at hs))
      generalize hW : World.alloc _ _ = W0
      have kW0_1 : W0.cell? ⟨w1.heap.size, 0, none⟩ = some (.int .i64 (X)) := by rw [← hW]; clear hW; first | (go_simp; done) | ((repeat refine keepcell ((Below.refl _ _).alloc (Nat.le_refl _) _) ?_); go_simp; done) | (simp only [frozen?_alloc_cells]; go_simp; done)
      have kW0_2 : W0.cell? ⟨w1.heap.size, 1, none⟩ = some (.int .i64 (Y)) := by rw [← hW]; clear hW; first | (go_simp; done) | ((repeat refine keepcell ((Below.refl _ _).alloc (Nat.le_refl _) _) ?_); go_simp; done) | (simp only [frozen?_alloc_cells]; go_simp; done)
      have : w1.heap.size < W0.heap.size := World.block_lt_of_cell? W0 ⟨w1.heap.size, 0, none⟩ (by assumption)
      have hBW0 : Below w.heap.size w W0 := by rw [← hW]; (repeat' (first | assumption | exact Below.refl _ _ | apply Blw.alloc | apply Blw.drew | apply Blw.drewN | (refine Blw.after ?_ (by assumption)) | (refine Blw.set ?_ (by first | (dsimp only; omega) | (simp; done) | (simp; omega)) _)))
      have hsW0 := hBW0.size
      clear hW
      go_loopg [9, 10] T.size (fun m z i wr => PtRel .f32 T W0 m z i wr)
      case atStart => exact ⟨Nat.le_refl _, by go_num, rfl, by rw [drop_end]; rfl⟩
      case round =>
        obtain ⟨hm, rfl, rfl, rfl⟩ := hrel
        cases gk with
        | zero =>
          obtain ⟨f1, f2, -⟩ := last_ops .f32 c3 ⟨x1, x2⟩ ⟨y1, y2⟩
          have f3 := sum_c (t := 32) (.inl rfl) f1 f2
          clear f1 f2
          rw [List.drop_zero, show ((0 : Nat) : Int) - 1 = -1 by rfl]
          go_wp2
          go_ret2
          exact ⟨by rw [H.out]; rfl, by (repeat' (first | assumption | exact Below.refl _ _ | apply Blw.alloc | apply Blw.drew | apply Blw.drewN | (refine Blw.after ?_ (by assumption)) | (refine Blw.set ?_ (by first | (dsimp only; omega) | (simp; done) | (simp; omega)) _)))⟩
        | succ i =>
          obtain ⟨r, j, f1, f2, f3⟩ := place_ops .f32 HB.out c3 (i := i) (by omega)
          have f4 := sum_c (t := 32) (.inl rfl) f1 f2
          obtain ⟨b1, b2⟩ := byte_atB HB.out i (by omega)
          clear f1 f2
          rw [show ((i + 1 : Nat) : Int) - 1 = (i : Int) by omega]
          have hlt : i < T.size := by omega
          go_wp2_with (go_at_call 42; refine (sSingle_c _ f3).mono ?_; rintro e w1 ⟨rfl, rfl⟩)
          go_roundg i
          case measure => omega
          case rel => exact ⟨by omega, by go_num, rfl, rfl⟩
    · have H := Lib.hid (ptV_no (k := .f32) (s := s) (.inr hi))
      have HV := Lib.hid (show valV (hdS s) = .tuple #[pr 0 0, .bool false] by rw [valV_yes c2, hi]; rfl)
      have hD : ∀ w, Calls Try.prog 34 #[.string (hdS s)] w fun e w' => e = .returned (.tuple #[pr 0 0, .bool false]) ∧ Below w.heap.size w w' := fun w => by rw [← HV.out]; exact sDigitsValue_c _ w
      go_enter Try.func20, Try.ntmps20
      go_wp2_with (first | (go_at_call 32; refine (hS _).mono ?_; rintro e w1 ⟨rfl, hb⟩; obtain ⟨hc, hf⟩ := bcell hb; have hz := bsize hb; have hs := hb.size; try simp at hs) | (go_at_call 34; refine (hD _).mono ?_; rintro e w1 ⟨rfl, hb⟩; obtain ⟨hc, hf⟩ := bcell hb; have hz := bsize hb; have hs := hb.size; try simp at hs))
      go_ret2
      exact ⟨by rw [H.out]; rfl, by (repeat' (first | assumption | exact Below.refl _ _ | apply Blw.alloc | apply Blw.drew | apply Blw.drewN | (refine Blw.after ?_ (by assumption)) | (refine Blw.set ?_ (by first | (dsimp only; omega) | (simp; done) | (simp; omega)) _)))⟩
  · have H := Lib.hid (ptV_no (k := .f32) (s := s) (.inl hc))
    go_enter Try.func20, Try.ntmps20
    go_wp2_with (go_at_call 32; refine (l3Cut_c _ _ hsz).mono ?_; rintro e w1 ⟨rfl, hb⟩; obtain ⟨hc, hf⟩ := bcell hb; have hz := bsize hb; have hs := hb.size; try simp at hs)
    go_ret2
    exact ⟨by rw [H.out]; rfl, by (repeat' (first | assumption | exact Below.refl _ _ | apply Blw.alloc | apply Blw.drew | apply Blw.drewN | (refine Blw.after ?_ (by assumption)) | (refine Blw.set ?_ (by first | (dsimp only; omega) | (simp; done) | (simp; omega)) _)))⟩
set_option maxHeartbeats 2000000 in
theorem sPointWide_c (s : ByteArray) (w : World) (hsz : s.size ≤ 2000000) : Calls Try.prog 17 #[.string s] w fun e w' => e = .returned (ptV .f64 s) ∧ Below w.heap.size w w' := by
  rcases Bool.eq_false_or_eq_true (cutB s) with hc | hc
  · have HC := Lib.hid (cutS_yes hc)
    obtain ⟨-, c1, c2, c3⟩ := cutB_facts hc
    have hS : ∀ w, Calls Try.prog 32 #[.string s] w fun e w' => e = .returned (.tuple #[.string (hdS s), .string (tlS s), .bool true]) ∧ Below w.heap.size w w' := fun w => by rw [← HC.out]; exact l3Cut_c s w hsz
    clear HC
    rcases Bool.eq_false_or_eq_true (inB 1000000 (valX (toL (hdS s))) (valY (toL (hdS s)))) with hi | hi
    · have H := Lib.hid (ptV_yes (k := .f64) hc hi)
      have HV := Lib.hid (show valV (hdS s) = .tuple #[pr (valX (toL (hdS s))) (valY (toL (hdS s))), .bool true] by rw [valV_yes c2, hi]; rfl)
      have hD : ∀ w, Calls Try.prog 34 #[.string (hdS s)] w fun e w' => e = .returned (.tuple #[pr (valX (toL (hdS s))) (valY (toL (hdS s))), .bool true]) ∧ Below w.heap.size w w' := fun w => by rw [← HV.out]; exact sDigitsValue_c _ w
      obtain ⟨x1, x2, y1, y2⟩ := inB_le hi
      have HB := Lib.hid (onlyB_bits c1)
      clear HV hc hi c1 c2
      generalize valX (toL (hdS s)) = X at *
      generalize valY (toL (hdS s)) = Y at *
      generalize hdS s = a at *
      generalize tlS s = T at *
      go_enter Try.func17, Try.ntmps17
      go_wp2_with (first | (go_at_call 32; refine (hS _).mono ?_; rintro e w1 ⟨rfl, hb⟩; obtain ⟨hc, hf⟩ := bcell hb; have hz := bsize hb; have hs := hb.size; try simp at hs) | (go_at_call 34; refine (hD _).mono ?_; rintro e w1 ⟨rfl, hb⟩; obtain ⟨hc, hf⟩ := bcell hb; have hz := bsize hb; have hs := hb.size; try simp at hs))
      generalize hW : World.alloc _ _ = W0
      have kW0_3 : W0.cell? ⟨w1.heap.size, 0, none⟩ = some (.int .i64 (X)) := by rw [← hW]; clear hW; first | (go_simp; done) | ((repeat refine keepcell ((Below.refl _ _).alloc (Nat.le_refl _) _) ?_); go_simp; done) | (simp only [frozen?_alloc_cells]; go_simp; done)
      have kW0_4 : W0.cell? ⟨w1.heap.size, 1, none⟩ = some (.int .i64 (Y)) := by rw [← hW]; clear hW; first | (go_simp; done) | ((repeat refine keepcell ((Below.refl _ _).alloc (Nat.le_refl _) _) ?_); go_simp; done) | (simp only [frozen?_alloc_cells]; go_simp; done)
      have : w1.heap.size < W0.heap.size := World.block_lt_of_cell? W0 ⟨w1.heap.size, 0, none⟩ (by assumption)
      have hBW0 : Below w.heap.size w W0 := by rw [← hW]; (repeat' (first | assumption | exact Below.refl _ _ | apply Blw.alloc | apply Blw.drew | apply Blw.drewN | (refine Blw.after ?_ (by assumption)) | (refine Blw.set ?_ (by first | (dsimp only; omega) | (simp; done) | (simp; omega)) _)))
      have hsW0 := hBW0.size
      clear hW
      go_loopg [9, 10] T.size (fun m z i wr => PtRel .f64 T W0 m z i wr)
      case atStart => exact ⟨Nat.le_refl _, by go_num, rfl, by rw [drop_end]; rfl⟩
      case round =>
        obtain ⟨hm, rfl, rfl, rfl⟩ := hrel
        cases gk with
        | zero =>
          obtain ⟨f1, f2, -⟩ := last_ops .f64 c3 ⟨x1, x2⟩ ⟨y1, y2⟩
          have f3 := sum_c (t := 28) (.inl rfl) f1 f2
          clear f1 f2
          rw [List.drop_zero, show ((0 : Nat) : Int) - 1 = -1 by rfl]
          go_wp2
          go_ret2
          exact ⟨by rw [H.out]; rfl, by (repeat' (first | assumption | exact Below.refl _ _ | apply Blw.alloc | apply Blw.drew | apply Blw.drewN | (refine Blw.after ?_ (by assumption)) | (refine Blw.set ?_ (by first | (dsimp only; omega) | (simp; done) | (simp; omega)) _)))⟩
        | succ i =>
          obtain ⟨r, j, f1, f2, f3⟩ := place_ops .f64 HB.out c3 (i := i) (by omega)
          have f4 := sum_c (t := 28) (.inl rfl) f1 f2
          obtain ⟨b1, b2⟩ := byte_atB HB.out i (by omega)
          clear f1 f2
          rw [show ((i + 1 : Nat) : Int) - 1 = (i : Int) by omega]
          have hlt : i < T.size := by omega
          go_wp2_with (go_at_call 39; refine (sWide_c _ f3).mono ?_; rintro e w1 ⟨rfl, rfl⟩)
          go_roundg i
          case measure => omega
          case rel => exact ⟨by omega, by go_num, rfl, rfl⟩
    · have H := Lib.hid (ptV_no (k := .f64) (s := s) (.inr hi))
      have HV := Lib.hid (show valV (hdS s) = .tuple #[pr 0 0, .bool false] by rw [valV_yes c2, hi]; rfl)
      have hD : ∀ w, Calls Try.prog 34 #[.string (hdS s)] w fun e w' => e = .returned (.tuple #[pr 0 0, .bool false]) ∧ Below w.heap.size w w' := fun w => by rw [← HV.out]; exact sDigitsValue_c _ w
      go_enter Try.func17, Try.ntmps17
      go_wp2_with (first | (go_at_call 32; refine (hS _).mono ?_; rintro e w1 ⟨rfl, hb⟩; obtain ⟨hc, hf⟩ := bcell hb; have hz := bsize hb; have hs := hb.size; try simp at hs) | (go_at_call 34; refine (hD _).mono ?_; rintro e w1 ⟨rfl, hb⟩; obtain ⟨hc, hf⟩ := bcell hb; have hz := bsize hb; have hs := hb.size; try simp at hs))
      go_ret2
      exact ⟨by rw [H.out]; rfl, by (repeat' (first | assumption | exact Below.refl _ _ | apply Blw.alloc | apply Blw.drew | apply Blw.drewN | (refine Blw.after ?_ (by assumption)) | (refine Blw.set ?_ (by first | (dsimp only; omega) | (simp; done) | (simp; omega)) _)))⟩
  · have H := Lib.hid (ptV_no (k := .f64) (s := s) (.inl hc))
    go_enter Try.func17, Try.ntmps17
    go_wp2_with (go_at_call 32; refine (l3Cut_c _ _ hsz).mono ?_; rintro e w1 ⟨rfl, hb⟩; obtain ⟨hc, hf⟩ := bcell hb; have hz := bsize hb; have hs := hb.size; try simp at hs)
    go_ret2
    exact ⟨by rw [H.out]; rfl, by (repeat' (first | assumption | exact Below.refl _ _ | apply Blw.alloc | apply Blw.drew | apply Blw.drewN | (refine Blw.after ?_ (by assumption)) | (refine Blw.set ?_ (by first | (dsimp only; omega) | (simp; done) | (simp; omega)) _)))⟩
end Go.Proofs.Ytfodfapaidfhbaa

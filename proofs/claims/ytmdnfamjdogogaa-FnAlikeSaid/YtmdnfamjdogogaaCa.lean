/- Chapter 5: CurveOf, of both sides. No law is stated here. -/
import Derived.Test.YtmdnfamjdogogaaCs
import Derived.Test.YtmdnfamjdogogaaWa
import Derived.Test.YtmdnfamjdogogaaBq
namespace Go.Proofs.Ytmdnfamjdogogaa
set_option linter.unusedSimpArgs false
set_option linter.unusedVariables false
open Go.RowKit Ieee

theorem rgt_l {c : UInt8} (h : c.toNat = 108) : rgt c = false := by
  obtain rfl : c = 108 := UInt8.toNat_inj.1 (by rw [h]; rfl)
  rfl
theorem rgt_r {c : UInt8} (h : c.toNat ≠ 108) : rgt c = true := by
  unfold rgt
  simp only [bne_iff_ne, ne_eq]
  intro e; apply h; rw [e]; rfl
def stpsL (l : List UInt8) (k : Nat) : List Value := (List.range k).map fun j => encZ (stZ (l.take j))
theorem stpsL_len (l : List UInt8) (k : Nat) : (stpsL l k).length = k := by simp [stpsL]
theorem stpsL_succ (l : List UInt8) (k : Nat) : stpsL l (k + 1) = stpsL l k ++ [encZ (stZ (l.take k))] := by simp [stpsL, List.range_succ]
theorem stpsL_get (l : List UInt8) {k n : Nat} (h : k < n) : (stpsL l n)[k]? = some (encZ (stZ (l.take k))) := by
  unfold stpsL
  rw [List.getElem?_map, List.getElem?_range h]; rfl
def StRel (s : ByteArray) (w : World) (ib : Nat) (m : Nat) (x v : Value) (wr : World) : Prop :=
  ∃ k : Nat, k + m = s.size ∧ x = encZ (stZ ((toL s).take k)) ∧ wr.heap[ib]? = some (.stringIter s k) ∧ wr.ownsRow w.heap.size 27 1 v (k + 1) (stpsL (toL s) (k + 1)) ∧ Below w.heap.size w wr
/-! ### points -/
theorem crv_at {l : List UInt8} {k : Nat} (hl : l.length ≤ 1023) (h : k ≤ l.length) {z : Int × Int} (hz : (crvL l)[k]? = some z) : Sm z ∧ (crvL l)[k + 1]? = some (addP z (stP (l.take k))) ∧ (crvL l).take (k + 2) = (crvL l).take (k + 1) ++ [addP z (stP (l.take k))] := by
  have hm := crvL_in l z (List.mem_of_getElem? hz)
  have e : psP (l.take k) = addP z (stP (l.take k)) := by
    cases k with
    | zero =>
      rw [crvL_zero] at hz
      cases hz
      rw [List.take_zero]; rfl
    | succ k =>
      rw [crvL_succ (by omega)] at hz
      cases hz
      rw [take_snocL (List.getElem?_eq_getElem (show k < l.length by omega)), psP_snoc, stP_snoc]
  refine ⟨?_, by rw [crvL_succ h, e], by rw [crvL_take h, e]⟩
  unfold Sm
  omega
def AlRel (l : List UInt8) (w : World) (m : Nat) (x v i : Value) (wr : World) : Prop :=
  ∃ (k : Nat) (z : Int × Int), k + m = l.length + 1 ∧ i = .int .i64 k ∧ (crvL l)[k]? = some z ∧ x = encP z ∧ wr.ownsRow w.heap.size 27 1 v (k + 1) (((crvL l).take (k + 1)).map encP) ∧ Below w.heap.size w wr
/-! ### curves -/
def crvA (s : ByteArray) : List (Int × Int) := if wdB 1023 s then crvL (toL s) else []
theorem crvA_t {s : ByteArray} (h : wdB 1023 s = true) : crvA s = crvL (toL s) := by unfold crvA; rw [h]; rfl
theorem crvA_f {s : ByteArray} (h : wdB 1023 s = false) : crvA s = [] := by unfold crvA; rw [h]; rfl
theorem crvA_len {s : ByteArray} (h : wdB 1023 s = true) : (crvA s).length = s.size + 2 := by rw [crvA_t h, crvL_len, toL_len]
def CvPost (s : ByteArray) (w : World) (e : Ending) (w' : World) : Prop := ∃ v, e = .returned (.tuple #[v, .bool (wdB 1023 s)]) ∧ w'.ownsRow w.heap.size 27 1 v (crvA s).length ((crvA s).map encP) ∧ Below w.heap.size w w'
def ScRel (s : ByteArray) (w : World) (m : Nat) (x st v i : Value) (wr : World) : Prop :=
  ∃ (k : Nat) (z q : Int × Int), k + m = s.size + 1 ∧ i = .int .i64 k ∧ (crvL (toL s))[k]? = some z ∧ x = encP z ∧ st = encP q ∧ (k ≤ s.size → q = stP ((toL s).take k)) ∧ wr.ownsRow w.heap.size 27 1 v (k + 1) (((crvL (toL s)).take (k + 1)).map encP) ∧ Below w.heap.size w wr
theorem crv_done {s : ByteArray} {w : World} {B : Nat} {v : Value} (h : wdB 1023 s = true) (ho : w.ownsRow B 27 1 v (s.size + 1 + 1) (((crvL (toL s)).take (s.size + 1 + 1)).map encP)) : w.ownsRow B 27 1 v (crvA s).length ((crvA s).map encP) := by
  have e := crvL_all (toL s)
  rw [toL_len] at e
  rw [crvA_len h, crvA_t h, ← e]; exact ho
theorem trn_l {c : UInt8} (h : c.toNat = 108) (z : Int × Int) : trn c z = (-z.2, z.1) := by
  obtain rfl : c = 108 := UInt8.toNat_inj.1 (by rw [h]; rfl)
  rfl
theorem trn_r {c : UInt8} (h : c.toNat ≠ 108) (z : Int × Int) : trn c z = (z.2, -z.1) := by
  unfold trn; rw [if_neg (fun e => h (by rw [e]; rfl))]
set_option maxRecDepth 100000 in
set_option maxHeartbeats 4000000 in
theorem sCurveOf_c (s : ByteArray) (w : World) : Calls Try.prog 19 #[.string s] w (CvPost s w) := by
  obtain ⟨i0, hi, hz0, hz1, hz2⟩ := info_parts infoC
  rcases Bool.eq_false_or_eq_true (wdB 1023 s) with h | h
  · have HW := Lib.hid h
    have hsz := wdB_len h
    go_enter Try.func19, Try.ntmps19
    go_wp2_with (go_at_call 22; refine (l4Word_c _ 1023 _ (by decide)).mono ?_; rintro e w1 ⟨rfl, rfl⟩)
    clear h
    have S0 := Lib.hid (show ScRel s w (s.size + 1) (.complex .f32 0 0) (.complex .f32 1065353216 0) (.slice (some ⟨w.heap.size, 0, none⟩) 1 1) (.int .i64 0) (w.alloc (.cells #[.complex .f32 0 0] 27)) from by
      have h := World.ownsRow_lit (base := w.heap.size) (e := 27) (size := 1) w #[.complex .f32 0 0] 1 (Nat.le_refl _) (by unfold maxLen; omega) rfl
      refine ⟨0, (0, 0), (1, 0), by omega, rfl, crvL_zero _, enc00.symm, enc10.symm, fun _ => by rw [List.take_zero]; rfl, ?_, by (first | ((repeat' with_reducible first | assumption | exact Below.refl _ _ | apply Blw.alloc | apply Blw.drew | apply Blw.drewN | (refine Blw.after ?_ (by assumption)) | (refine Blw.set ?_ (by first | (dsimp only; omega) | (simp; omega)) _)); done) | (repeat' (first | assumption | exact Below.refl _ _ | apply Blw.alloc | apply Blw.drew | apply Blw.drewN | (refine Blw.after ?_ (by assumption)) | (refine Blw.set ?_ (by first | (dsimp only; omega) | (simp; done) | (simp; omega)) _))))⟩
      rw [show ((crvL (toL s)).take (0 + 1)).map encP = [.complex .f32 0 0] by rw [crvL_one]; exact congrArg (fun x => [x]) enc00]
      exact h)
    go_loopg [4, 5, 6, 7] (s.size + 1) (fun m x st v i wr => ScRel s w m x st v i wr)
    case atStart => exact S0.out
    case round =>
      clear S0
      obtain ⟨k, z, q, hk, rfl, hz, rfl, rfl, hst, hown, hB⟩ := hrel
      have HO := Lib.hid hown
      clear hown
      by_cases hle : k ≤ s.size
      · obtain rfl := hst hle
        obtain ⟨hs, hn, ht⟩ := crv_at (l := toL s) (by rw [toL_len]; exact hsz) (by rw [toL_len]; exact hle) hz
        have hu := stP_unit ((toL s).take k)
        have f1 := fun w t => run_padd (P := Try.prog) w t hs (show Sm (stP ((toL s).take k)) by unfold Sm; omega)
        generalize hzz : addP z (stP ((toL s).take k)) = z' at *
        have HN := Lib.hid hn
        have HT := Lib.hid ht
        clear hst hz hs hzz hn ht
        by_cases hlt : k < s.size
        · have HSn := Lib.hid (take_snocB s k hlt)
          have b1 := fun w => run_float_arith (P := Try.prog) w .sub 38 .f32 _ _ _ (neg_bits (a := (stP ((toL s).take k)).1) (by omega))
          have b2 := fun w => run_float_arith (P := Try.prog) w .sub 38 .f32 _ _ _ (neg_bits (a := (stP ((toL s).take k)).2) (by omega))
          change ∀ w, _ = Result.ok (Value.float FloatKind.f32 (px (-(stP ((toL s).take k)).1, 0))) w at b1
          change ∀ w, _ = Result.ok (Value.float FloatKind.f32 (px (-(stP ((toL s).take k)).2, 0))) w at b2
          change ∀ w, (binOp .sub _ _ (.float .f32 (px (stP ((toL s).take k))))).run _ w = _ at b1
          change ∀ w, (binOp .sub _ _ (.float .f32 (py (stP ((toL s).take k))))).run _ w = _ at b2
          by_cases e8 : s[k].toNat = 108
          · have HZ := Lib.hid (show stP ((toL s).take (k + 1)) = (-(stP ((toL s).take k)).2, (stP ((toL s).take k)).1) by rw [HSn.out, stP_snoc, trn_l e8])
            have a1 : ((s[k].toNat : Int) == 108) = true := by simp [e8]
            clear hu e8
            generalize stP ((toL s).take k) = q at *
            go_wp2_with (at_builtin; refine wpList_append_own _ rfl _ _ 23 rfl w.heap.size 27 i0 (.complex .f32 0 0) 1 8 Try.underlying23 hi hz0 hz1 hz2 rfl (by decide) _ _ _ rfl (HO.out.alloc _) ⟨wr.heap.size, 0, none⟩ 1 1 [encP z'] rfl rfl (cells1 _ _ _) (one1 _ rfl) (by unfold maxLen; omega) (by omega) (by have := hB.size; simp; omega) ?_)
            intro v' W3 hown' hgrow _
            have hB3 : Below w.heap.size w W3 := Below.grown (by (first | ((repeat' with_reducible first | assumption | exact Below.refl _ _ | apply Blw.alloc | apply Blw.drew | apply Blw.drewN | (refine Blw.after ?_ (by assumption)) | (refine Blw.set ?_ (by first | (dsimp only; omega) | (simp; omega)) _)); done) | (repeat' (first | assumption | exact Below.refl _ _ | apply Blw.alloc | apply Blw.drew | apply Blw.drewN | (refine Blw.after ?_ (by assumption)) | (refine Blw.set ?_ (by first | (dsimp only; omega) | (simp; done) | (simp; omega)) _))))) hgrow (by have := hB.size; simp; omega) (fun k hk => (HO.out.lt k hk).1)
            have HO3 := Lib.hid hown'
            clear hgrow hown' HO
            go_wp2_with fail
            go_roundg (gk - 1)
            case measure => omega
            case rel => exact ⟨k + 1, z', _, by omega, by go_num, HN.out, rfl, rfl, fun _ => HZ.out.symm, by rw [HT.out, List.map_append, List.map_take]; exact HO3.out, hB3⟩
          · have HZ := Lib.hid (show stP ((toL s).take (k + 1)) = ((stP ((toL s).take k)).2, -(stP ((toL s).take k)).1) by rw [HSn.out, stP_snoc, trn_r e8])
            have a1 : ((s[k].toNat : Int) == 108) = false := by simp; omega
            clear hu e8
            generalize stP ((toL s).take k) = q at *
            go_wp2_with (at_builtin; refine wpList_append_own _ rfl _ _ 23 rfl w.heap.size 27 i0 (.complex .f32 0 0) 1 8 Try.underlying23 hi hz0 hz1 hz2 rfl (by decide) _ _ _ rfl (HO.out.alloc _) ⟨wr.heap.size, 0, none⟩ 1 1 [encP z'] rfl rfl (cells1 _ _ _) (one1 _ rfl) (by unfold maxLen; omega) (by omega) (by have := hB.size; simp; omega) ?_)
            intro v' W3 hown' hgrow _
            have hB3 : Below w.heap.size w W3 := Below.grown (by (first | ((repeat' with_reducible first | assumption | exact Below.refl _ _ | apply Blw.alloc | apply Blw.drew | apply Blw.drewN | (refine Blw.after ?_ (by assumption)) | (refine Blw.set ?_ (by first | (dsimp only; omega) | (simp; omega)) _)); done) | (repeat' (first | assumption | exact Below.refl _ _ | apply Blw.alloc | apply Blw.drew | apply Blw.drewN | (refine Blw.after ?_ (by assumption)) | (refine Blw.set ?_ (by first | (dsimp only; omega) | (simp; done) | (simp; omega)) _))))) hgrow (by have := hB.size; simp; omega) (fun k hk => (HO.out.lt k hk).1)
            have HO3 := Lib.hid hown'
            clear hgrow hown' HO
            go_wp2_with fail
            go_roundg (gk - 1)
            case measure => omega
            case rel => exact ⟨k + 1, z', _, by omega, by go_num, HN.out, rfl, rfl, fun _ => HZ.out.symm, by rw [HT.out, List.map_append, List.map_take]; exact HO3.out, hB3⟩
        · generalize stP ((toL s).take k) = q at *
          clear hu
          go_wp2_with (at_builtin; refine wpList_append_own _ rfl _ _ 23 rfl w.heap.size 27 i0 (.complex .f32 0 0) 1 8 Try.underlying23 hi hz0 hz1 hz2 rfl (by decide) _ _ _ rfl (HO.out.alloc _) ⟨wr.heap.size, 0, none⟩ 1 1 [encP z'] rfl rfl (cells1 _ _ _) (one1 _ rfl) (by unfold maxLen; omega) (by omega) (by have := hB.size; simp; omega) ?_)
          intro v' W3 hown' hgrow _
          have hB3 : Below w.heap.size w W3 := Below.grown (by (first | ((repeat' with_reducible first | assumption | exact Below.refl _ _ | apply Blw.alloc | apply Blw.drew | apply Blw.drewN | (refine Blw.after ?_ (by assumption)) | (refine Blw.set ?_ (by first | (dsimp only; omega) | (simp; omega)) _)); done) | (repeat' (first | assumption | exact Below.refl _ _ | apply Blw.alloc | apply Blw.drew | apply Blw.drewN | (refine Blw.after ?_ (by assumption)) | (refine Blw.set ?_ (by first | (dsimp only; omega) | (simp; done) | (simp; omega)) _))))) hgrow (by have := hB.size; simp; omega) (fun k hk => (HO.out.lt k hk).1)
          have HO3 := Lib.hid hown'
          clear hgrow hown' HO
          go_wp2_with fail
          go_roundg (gk - 1)
          case measure => omega
          case rel => exact ⟨k + 1, z', _, by omega, by go_num, HN.out, rfl, rfl, fun _ => by omega, by rw [HT.out, List.map_append, List.map_take]; exact HO3.out, hB3⟩
      · obtain rfl : k = s.size + 1 := by omega
        have HA := Lib.hid (crv_done HW.out HO.out)
        clear hst hz HO
        go_wp2_with fail
        go_ret2
        exact ⟨_, by rw [HW.out]; rfl, HA.out, hB⟩
  · have HW := Lib.hid h
    go_enter Try.func19, Try.ntmps19
    go_wp2_with (go_at_call 22; refine (l4Word_c _ 1023 _ (by decide)).mono ?_; rintro e w1 ⟨rfl, rfl⟩)
    go_ret2
    exact ⟨_, by rw [HW.out]; rfl, by
      rw [crvA_f HW.out]
      exact World.ownsRow_lit w #[] 0 (Nat.le_refl _) (by unfold maxLen; omega) rfl, by (first | ((repeat' with_reducible first | assumption | exact Below.refl _ _ | apply Blw.alloc | apply Blw.drew | apply Blw.drewN | (refine Blw.after ?_ (by assumption)) | (refine Blw.set ?_ (by first | (dsimp only; omega) | (simp; omega)) _)); done) | (repeat' (first | assumption | exact Below.refl _ _ | apply Blw.alloc | apply Blw.drew | apply Blw.drewN | (refine Blw.after ?_ (by assumption)) | (refine Blw.set ?_ (by first | (dsimp only; omega) | (simp; done) | (simp; omega)) _))))⟩
end Go.Proofs.Ytmdnfamjdogogaa

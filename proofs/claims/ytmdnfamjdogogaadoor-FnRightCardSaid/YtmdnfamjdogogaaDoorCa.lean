/- Chapter 5: CurveOf, of both sides. No law is stated here. -/
import Derived.Test.YtmdnfamjdogogaaDoorCs
import Derived.Test.YtmdnfamjdogogaaDoorWa
import Derived.Test.YtmdnfamjdogogaaDoorBq
namespace Go.Proofs.YtmdnfamjdogogaaDoor
set_option linter.unusedSimpArgs false
set_option linter.unusedVariables false
open Go.RowKit Ieee

theorem quarter_l (w : World) : Calls Tryd.prog 70 #[.int .i32 108] w fun e w' => e = .returned (.complex .f32 0 1065353216) ∧ w = w' := by
  go_enter Tryd.func70, Tryd.ntmps70
  go_wp2
  go_ret
  exact ⟨rfl, rfl⟩
theorem quarter_r (c : Int) (w : World) (h : c ≠ 108) : Calls Tryd.prog 70 #[.int .i32 c] w fun e w' => e = .returned (.complex .f32 0 3212836864) ∧ w = w' := by
  have a1 : (c == 108) = false := by simp [h]
  clear h
  go_enter Tryd.func70, Tryd.ntmps70
  go_wp2
  go_ret
  exact ⟨rfl, rfl⟩
theorem rgt_l {c : UInt8} (h : c.toNat = 108) : rgt c = false := by
  obtain rfl : c = 108 := UInt8.toNat_inj.1 (by rw [h]; rfl)
  rfl
theorem rgt_r {c : UInt8} (h : c.toNat ≠ 108) : rgt c = true := by
  unfold rgt
  simp only [bne_iff_ne, ne_eq]
  intro e; apply h; rw [e]; rfl
def stpsL (l : List UInt8) (k : Nat) : List Value := (List.range k).map fun j => encZ (stZ (l.take j))
theorem stpsL_len (l : List UInt8) (k : Nat) : (stpsL l k).length = k := by simp [stpsL]
theorem stpsL_succ (l : List UInt8) (k : Nat) : stpsL l (k + 1) = stpsL l k ++ [encZ (stZ (l.take k))] := by simp [stpsL, List.range_succ]
theorem stpsL_get (l : List UInt8) {k n : Nat} (h : k < n) : (stpsL l n)[k]? = some (encZ (stZ (l.take k))) := by
  unfold stpsL
  rw [List.getElem?_map, List.getElem?_range h]; rfl
def StRel (s : ByteArray) (w : World) (ib : Nat) (m : Nat) (x v : Value) (wr : World) : Prop :=
  ∃ k : Nat, k + m = s.size ∧ x = encZ (stZ ((toL s).take k)) ∧ wr.heap[ib]? = some (.stringIter s k) ∧ wr.ownsRow w.heap.size 28 1 v (k + 1) (stpsL (toL s) (k + 1)) ∧ Below w.heap.size w wr
set_option maxRecDepth 100000 in
set_option maxHeartbeats 4000000 in
theorem stepsOf_c (s : ByteArray) (w : World) (hs : s.size ≤ 1023) (hw : onlyW s = true) : Calls Tryd.prog 56 #[.string s] w fun e w' => ∃ v, e = .returned v ∧ w'.ownsRow w.heap.size 28 1 v (s.size + 1) (stpsL (toL s) (s.size + 1)) ∧ Below w.heap.size w w' := by
  obtain ⟨i0, hi, hz0, hz1, hz2⟩ := info_parts infoC
  have HW := Lib.hid (show ∀ k (h : k < s.size), s[k].toNat < 128 from fun k h => by
    have := (wdC_iff _).1 (onlyW_all hw _ (List.mem_of_getElem? (toL_get s k h))); omega)
  clear hw
  go_enter Tryd.func56, Tryd.ntmps56
  go_wp2_with fail
  have S0 := Lib.hid (show StRel s w (w.heap.size + 1) s.size (.complex .f32 1065353216 0) (.slice (some ⟨w.heap.size, 0, none⟩) 1 1) ((w.alloc (.cells #[.complex .f32 1065353216 0] 28)).iter s 0) from by
    have h := World.ownsRow_lit (base := w.heap.size) (e := 28) (size := 1) w #[.complex .f32 1065353216 0] 1 (Nat.le_refl _) (by unfold maxLen; omega) rfl
    have hB : Below w.heap.size w (w.alloc (.cells #[.complex .f32 1065353216 0] 28)) := by (first | ((repeat' with_reducible first | assumption | exact Below.refl _ _ | apply Blw.alloc | apply Blw.drew | apply Blw.drewN | (refine Blw.after ?_ (by assumption)) | (refine Blw.set ?_ (by first | (dsimp only; omega) | (simp; omega)) _)); done) | (repeat' (first | assumption | exact Below.refl _ _ | apply Blw.alloc | apply Blw.drew | apply Blw.drewN | (refine Blw.after ?_ (by assumption)) | (refine Blw.set ?_ (by first | (dsimp only; omega) | (simp; done) | (simp; omega)) _))))
    refine ⟨0, by omega, ?_, ?_, ?_, hB.trans ((iter_below _ s 0).mono hB.size)⟩
    · rw [List.take_zero, stZ_nil]; exact encZ10.symm
    · have := World.iter_heap (w.alloc (.cells #[.complex .f32 1065353216 0] 28)) s 0
      rw [alloc_size] at this
      exact this
    · rw [show stpsL (toL s) (0 + 1) = [.complex .f32 1065353216 0] by rw [stpsL_succ, List.take_zero, stZ_nil]; exact congrArg (fun x => [x]) encZ10]
      exact own_iter h s 0)
  go_loopg [3, 4, 6] s.size (fun m x v r wr => StRel s w (w.heap.size + 1) m x v wr)
  case atStart => exact S0.out
  case round =>
    clear S0
    obtain ⟨k, hk, rfl, hit, hown, hB⟩ := hrel
    have LI := iter_lt hit
    by_cases hlt : k < s.size
    · have hnx : ∀ ty, (Instr.next (.pointer (some ⟨w.heap.size + 1, 0, none⟩)) true ty).run Tryd.prog wr = _ := fun ty => Lib.run_next_any_at wr (w.heap.size + 1) s k ty hit hlt
      rw [decode_ascii s k hlt (HW.out k hlt)] at hnx
      have hit2 := Lib.iterAt_heap wr (w.heap.size + 1) s k (k + 1) hit
      have o2 := own_iterX hown hit s (k + 1)
      have B2 := Lib.below_iterAt hB (k := w.heap.size + 1) (by omega) s (k + 1)
      generalize wr.iterAt (w.heap.size + 1) s (k + 1) = W2 at *
      have HIT := Lib.hid hit2
      have HO := Lib.hid o2
      have hq := stZ_in ((toL s).take k)
      have HS := Lib.hid (take_snocB s k hlt)
      have HE := Lib.hid (stpsL_succ (toL s) (k + 1))
      have L2 : w.heap.size + 1 < W2.heap.size := iter_lt hit2
      clear hit hown hit2 o2 hB
      by_cases e8 : s[k].toNat = 108
      · have HZ := Lib.hid (show stZ ((toL s).take (k + 1)) = mulq false (stZ ((toL s).take k)) by rw [HS.out, stZ_snoc, rgt_l e8])
        have f1 := fun w t => run_left (P := Tryd.prog) w t hq
        rw [e8] at hnx
        clear hq
        generalize stZ ((toL s).take k) = q at *
        go_wp2_with (first | (go_at_call 70; refine (quarter_l _).mono ?_; rintro e w1 ⟨rfl, rfl⟩) | (at_builtin; refine wpList_append_own _ rfl _ _ 47 rfl w.heap.size 28 i0 (.complex .f32 0 0) 1 8 Tryd.underlying47 hi hz0 hz1 hz2 rfl (by decide) _ _ _ rfl (HO.out.alloc _) ⟨W2.heap.size, 0, none⟩ 1 1 [encZ (mulq false q)] rfl rfl (cells1 _ _ _) (one1 _ rfl) (by unfold maxLen; omega) (by omega) (by have := B2.size; simp; omega) ?_))
        intro v' W3 hown' hgrow _
        have hB3 : Below w.heap.size w W3 := Below.grown (by (first | ((repeat' with_reducible first | assumption | exact Below.refl _ _ | apply Blw.alloc | apply Blw.drew | apply Blw.drewN | (refine Blw.after ?_ (by assumption)) | (refine Blw.set ?_ (by first | (dsimp only; omega) | (simp; omega)) _)); done) | (repeat' (first | assumption | exact Below.refl _ _ | apply Blw.alloc | apply Blw.drew | apply Blw.drewN | (refine Blw.after ?_ (by assumption)) | (refine Blw.set ?_ (by first | (dsimp only; omega) | (simp; done) | (simp; omega)) _))))) hgrow (by have := B2.size; simp; omega) (fun k hk => (HO.out.lt k hk).1)
        have HO3 := Lib.hid hown'
        have HI3 := Lib.hid (show W3.heap[w.heap.size + 1]? = some (.stringIter s (k + 1)) from (hgrow.block _ (by rw [alloc_size]; omega) (iter_other HO.out HIT.out)).trans (iter_of_below ((Below.refl _ _).alloc (Nat.le_refl _) _) HIT.out))
        clear hgrow hown' HO HIT
        go_wp2_with fail
        go_roundg (gk - 1)
        case measure => omega
        case rel => exact ⟨k + 1, by omega, by rw [HZ.out], HI3.out, by rw [HE.out, HZ.out]; exact HO3.out, hB3⟩
      · have HZ := Lib.hid (show stZ ((toL s).take (k + 1)) = mulq true (stZ ((toL s).take k)) by rw [HS.out, stZ_snoc, rgt_r e8])
        have f1 := fun w t => run_right (P := Tryd.prog) w t hq
        have e9 : ¬ ((s[k].toNat : Int) = 108) := by omega
        generalize hcv : (s[k].toNat : Int) = cv at *
        clear hq hcv
        generalize stZ ((toL s).take k) = q at *
        go_wp2_with (first | (go_at_call 70; refine (quarter_r _ _ e9).mono ?_; rintro e w1 ⟨rfl, rfl⟩) | (at_builtin; refine wpList_append_own _ rfl _ _ 47 rfl w.heap.size 28 i0 (.complex .f32 0 0) 1 8 Tryd.underlying47 hi hz0 hz1 hz2 rfl (by decide) _ _ _ rfl (HO.out.alloc _) ⟨W2.heap.size, 0, none⟩ 1 1 [encZ (mulq true q)] rfl rfl (cells1 _ _ _) (one1 _ rfl) (by unfold maxLen; omega) (by omega) (by have := B2.size; simp; omega) ?_))
        intro v' W3 hown' hgrow _
        have hB3 : Below w.heap.size w W3 := Below.grown (by (first | ((repeat' with_reducible first | assumption | exact Below.refl _ _ | apply Blw.alloc | apply Blw.drew | apply Blw.drewN | (refine Blw.after ?_ (by assumption)) | (refine Blw.set ?_ (by first | (dsimp only; omega) | (simp; omega)) _)); done) | (repeat' (first | assumption | exact Below.refl _ _ | apply Blw.alloc | apply Blw.drew | apply Blw.drewN | (refine Blw.after ?_ (by assumption)) | (refine Blw.set ?_ (by first | (dsimp only; omega) | (simp; done) | (simp; omega)) _))))) hgrow (by have := B2.size; simp; omega) (fun k hk => (HO.out.lt k hk).1)
        have HO3 := Lib.hid hown'
        have HI3 := Lib.hid (show W3.heap[w.heap.size + 1]? = some (.stringIter s (k + 1)) from (hgrow.block _ (by rw [alloc_size]; omega) (iter_other HO.out HIT.out)).trans (iter_of_below ((Below.refl _ _).alloc (Nat.le_refl _) _) HIT.out))
        clear hgrow hown' HO HIT
        go_wp2_with fail
        go_roundg (gk - 1)
        case measure => omega
        case rel => exact ⟨k + 1, by omega, by rw [HZ.out], HI3.out, by rw [HE.out, HZ.out]; exact HO3.out, hB3⟩
    · have hnx : ∀ ty, (Instr.next (.pointer (some ⟨w.heap.size + 1, 0, none⟩)) true ty).run Tryd.prog wr = _ := fun ty => Lib.run_next_end_at wr (w.heap.size + 1) s k ty hit hlt
      obtain rfl : k = s.size := by omega
      have HO := Lib.hid hown
      clear hown hit
      go_wp2_with fail
      go_ret
      exact ⟨_, rfl, HO.out, hB⟩

/-! ### points -/
theorem crv_at {l : List UInt8} {k : Nat} (hl : l.length ≤ 1023) (h : k ≤ l.length) {z : Int × Int} (hz : (crvL l)[k]? = some z) : Sm z ∧ (crvL l)[k + 1]? = some (addP z (stP (l.take k))) ∧ (crvL l).take (k + 2) = (crvL l).take (k + 1) ++ [addP z (stP (l.take k))] := by
  have hm := crvL_in l z (List.mem_of_getElem? hz)
  have e : psP (l.take k) = addP z (stP (l.take k)) := by
    cases k with
    | zero =>
      rw [crvL_zero] at hz
      cases hz
      rw [List.take_zero]; rfl
    | succ k =>
      rw [crvL_succ (by omega)] at hz
      cases hz
      rw [take_snocL (List.getElem?_eq_getElem (show k < l.length by omega)), psP_snoc, stP_snoc]
  refine ⟨?_, by rw [crvL_succ h, e], by rw [crvL_take h, e]⟩
  unfold Sm
  omega
def AlRel (l : List UInt8) (w : World) (m : Nat) (x v i : Value) (wr : World) : Prop :=
  ∃ (k : Nat) (z : Int × Int), k + m = l.length + 1 ∧ i = .int .i64 k ∧ (crvL l)[k]? = some z ∧ x = encP z ∧ wr.ownsRow w.heap.size 28 1 v (k + 1) (((crvL l).take (k + 1)).map encP) ∧ Below w.heap.size w wr
set_option maxRecDepth 100000 in
set_option maxHeartbeats 4000000 in
theorem along_c (l : List UInt8) (a : Option Addr) (c : Nat) (w : World) (hl : l.length ≤ 1023) (h : CSl a (stpsL l (l.length + 1)) w) : Calls Tryd.prog 55 #[.slice a (l.length + 1) c] w fun e w' => ∃ v, e = .returned v ∧ w'.ownsRow w.heap.size 28 1 v (l.length + 2) ((crvL l).map encP) ∧ Below w.heap.size w w' := by
  obtain ⟨i0, hi, hz0, hz1, hz2⟩ := info_parts infoC
  have HC := Lib.hid h
  clear h
  go_enter Tryd.func55, Tryd.ntmps55
  go_wp2_with fail
  have S0 := Lib.hid (show AlRel l w (l.length + 1) (.complex .f32 0 0) (.slice (some ⟨w.heap.size, 0, none⟩) 1 1) (.int .i64 0) (w.alloc (.cells #[.complex .f32 0 0] 28)) from by
    have h := World.ownsRow_lit (base := w.heap.size) (e := 28) (size := 1) w #[.complex .f32 0 0] 1 (Nat.le_refl _) (by unfold maxLen; omega) rfl
    refine ⟨0, (0, 0), by omega, rfl, crvL_zero l, enc00.symm, ?_, by (first | ((repeat' with_reducible first | assumption | exact Below.refl _ _ | apply Blw.alloc | apply Blw.drew | apply Blw.drewN | (refine Blw.after ?_ (by assumption)) | (refine Blw.set ?_ (by first | (dsimp only; omega) | (simp; omega)) _)); done) | (repeat' (first | assumption | exact Below.refl _ _ | apply Blw.alloc | apply Blw.drew | apply Blw.drewN | (refine Blw.after ?_ (by assumption)) | (refine Blw.set ?_ (by first | (dsimp only; omega) | (simp; done) | (simp; omega)) _))))⟩
    rw [show ((crvL l).take (0 + 1)).map encP = [.complex .f32 0 0] by rw [crvL_one]; exact congrArg (fun x => [x]) enc00]
    exact h)
  go_loopg [3, 4, 6, 11] (l.length + 1) (fun m x v r i wr => AlRel l w m x v i wr)
  case atStart => exact S0.out
  case round =>
    clear S0
    obtain ⟨k, z, hk, rfl, hz, rfl, hown, hB⟩ := hrel
    have HO := Lib.hid hown
    clear hown
    by_cases hlt : k < l.length + 1
    · have hcs := HC.out.keep hB
      obtain ⟨g, o, rfl, hc⟩ := hcs.at (k := k) (by rw [stpsL_len]; exact hlt)
      have hg : (stpsL l (l.length + 1))[k]? = _ := stpsL_get l hlt
      rw [List.getElem?_eq_getElem (by rw [stpsL_len]; exact hlt)] at hg
      rw [Option.some.inj hg] at hc
      obtain ⟨hs, hn, ht⟩ := crv_at hl (by omega) hz
      have hv := stZ_val (l.take k)
      have hq := stZ_in (l.take k)
      have f1 := fun w t => run_pstep (P := Tryd.prog) w t hs hq
      rw [hv] at f1
      generalize hzz : addP z (stP (l.take k)) = z' at *
      have HN := Lib.hid hn
      have HT := Lib.hid ht
      have Lg : g < wr.heap.size := World.block_lt_of_cell? wr _ hc
      clear hcs hg hz hs hv hq hzz hn ht
      generalize stZ (l.take k) = q at *
      go_wp2_with (at_builtin; refine wpList_append_own _ rfl _ _ 47 rfl w.heap.size 28 i0 (.complex .f32 0 0) 1 8 Tryd.underlying47 hi hz0 hz1 hz2 rfl (by decide) _ _ _ rfl (HO.out.alloc _) ⟨wr.heap.size, 0, none⟩ 1 1 [encP z'] rfl rfl (cells1 _ _ _) (one1 _ rfl) (by unfold maxLen; omega) (by omega) (by have := hB.size; simp; omega) ?_)
      intro v' W3 hown' hgrow _
      have hB3 : Below w.heap.size w W3 := Below.grown (by (first | ((repeat' with_reducible first | assumption | exact Below.refl _ _ | apply Blw.alloc | apply Blw.drew | apply Blw.drewN | (refine Blw.after ?_ (by assumption)) | (refine Blw.set ?_ (by first | (dsimp only; omega) | (simp; omega)) _)); done) | (repeat' (first | assumption | exact Below.refl _ _ | apply Blw.alloc | apply Blw.drew | apply Blw.drewN | (refine Blw.after ?_ (by assumption)) | (refine Blw.set ?_ (by first | (dsimp only; omega) | (simp; done) | (simp; omega)) _))))) hgrow (by have := hB.size; simp; omega) (fun k hk => (HO.out.lt k hk).1)
      have HO3 := Lib.hid hown'
      clear hgrow hown' HO
      go_wp2_with fail
      go_roundg (gk - 1)
      case measure => omega
      case rel => exact ⟨k + 1, z', by omega, by go_num, HN.out, rfl, by rw [HT.out, List.map_append, List.map_take]; exact HO3.out, hB3⟩
    · obtain rfl : k = l.length + 1 := by omega
      have HE := Lib.hid (crvL_all l)
      clear hz
      go_wp2_with fail
      go_ret
      exact ⟨_, rfl, by rw [← HE.out]; exact HO.out, hB⟩

/-! ### curves -/
def crvA (s : ByteArray) : List (Int × Int) := if wdB 1023 s then crvL (toL s) else []
theorem crvA_t {s : ByteArray} (h : wdB 1023 s = true) : crvA s = crvL (toL s) := by unfold crvA; rw [h]; rfl
theorem crvA_f {s : ByteArray} (h : wdB 1023 s = false) : crvA s = [] := by unfold crvA; rw [h]; rfl
theorem crvA_len {s : ByteArray} (h : wdB 1023 s = true) : (crvA s).length = s.size + 2 := by rw [crvA_t h, crvL_len, toL_len]
def CvPost (s : ByteArray) (w : World) (e : Ending) (w' : World) : Prop := ∃ v, e = .returned (.tuple #[v, .bool (wdB 1023 s)]) ∧ w'.ownsRow w.heap.size 28 1 v (crvA s).length ((crvA s).map encP) ∧ Below w.heap.size w w'
set_option maxRecDepth 100000 in
set_option maxHeartbeats 4000000 in
theorem iCurveOf_c (s : ByteArray) (w : World) : Calls Tryd.prog 39 #[.string s] w (CvPost s w) := by
  rcases Bool.eq_false_or_eq_true (wdB 1023 s) with h | h
  · have HW := Lib.hid h
    have hsz := wdB_len h
    go_enter Tryd.func39, Tryd.ntmps39
    go_wp2_with (go_at_call 54; refine (isWord_c _ _).mono ?_; rintro e w1 ⟨rfl, hb⟩; obtain ⟨hc, hf⟩ := bcell hb; have hz := bsize hb; have hs := hb.size; try simp at hs)
    have hB1 := Lib.hid (show Below w.heap.size w w1 by (first | ((repeat' with_reducible first | assumption | exact Below.refl _ _ | apply Blw.alloc | apply Blw.drew | apply Blw.drewN | (refine Blw.after ?_ (by assumption)) | (refine Blw.set ?_ (by first | (dsimp only; omega) | (simp; omega)) _)); done) | (repeat' (first | assumption | exact Below.refl _ _ | apply Blw.alloc | apply Blw.drew | apply Blw.drewN | (refine Blw.after ?_ (by assumption)) | (refine Blw.set ?_ (by first | (dsimp only; omega) | (simp; done) | (simp; omega)) _)))))
    clear hb hc hf hz hs
    refine (stepsOf_c s w1 hsz (wdB_only HW.out)).mono ?_
    rintro e w2 ⟨v, rfl, ho, hb2⟩
    obtain ⟨a, c, rfl, hcs, -⟩ := own_csl ho
    rw [stpsL_len]
    have HC := Lib.hid (show CSl a (stpsL (toL s) ((toL s).length + 1)) w2 from by rw [toL_len]; exact hcs)
    have HB2 := Lib.hid (hB1.out.trans (hb2.mono hB1.out.size))
    clear ho hcs hb2
    go_wp2_with fail
    have HA := along_c (toL s) a c w2 (by rw [toL_len]; exact hsz) HC.out
    rw [toL_len] at HA
    refine HA.mono ?_
    rintro e w3 ⟨v, rfl, ho, hb3⟩
    have HO := Lib.hid (show w3.ownsRow w.heap.size 28 1 v (crvA s).length ((crvA s).map encP) from by
      rw [crvA_len HW.out, crvA_t HW.out]; exact ownsRow_low HB2.out.size ho)
    have HB3 := Lib.hid (HB2.out.trans (hb3.mono HB2.out.size))
    clear ho hb3
    go_wp2_with fail
    go_ret2
    exact ⟨v, by rw [HW.out]; rfl, HO.out, HB3.out⟩
  · have HW := Lib.hid h
    go_enter Tryd.func39, Tryd.ntmps39
    go_wp2_with (go_at_call 54; refine (isWord_c _ _).mono ?_; rintro e w1 ⟨rfl, hb⟩; obtain ⟨hc, hf⟩ := bcell hb; have hz := bsize hb; have hs := hb.size; try simp at hs)
    have hB1 := Lib.hid (show Below w.heap.size w w1 by (first | ((repeat' with_reducible first | assumption | exact Below.refl _ _ | apply Blw.alloc | apply Blw.drew | apply Blw.drewN | (refine Blw.after ?_ (by assumption)) | (refine Blw.set ?_ (by first | (dsimp only; omega) | (simp; omega)) _)); done) | (repeat' (first | assumption | exact Below.refl _ _ | apply Blw.alloc | apply Blw.drew | apply Blw.drewN | (refine Blw.after ?_ (by assumption)) | (refine Blw.set ?_ (by first | (dsimp only; omega) | (simp; done) | (simp; omega)) _)))))
    clear hb hc hf hz hs
    go_ret2
    exact ⟨_, by rw [HW.out]; rfl, by rw [crvA_f HW.out]; exact World.ownsRow_nil _ _ _ _, hB1.out⟩

def ScRel (s : ByteArray) (w : World) (m : Nat) (x st v i : Value) (wr : World) : Prop :=
  ∃ (k : Nat) (z q : Int × Int), k + m = s.size + 1 ∧ i = .int .i64 k ∧ (crvL (toL s))[k]? = some z ∧ x = encP z ∧ st = encP q ∧ (k ≤ s.size → q = stP ((toL s).take k)) ∧ wr.ownsRow w.heap.size 28 1 v (k + 1) (((crvL (toL s)).take (k + 1)).map encP) ∧ Below w.heap.size w wr
theorem crv_done {s : ByteArray} {w : World} {B : Nat} {v : Value} (h : wdB 1023 s = true) (ho : w.ownsRow B 28 1 v (s.size + 1 + 1) (((crvL (toL s)).take (s.size + 1 + 1)).map encP)) : w.ownsRow B 28 1 v (crvA s).length ((crvA s).map encP) := by
  have e := crvL_all (toL s)
  rw [toL_len] at e
  rw [crvA_len h, crvA_t h, ← e]; exact ho
theorem trn_l {c : UInt8} (h : c.toNat = 108) (z : Int × Int) : trn c z = (-z.2, z.1) := by
  obtain rfl : c = 108 := UInt8.toNat_inj.1 (by rw [h]; rfl)
  rfl
theorem trn_r {c : UInt8} (h : c.toNat ≠ 108) (z : Int × Int) : trn c z = (z.2, -z.1) := by
  unfold trn; rw [if_neg (fun e => h (by rw [e]; rfl))]
set_option maxRecDepth 100000 in
set_option maxHeartbeats 4000000 in
theorem sCurveOf_c (s : ByteArray) (w : World) : Calls Tryd.prog 42 #[.string s] w (CvPost s w) := by
  obtain ⟨i0, hi, hz0, hz1, hz2⟩ := info_parts infoC
  rcases Bool.eq_false_or_eq_true (wdB 1023 s) with h | h
  · have HW := Lib.hid h
    have hsz := wdB_len h
    go_enter Tryd.func42, Tryd.ntmps42
    go_wp2_with (go_at_call 27; refine (l4Word_c _ 1023 _ (by decide)).mono ?_; rintro e w1 ⟨rfl, rfl⟩)
    clear h
    have S0 := Lib.hid (show ScRel s w (s.size + 1) (.complex .f32 0 0) (.complex .f32 1065353216 0) (.slice (some ⟨w.heap.size, 0, none⟩) 1 1) (.int .i64 0) (w.alloc (.cells #[.complex .f32 0 0] 28)) from by
      have h := World.ownsRow_lit (base := w.heap.size) (e := 28) (size := 1) w #[.complex .f32 0 0] 1 (Nat.le_refl _) (by unfold maxLen; omega) rfl
      refine ⟨0, (0, 0), (1, 0), by omega, rfl, crvL_zero _, enc00.symm, enc10.symm, fun _ => by rw [List.take_zero]; rfl, ?_, by (first | ((repeat' with_reducible first | assumption | exact Below.refl _ _ | apply Blw.alloc | apply Blw.drew | apply Blw.drewN | (refine Blw.after ?_ (by assumption)) | (refine Blw.set ?_ (by first | (dsimp only; omega) | (simp; omega)) _)); done) | (repeat' (first | assumption | exact Below.refl _ _ | apply Blw.alloc | apply Blw.drew | apply Blw.drewN | (refine Blw.after ?_ (by assumption)) | (refine Blw.set ?_ (by first | (dsimp only; omega) | (simp; done) | (simp; omega)) _))))⟩
      rw [show ((crvL (toL s)).take (0 + 1)).map encP = [.complex .f32 0 0] by rw [crvL_one]; exact congrArg (fun x => [x]) enc00]
      exact h)
    go_loopg [4, 5, 6, 7] (s.size + 1) (fun m x st v i wr => ScRel s w m x st v i wr)
    case atStart => exact S0.out
    case round =>
      clear S0
      obtain ⟨k, z, q, hk, rfl, hz, rfl, rfl, hst, hown, hB⟩ := hrel
      have HO := Lib.hid hown
      clear hown
      by_cases hle : k ≤ s.size
      · obtain rfl := hst hle
        obtain ⟨hs, hn, ht⟩ := crv_at (l := toL s) (by rw [toL_len]; exact hsz) (by rw [toL_len]; exact hle) hz
        have hu := stP_unit ((toL s).take k)
        have f1 := fun w t => run_padd (P := Tryd.prog) w t hs (show Sm (stP ((toL s).take k)) by unfold Sm; omega)
        generalize hzz : addP z (stP ((toL s).take k)) = z' at *
        have HN := Lib.hid hn
        have HT := Lib.hid ht
        clear hst hz hs hzz hn ht
        by_cases hlt : k < s.size
        · have HSn := Lib.hid (take_snocB s k hlt)
          have b1 := fun w => run_float_arith (P := Tryd.prog) w .sub 22 .f32 _ _ _ (neg_bits (a := (stP ((toL s).take k)).1) (by omega))
          have b2 := fun w => run_float_arith (P := Tryd.prog) w .sub 22 .f32 _ _ _ (neg_bits (a := (stP ((toL s).take k)).2) (by omega))
          change ∀ w, _ = Result.ok (Value.float FloatKind.f32 (px (-(stP ((toL s).take k)).1, 0))) w at b1
          change ∀ w, _ = Result.ok (Value.float FloatKind.f32 (px (-(stP ((toL s).take k)).2, 0))) w at b2
          change ∀ w, (binOp .sub _ _ (.float .f32 (px (stP ((toL s).take k))))).run _ w = _ at b1
          change ∀ w, (binOp .sub _ _ (.float .f32 (py (stP ((toL s).take k))))).run _ w = _ at b2
          by_cases e8 : s[k].toNat = 108
          · have HZ := Lib.hid (show stP ((toL s).take (k + 1)) = (-(stP ((toL s).take k)).2, (stP ((toL s).take k)).1) by rw [HSn.out, stP_snoc, trn_l e8])
            have a1 : ((s[k].toNat : Int) == 108) = true := by simp [e8]
            clear hu e8
            generalize stP ((toL s).take k) = q at *
            go_wp2_with (at_builtin; refine wpList_append_own _ rfl _ _ 47 rfl w.heap.size 28 i0 (.complex .f32 0 0) 1 8 Tryd.underlying47 hi hz0 hz1 hz2 rfl (by decide) _ _ _ rfl (HO.out.alloc _) ⟨wr.heap.size, 0, none⟩ 1 1 [encP z'] rfl rfl (cells1 _ _ _) (one1 _ rfl) (by unfold maxLen; omega) (by omega) (by have := hB.size; simp; omega) ?_)
            intro v' W3 hown' hgrow _
            have hB3 : Below w.heap.size w W3 := Below.grown (by (first | ((repeat' with_reducible first | assumption | exact Below.refl _ _ | apply Blw.alloc | apply Blw.drew | apply Blw.drewN | (refine Blw.after ?_ (by assumption)) | (refine Blw.set ?_ (by first | (dsimp only; omega) | (simp; omega)) _)); done) | (repeat' (first | assumption | exact Below.refl _ _ | apply Blw.alloc | apply Blw.drew | apply Blw.drewN | (refine Blw.after ?_ (by assumption)) | (refine Blw.set ?_ (by first | (dsimp only; omega) | (simp; done) | (simp; omega)) _))))) hgrow (by have := hB.size; simp; omega) (fun k hk => (HO.out.lt k hk).1)
            have HO3 := Lib.hid hown'
            clear hgrow hown' HO
            go_wp2_with fail
            go_roundg (gk - 1)
            case measure => omega
            case rel => exact ⟨k + 1, z', _, by omega, by go_num, HN.out, rfl, rfl, fun _ => HZ.out.symm, by rw [HT.out, List.map_append, List.map_take]; exact HO3.out, hB3⟩
          · have HZ := Lib.hid (show stP ((toL s).take (k + 1)) = ((stP ((toL s).take k)).2, -(stP ((toL s).take k)).1) by rw [HSn.out, stP_snoc, trn_r e8])
            have a1 : ((s[k].toNat : Int) == 108) = false := by simp; omega
            clear hu e8
            generalize stP ((toL s).take k) = q at *
            go_wp2_with (at_builtin; refine wpList_append_own _ rfl _ _ 47 rfl w.heap.size 28 i0 (.complex .f32 0 0) 1 8 Tryd.underlying47 hi hz0 hz1 hz2 rfl (by decide) _ _ _ rfl (HO.out.alloc _) ⟨wr.heap.size, 0, none⟩ 1 1 [encP z'] rfl rfl (cells1 _ _ _) (one1 _ rfl) (by unfold maxLen; omega) (by omega) (by have := hB.size; simp; omega) ?_)
            intro v' W3 hown' hgrow _
            have hB3 : Below w.heap.size w W3 := Below.grown (by (first | ((repeat' with_reducible first | assumption | exact Below.refl _ _ | apply Blw.alloc | apply Blw.drew | apply Blw.drewN | (refine Blw.after ?_ (by assumption)) | (refine Blw.set ?_ (by first | (dsimp only; omega) | (simp; omega)) _)); done) | (repeat' (first | assumption | exact Below.refl _ _ | apply Blw.alloc | apply Blw.drew | apply Blw.drewN | (refine Blw.after ?_ (by assumption)) | (refine Blw.set ?_ (by first | (dsimp only; omega) | (simp; done) | (simp; omega)) _))))) hgrow (by have := hB.size; simp; omega) (fun k hk => (HO.out.lt k hk).1)
            have HO3 := Lib.hid hown'
            clear hgrow hown' HO
            go_wp2_with fail
            go_roundg (gk - 1)
            case measure => omega
            case rel => exact ⟨k + 1, z', _, by omega, by go_num, HN.out, rfl, rfl, fun _ => HZ.out.symm, by rw [HT.out, List.map_append, List.map_take]; exact HO3.out, hB3⟩
        · generalize stP ((toL s).take k) = q at *
          clear hu
          go_wp2_with (at_builtin; refine wpList_append_own _ rfl _ _ 47 rfl w.heap.size 28 i0 (.complex .f32 0 0) 1 8 Tryd.underlying47 hi hz0 hz1 hz2 rfl (by decide) _ _ _ rfl (HO.out.alloc _) ⟨wr.heap.size, 0, none⟩ 1 1 [encP z'] rfl rfl (cells1 _ _ _) (one1 _ rfl) (by unfold maxLen; omega) (by omega) (by have := hB.size; simp; omega) ?_)
          intro v' W3 hown' hgrow _
          have hB3 : Below w.heap.size w W3 := Below.grown (by (first | ((repeat' with_reducible first | assumption | exact Below.refl _ _ | apply Blw.alloc | apply Blw.drew | apply Blw.drewN | (refine Blw.after ?_ (by assumption)) | (refine Blw.set ?_ (by first | (dsimp only; omega) | (simp; omega)) _)); done) | (repeat' (first | assumption | exact Below.refl _ _ | apply Blw.alloc | apply Blw.drew | apply Blw.drewN | (refine Blw.after ?_ (by assumption)) | (refine Blw.set ?_ (by first | (dsimp only; omega) | (simp; done) | (simp; omega)) _))))) hgrow (by have := hB.size; simp; omega) (fun k hk => (HO.out.lt k hk).1)
          have HO3 := Lib.hid hown'
          clear hgrow hown' HO
          go_wp2_with fail
          go_roundg (gk - 1)
          case measure => omega
          case rel => exact ⟨k + 1, z', _, by omega, by go_num, HN.out, rfl, rfl, fun _ => by omega, by rw [HT.out, List.map_append, List.map_take]; exact HO3.out, hB3⟩
      · obtain rfl : k = s.size + 1 := by omega
        have HA := Lib.hid (crv_done HW.out HO.out)
        clear hst hz HO
        go_wp2_with fail
        go_ret2
        exact ⟨_, by rw [HW.out]; rfl, HA.out, hB⟩
  · have HW := Lib.hid h
    go_enter Tryd.func42, Tryd.ntmps42
    go_wp2_with (go_at_call 27; refine (l4Word_c _ 1023 _ (by decide)).mono ?_; rintro e w1 ⟨rfl, rfl⟩)
    go_ret2
    exact ⟨_, by rw [HW.out]; rfl, by
      rw [crvA_f HW.out]
      exact World.ownsRow_lit w #[] 0 (Nat.le_refl _) (by unfold maxLen; omega) rfl, by (first | ((repeat' with_reducible first | assumption | exact Below.refl _ _ | apply Blw.alloc | apply Blw.drew | apply Blw.drewN | (refine Blw.after ?_ (by assumption)) | (refine Blw.set ?_ (by first | (dsimp only; omega) | (simp; omega)) _)); done) | (repeat' (first | assumption | exact Below.refl _ _ | apply Blw.alloc | apply Blw.drew | apply Blw.drewN | (refine Blw.after ?_ (by assumption)) | (refine Blw.set ?_ (by first | (dsimp only; omega) | (simp; done) | (simp; omega)) _))))⟩
end Go.Proofs.YtmdnfamjdogogaaDoor

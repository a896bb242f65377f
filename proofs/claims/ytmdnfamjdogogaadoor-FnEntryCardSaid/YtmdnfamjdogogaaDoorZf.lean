/- Chapter 7: entries made by the specification, and entries drawn. No law is stated here. -/
import Derived.Test.YtmdnfamjdogogaaDoorZe
import Derived.StillTailTactics
import Derived.Deep.DeepCutAuto
import Derived.Deep.Cut
import Derived.RegionCalls
import Derived.Deep.RegionHeld
namespace Go.Proofs.YtmdnfamjdogogaaDoor
set_option linter.unusedSimpArgs false
set_option linter.unusedVariables false
open Go.RowKit Ieee

/-- a box with an entry, that may be written -/
def BxE (b : Nat) (s : ByteArray) (p : Nat × Nat) (n : Nat) (w : World) : Prop :=
  b < w.heap.size ∧ w.cell? ⟨b, 0, none⟩ = some (.string s) ∧ w.cell? ⟨b, 1, none⟩ = some (encW p) ∧ w.cell? ⟨b, 2, none⟩ = some (.int .u32 (n : Nat)) ∧ w.frozen? ⟨b, 0, none⟩ = false ∧ w.frozen? ⟨b, 1, none⟩ = false ∧ w.frozen? ⟨b, 2, none⟩ = false
theorem BxE.keep {b : Nat} {s : ByteArray} {p : Nat × Nat} {n : Nat} {w w' : World} (h : BxE b s p n w) (hb : Below w.heap.size w w') : BxE b s p n w' := by
  obtain ⟨h0, h1, h2, h3, h4, h5, h6⟩ := h
  exact ⟨Nat.lt_of_lt_of_le h0 hb.size, keepcell hb h1, keepcell hb h2, keepcell hb h3, ((bcell hb).2 _ _ h0).trans h4, ((bcell hb).2 _ _ h0).trans h5, ((bcell hb).2 _ _ h0).trans h6⟩
theorem BxE.moved {b rb : Nat} {s : ByteArray} {p : Nat × Nat} {n : Nat} {w w' : World} (h : BxE b s p n w) (m : Moved rb w w') (hn : b ≠ rb) : BxE b s p n w' := by
  obtain ⟨h0, h1, h2, h3, h4, h5, h6⟩ := h
  exact ⟨Nat.lt_of_lt_of_le h0 m.1, m.cell h0 hn h1, m.cell h0 hn h2, m.cell h0 hn h3, m.froz h0 hn h4, m.froz h0 hn h5, m.froz h0 hn h6⟩
theorem BxE.new (s : ByteArray) (p : Nat × Nat) (n : Nat) (w : World) (t : TypeId) : BxE w.heap.size s p n (w.alloc (.cells #[.string s, encW p, .int .u32 (n : Nat)] t)) := by
  refine ⟨by rw [alloc_size]; omega, by go_simp, by go_simp, by go_simp, by go_simp, by go_simp, by go_simp⟩
theorem nil_sz {s : ByteArray} (h : s.size = 0) : s = ⟨#[]⟩ := by
  apply toL_ext
  have : (toL s).length = 0 := by rw [toL_len]; exact h
  rw [List.eq_nil_of_length_eq_zero this]; first | done | rfl
theorem ne_nil_sz {s : ByteArray} (h : s.size ≠ 0) : s ≠ ⟨#[]⟩ := by rintro rfl; exact h rfl
def emV (s : ByteArray) (p : Nat × Nat) : Value := if okE s p then .tuple #[encE s p (sumN (ptsE s p)), .bool true] else .tuple #[encE ⟨#[]⟩ (0, 0) 0, .bool false]
theorem emV_t {s : ByteArray} {p : Nat × Nat} (h : okE s p = true) : emV s p = .tuple #[encE s p (sumN (ptsE s p)), .bool true] := by unfold emV; rw [h]; rfl
theorem emV_f {s : ByteArray} {p : Nat × Nat} (h : okE s p = false) : emV s p = .tuple #[encE ⟨#[]⟩ (0, 0) 0, .bool false] := by unfold emV; rw [h]; rfl
theorem okE_w {s : ByteArray} (p : Nat × Nat) (h : wdB 10 s = false) : okE s p = false := by unfold okE; rw [h]; rfl
theorem okE_0 {s : ByteArray} (p : Nat × Nat) (h : s.size = 0) : okE s p = false := by unfold okE; rw [decide_eq_false (by omega), Bool.false_and, Bool.and_false]
theorem okE_n {s : ByteArray} {p : Nat × Nat} (h : eqW p p = false) : okE s p = false := by unfold okE; rw [h, Bool.and_false, Bool.and_false]
theorem okE_t {s : ByteArray} {p : Nat × Nat} (h : wdB 10 s = true) (h1 : s.size ≠ 0) (h2 : eqW p p = true) : okE s p = true := by unfold okE; rw [h, decide_eq_true h1, h2]; rfl
theorem okE_iff {s : ByteArray} {p : Nat × Nat} (h : okE s p = true) : wdB 10 s = true ∧ s.size ≠ 0 ∧ eqW p p = true := by
  unfold okE at h
  simp only [Bool.and_eq_true, decide_eq_true_eq] at h
  exact ⟨h.1, h.2.1, h.2.2⟩
set_option maxRecDepth 100000 in
set_option maxHeartbeats 4000000 in
theorem sEntryMake_c (s : ByteArray) (p : Nat × Nat) (w : World) (hp : W32 p) : Calls Tryd.prog 12 #[.string s, encW p] w fun e w' => e = .returned (emV s p) ∧ Below w.heap.size w w' := by
  have fne := fun w t => run_wne (P := Tryd.prog) w t p p
  have fst := fun W a x y m => run_store Tryd.prog W a (.complex .f32 x y) m rfl
  rcases Bool.eq_false_or_eq_true (wdB 10 s) with hw | hw
  · by_cases h0 : s.size = 0
    · have HV := Lib.hid (emV_f (okE_0 p h0))
      obtain rfl := nil_sz h0
      clear h0
      go_enter Tryd.func12, Tryd.ntmps12
      go_wp2_with (go_at_call 27; refine (l4Word_c _ 10 _ (by decide)).mono ?_; rintro e w1 ⟨rfl, rfl⟩)
      rw [HV.out]
      exact bodyPost_ret (v := .tuple #[encE ⟨#[]⟩ (0, 0) 0, .bool false]) (by simp [results, Tryd.results12, go_sem, *]) rfl ⟨rfl, by (first | ((repeat' with_reducible first | assumption | exact Below.refl _ _ | apply Blw.alloc | apply Blw.drew | apply Blw.drewN | (refine Blw.after ?_ (by assumption)) | (refine Blw.set ?_ (by first | (dsimp only; omega) | (simp; omega)) _)); done) | (repeat' (first | assumption | exact Below.refl _ _ | apply Blw.alloc | apply Blw.drew | apply Blw.drewN | (refine Blw.after ?_ (by assumption)) | (refine Blw.set ?_ (by first | (dsimp only; omega) | (simp; done) | (simp; omega)) _))))⟩
    · have hne : s.toList.isEmpty = false := by
        rw [toList_toL]
        cases hh : toL s with
        | nil => exact absurd (by rw [← toL_len, hh]; rfl) h0
        | cons a l => rfl
      rcases Bool.eq_false_or_eq_true (eqW p p) with he | he
      · have hn := nn_of_eq hp he
        have HV := Lib.hid (emV_t (okE_t hw h0 he))
        have HL := Lib.hid (ptsE_le s p)
        have HN := Lib.hid (fun q hq => (ptsE_nn (s := s) hn q hq).w)
        clear h0
        go_enter Tryd.func12, Tryd.ntmps12
        go_wp2_with (go_at_call 27; refine (l4Word_c _ 10 _ (by decide)).mono ?_; rintro e w1 ⟨rfl, rfl⟩)
        generalize hW : World.alloc _ _ = W0
        have hB0 : Below w.heap.size w W0 := by rw [← hW]; (first | ((repeat' with_reducible first | assumption | exact Below.refl _ _ | apply Blw.alloc | apply Blw.drew | apply Blw.drewN | (refine Blw.after ?_ (by assumption)) | (refine Blw.set ?_ (by first | (dsimp only; omega) | (simp; omega)) _)); done) | (repeat' (first | assumption | exact Below.refl _ _ | apply Blw.alloc | apply Blw.drew | apply Blw.drewN | (refine Blw.after ?_ (by assumption)) | (refine Blw.set ?_ (by first | (dsimp only; omega) | (simp; done) | (simp; omega)) _))))
        have N0 : BxE w.heap.size ⟨#[]⟩ (0, 0) 0 W0 := by rw [← hW]; exact BxE.new _ _ _ _ _
        clear hW
        have HB0 := Lib.hid hB0
        clear hB0
        go_wp2_with fail
        refine (sl7Moved_c s p W0 hn).mono ?_
        rintro e W1 ⟨v, rfl, ho, hb1⟩
        obtain ⟨a1, c1, rfl, hcs, -⟩ := own_csl ho
        rw [List.length_map]
        have N1 := N0.keep hb1
        have HB1 := Lib.hid (Blw.after HB0.out hb1)
        clear N0 ho hb1 HB0
        generalize ptsE s p = E at *
        go_wp2_with fail
        refine (sSumPoints_c a1 c1 E W1 (by have := HL.out; omega) HN.out hcs).mono ?_
        rintro e w1 ⟨rfl, rfl⟩
        obtain ⟨z0, d0, d1, d2, f0, f1, f2⟩ := N1
        have HBB := Lib.hid HB1.out
        clear hcs HL HN fne HB1
        go_wp2_with fail
        rw [HV.out]
        have hB : Below w.heap.size w W1 := HBB.out
        exact bodyPost_ret (v := .tuple #[encE s p (sumN E), .bool true]) (by simp [results, Tryd.results12, go_sem, *]) rfl ⟨rfl, by (first | ((repeat' with_reducible first | assumption | exact Below.refl _ _ | apply Blw.alloc | apply Blw.drew | apply Blw.drewN | (refine Blw.after ?_ (by assumption)) | (refine Blw.set ?_ (by first | (dsimp only; omega) | (simp; omega)) _)); done) | (repeat' (first | assumption | exact Below.refl _ _ | apply Blw.alloc | apply Blw.drew | apply Blw.drewN | (refine Blw.after ?_ (by assumption)) | (refine Blw.set ?_ (by first | (dsimp only; omega) | (simp; done) | (simp; omega)) _))))⟩
      · have HV := Lib.hid (emV_f (okE_n (s := s) he))
        clear h0
        go_enter Tryd.func12, Tryd.ntmps12
        go_wp2_with (go_at_call 27; refine (l4Word_c _ 10 _ (by decide)).mono ?_; rintro e w1 ⟨rfl, rfl⟩)
        rw [HV.out]
        exact bodyPost_ret (v := .tuple #[encE ⟨#[]⟩ (0, 0) 0, .bool false]) (by simp [results, Tryd.results12, go_sem, *]) rfl ⟨rfl, by (first | ((repeat' with_reducible first | assumption | exact Below.refl _ _ | apply Blw.alloc | apply Blw.drew | apply Blw.drewN | (refine Blw.after ?_ (by assumption)) | (refine Blw.set ?_ (by first | (dsimp only; omega) | (simp; omega)) _)); done) | (repeat' (first | assumption | exact Below.refl _ _ | apply Blw.alloc | apply Blw.drew | apply Blw.drewN | (refine Blw.after ?_ (by assumption)) | (refine Blw.set ?_ (by first | (dsimp only; omega) | (simp; done) | (simp; omega)) _))))⟩
  · have HV := Lib.hid (emV_f (okE_w p hw))
    go_enter Tryd.func12, Tryd.ntmps12
    go_wp2_with (go_at_call 27; refine (l4Word_c _ 10 _ (by decide)).mono ?_; rintro e w1 ⟨rfl, rfl⟩)
    rw [HV.out]
    exact bodyPost_ret (v := .tuple #[encE ⟨#[]⟩ (0, 0) 0, .bool false]) (by simp [results, Tryd.results12, go_sem, *]) rfl ⟨rfl, by (first | ((repeat' with_reducible first | assumption | exact Below.refl _ _ | apply Blw.alloc | apply Blw.drew | apply Blw.drewN | (refine Blw.after ?_ (by assumption)) | (refine Blw.set ?_ (by first | (dsimp only; omega) | (simp; omega)) _)); done) | (repeat' (first | assumption | exact Below.refl _ _ | apply Blw.alloc | apply Blw.drew | apply Blw.drewN | (refine Blw.after ?_ (by assumption)) | (refine Blw.set ?_ (by first | (dsimp only; omega) | (simp; done) | (simp; omega)) _))))⟩
end Go.Proofs.YtmdnfamjdogogaaDoor

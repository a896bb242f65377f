/- Chapter 7: entries made and checked, of both sides. No law is stated here. -/
import Derived.Test.YtmdnfamjdogogaaDoorZi
import Derived.Test.YtmdnfamjdogogaaDoorBq
import Derived.Deep.Cut
namespace Go.Proofs.YtmdnfamjdogogaaDoor
set_option linter.unusedSimpArgs false
set_option linter.unusedVariables false
open Go.RowKit Ieee

theorem ptsI_le (s : ByteArray) (p : Nat × Nat) : (ptsI s p).length ≤ 1025 := by
  rcases Bool.eq_false_or_eq_true (okE s p) with h | h
  · rw [ptsI_t h]; exact ptsE_le _ _
  · rw [ptsI_f h]; simp
theorem ptsI_w {s : ByteArray} {p : Nat × Nat} (hp : W32 p) : ∀ q ∈ ptsI s p, W32 q := by
  rcases Bool.eq_false_or_eq_true (okE s p) with h | h
  · rw [ptsI_t h]; exact fun q hq => (ptsE_nn (nn_of_eq hp (okE_iff h).2.2) q hq).w
  · rw [ptsI_f h]; intro q hq; cases hq
set_option maxRecDepth 100000 in
set_option maxHeartbeats 4000000 in
theorem iEntryMake_c (s : ByteArray) (p : Nat × Nat) (w : World) (hp : W32 p) (hT : Tz w) : Calls Tryd.prog 11 #[.string s, encW p] w fun e w' => e = .returned (emV s p) ∧ Below w.heap.size w w' := by
  have fst := fun W a x y m => run_store Tryd.prog W a (.complex .f32 x y) m rfl
  have hpos := hT.pos
  have HT := Lib.hid hT
  clear hT
  go_enter Tryd.func11, Tryd.ntmps11
  go_wp2_with fail
  generalize hW : World.alloc _ _ = W0
  have N0 := Lib.hid (show BxE w.heap.size ⟨#[]⟩ (0, 0) 0 W0 by rw [← hW]; exact BxE.new _ _ _ _ _)
  have hB0 : Below w.heap.size w W0 := by rw [← hW]; (first | ((repeat' with_reducible first | assumption | exact Below.refl _ _ | apply Blw.alloc | apply Blw.drew | apply Blw.drewN | (refine Blw.after ?_ (by assumption)) | (refine Blw.set ?_ (by first | (dsimp only; omega) | (simp; omega)) _)); done) | (repeat' (first | assumption | exact Below.refl _ _ | apply Blw.alloc | apply Blw.drew | apply Blw.drewN | (refine Blw.after ?_ (by assumption)) | (refine Blw.set ?_ (by first | (dsimp only; omega) | (simp; done) | (simp; omega)) _))))
  have HT0 := Lib.hid (HT.out.keep hpos hB0)
  have HB0 := Lib.hid hB0
  clear hW hB0 HT hpos
  go_wp2_with fail
  refine (movedCurve_c s p W0 hp HT0.out).mono ?_
  rintro e W1 ⟨v, rfl, ho, hb1⟩
  obtain ⟨a1, c1, rfl, hcs, -⟩ := own_csl ho
  rw [List.length_map]
  have N1 := Lib.hid (N0.out.keep hb1)
  have HB1 := Lib.hid (Blw.after HB0.out hb1)
  have HS := Lib.hid (iSumPoints_c a1 c1 (ptsI s p) W1 (by have := ptsI_le s p; omega) (ptsI_w hp) hcs)
  clear ho hcs hb1 HB0 N0 HT0
  obtain ⟨z0, d0, d1, d2, f0, f1, f2⟩ := N1.out
  rcases Bool.eq_false_or_eq_true (okE s p) with hok | hok
  · have HV := Lib.hid (emV_t hok)
    rw [ptsI_t hok] at *
    rw [hok]
    clear hok
    generalize ptsE s p = E at *
    go_wp2_with fail
    refine HS.out.mono ?_
    rintro e w1 ⟨rfl, rfl⟩
    go_wp2_with fail
    rw [HV.out]
    have hB : Below w.heap.size w W1 := HB1.out
    exact bodyPost_ret (v := .tuple #[encE s p (sumN E), .bool true]) (by simp [results, Tryd.results11, go_sem, *]) rfl ⟨rfl, by (first | ((repeat' with_reducible first | assumption | exact Below.refl _ _ | apply Blw.alloc | apply Blw.drew | apply Blw.drewN | (refine Blw.after ?_ (by assumption)) | (refine Blw.set ?_ (by first | (dsimp only; omega) | (simp; omega)) _)); done) | (repeat' (first | assumption | exact Below.refl _ _ | apply Blw.alloc | apply Blw.drew | apply Blw.drewN | (refine Blw.after ?_ (by assumption)) | (refine Blw.set ?_ (by first | (dsimp only; omega) | (simp; done) | (simp; omega)) _))))⟩
  · have HV := Lib.hid (emV_f hok)
    rw [ptsI_f hok] at *
    rw [hok]
    clear hok
    go_wp2_with fail
    rw [HV.out]
    have hB : Below w.heap.size w W1 := HB1.out
    exact bodyPost_ret (v := .tuple #[encE ⟨#[]⟩ (0, 0) 0, .bool false]) (by simp [results, Tryd.results11, go_sem, *]) rfl ⟨rfl, by (first | ((repeat' with_reducible first | assumption | exact Below.refl _ _ | apply Blw.alloc | apply Blw.drew | apply Blw.drewN | (refine Blw.after ?_ (by assumption)) | (refine Blw.set ?_ (by first | (dsimp only; omega) | (simp; omega)) _)); done) | (repeat' (first | assumption | exact Below.refl _ _ | apply Blw.alloc | apply Blw.drew | apply Blw.drewN | (refine Blw.after ?_ (by assumption)) | (refine Blw.set ?_ (by first | (dsimp only; omega) | (simp; done) | (simp; omega)) _))))⟩
/-- an entry that is right -/
def rtE (s : ByteArray) (p : Nat × Nat) (n : Nat) : Bool := okE s p && decide (sumN (ptsE s p) = n)
theorem rtE_f {s : ByteArray} {p : Nat × Nat} {n : Nat} (h : okE s p = false) : rtE s p n = false := by unfold rtE; rw [h]; rfl
theorem rtE_n {s : ByteArray} {p : Nat × Nat} {n : Nat} (h : ¬ sumN (ptsE s p) = n) : rtE s p n = false := by unfold rtE; rw [decide_eq_false h, Bool.and_false]
theorem rtE_t {s : ByteArray} {p : Nat × Nat} {n : Nat} (h : okE s p = true) (h2 : sumN (ptsE s p) = n) : rtE s p n = true := by unfold rtE; rw [h, decide_eq_true h2]; rfl
theorem rtE_iff {s : ByteArray} {p : Nat × Nat} {n : Nat} (h : rtE s p n = true) : okE s p = true ∧ sumN (ptsE s p) = n := by
  unfold rtE at h
  simp only [Bool.and_eq_true, decide_eq_true_eq] at h
  exact h
def RcPost (s : ByteArray) (p : Nat × Nat) (n : Nat) (w : World) (e : Ending) (w' : World) : Prop :=
  ∃ v, e = .returned (.tuple #[v, .bool (rtE s p n)]) ∧ (rtE s p n = true → w'.ownsRow w.heap.size 28 1 v (ptsE s p).length ((ptsE s p).map encW)) ∧ Below w.heap.size w w'
theorem rc_no {s : ByteArray} {p : Nat × Nat} {n : Nat} {w w' : World} (h : rtE s p n = false) (hb : Below w.heap.size w w') : RcPost s p n w (.returned (.tuple #[.slice none 0 0, .bool false])) w' := by
  refine ⟨.slice none 0 0, by rw [h], fun h' => ?_, hb⟩
  rw [h] at h'; cases h'
set_option maxRecDepth 100000 in
set_option maxHeartbeats 4000000 in
theorem rightCurve_c (s : ByteArray) (p : Nat × Nat) (n : Nat) (w : World) (hp : W32 p) (hT : Tz w) : Calls Tryd.prog 30 #[encE s p n] w (RcPost s p n w) := by
  have hpos := hT.pos
  have HT := Lib.hid hT
  clear hT
  go_enter Tryd.func30, Tryd.ntmps30
  go_wp2_with fail
  generalize hW : World.alloc _ _ = W0
  have N0 := Lib.hid (show BxE w.heap.size s p n W0 by rw [← hW]; exact BxE.new _ _ _ _ _)
  have hB0 : Below w.heap.size w W0 := by rw [← hW]; (first | ((repeat' with_reducible first | assumption | exact Below.refl _ _ | apply Blw.alloc | apply Blw.drew | apply Blw.drewN | (refine Blw.after ?_ (by assumption)) | (refine Blw.set ?_ (by first | (dsimp only; omega) | (simp; omega)) _)); done) | (repeat' (first | assumption | exact Below.refl _ _ | apply Blw.alloc | apply Blw.drew | apply Blw.drewN | (refine Blw.after ?_ (by assumption)) | (refine Blw.set ?_ (by first | (dsimp only; omega) | (simp; done) | (simp; omega)) _))))
  have HT0 := Lib.hid (HT.out.keep hpos hB0)
  have HB0 := Lib.hid hB0
  clear hW hB0 HT hpos
  obtain ⟨z0, d0, d1, d2, _⟩ := N0.out
  go_wp2_with fail
  refine (movedCurve_c s p W0 hp HT0.out).mono ?_
  rintro e W1 ⟨v, rfl, ho, hb1⟩
  obtain ⟨a1, c1, rfl, hcs, -⟩ := own_csl ho
  rw [List.length_map]
  have N1 := Lib.hid (N0.out.keep hb1)
  have HB1 := Lib.hid (Blw.after HB0.out hb1)
  have HO := Lib.hid (ownsRow_low (Nat.le_of_lt z0 : w.heap.size ≤ W0.heap.size) ho)
  rw [List.length_map] at HO
  have HS := Lib.hid (fun W (hW : Below W1.heap.size W1 W) => (iSumPoints_c a1 c1 (ptsI s p) W (by have := ptsI_le s p; omega) (ptsI_w hp) (hcs.keep hW)).mono fun e w' (h : _ ∧ W = w') => (⟨h.1, h.2 ▸ Below.refl _ _⟩ : e = _ ∧ Below W.heap.size W w'))
  clear ho hcs hb1 HB0 N0 HT0 d0 d1 d2 z0
  obtain ⟨z0, d0, d1, d2, _⟩ := N1.out
  rcases Bool.eq_false_or_eq_true (okE s p) with hok | hok
  · rw [ptsI_t hok] at *
    rw [hok]
    have hE := sumN_lt (ptsE s p)
    have HR1 := Lib.hid (fun h => rtE_t (n := n) hok h)
    have HR2 := Lib.hid (fun h => rtE_n (s := s) (p := p) (n := n) h)
    obtain ⟨m, hm⟩ : ∃ m, m = sumN (ptsE s p) := ⟨_, rfl⟩
    obtain ⟨E, hEE⟩ : ∃ E, E = ptsE s p := ⟨_, rfl⟩
    rw [← hm] at HS hE HR1 HR2
    rw [← hEE] at HS HO ⊢
    have HEE := Lib.hid hEE
    have k2 := fun x : BelowW W1 => keepcell x.kept d2
    have HS2 := fun x : BelowW W1 => HS.out x.at' x.kept
    clear hok hm hEE HS
    by_cases he : m = n
    · have HF := Lib.hid (HR1.out he)
      subst he
      clear HR1 HR2
      go_upto_region 2 with fail
      have hNE : ∀ w, Nonempty (BelowW w) := BelowW.none
      refine wp_region_below (by kernel_rfl) (by kernel_rfl) ?_
      repeat
        (with_reducible refine wpQuiet_step ?_
         intro K hK
         go_simp
         first
           | (refine hK _ ?_; clear hK K)
           | (apply Exists.intro
              refine ⟨fun xW => ?_, hK _ ?_⟩
              ((go_at_call 26; exact Calls.below (HS2 xW)))
              clear hK K))
      with_reducible refine wpQuiet_nil ?_
      rintro _ ⟨⟨w2, hb2⟩, rfl⟩
      try dsimp only
      rename_i w2
      have FIN := Lib.hid (show RcPost s p m w (.returned (.tuple #[.slice a1 E.length c1, .bool true])) w2 from
        ⟨_, by rw [HF.out], fun _ => by rw [← HEE.out]; exact own_below HO.out hb2, Blw.after HB1.out hb2⟩)
      clear k2 HS2 d0 d1 d2
      go_wp2_with fail
      go_ret2
      exact FIN.out
    · have HF := Lib.hid (HR2.out he)
      have hne : ¬ ((m : Int) = (n : Int)) := by omega
      clear HR1 HR2 he
      go_upto_region 2 with fail
      have hNE : ∀ w, Nonempty (BelowW w) := BelowW.none
      refine wp_region_below (by kernel_rfl) (by kernel_rfl) ?_
      repeat
        (with_reducible refine wpQuiet_step ?_
         intro K hK
         go_simp
         first
           | (refine hK _ ?_; clear hK K)
           | (apply Exists.intro
              refine ⟨fun xW => ?_, hK _ ?_⟩
              ((go_at_call 26; exact Calls.below (HS2 xW)))
              clear hK K))
      with_reducible refine wpQuiet_nil ?_
      rintro _ ⟨⟨w2, hb2⟩, rfl⟩
      try dsimp only
      rename_i w2
      have FIN := Lib.hid (show RcPost s p n w (.returned (.tuple #[.slice none 0 0, .bool false])) w2 from rc_no HF.out (Blw.after HB1.out hb2))
      clear k2 HS2 d0 d1 d2
      go_wp2_with fail
      go_ret2
      exact FIN.out
  · have HF := Lib.hid (rtE_f (n := n) hok)
    rw [hok]
    clear hok
    go_upto_region 2 with fail
    have hNE : ∀ w, Nonempty (BelowW w) := BelowW.none
    refine wp_region_below (by kernel_rfl) (by kernel_rfl) ?_
    repeat
      (with_reducible refine wpQuiet_step ?_
       intro K hK
       go_simp
       first
         | (refine hK _ ?_; clear hK K)
         | (apply Exists.intro
            refine ⟨fun xW => ?_, hK _ ?_⟩
            (fail)
            clear hK K))
    with_reducible refine wpQuiet_nil ?_
    rintro _ ⟨⟨w2, hb2⟩, rfl⟩
    try dsimp only
    rename_i w2
    have FIN := Lib.hid (show RcPost s p n w (.returned (.tuple #[.slice none 0 0, .bool false])) w2 from rc_no HF.out (Blw.after HB1.out hb2))
    clear d0 d1 d2
    go_wp2_with fail
    go_ret2
    exact FIN.out
set_option maxRecDepth 100000 in
set_option maxHeartbeats 4000000 in
theorem iEntryRight_c (s : ByteArray) (p : Nat × Nat) (n : Nat) (w : World) (hp : W32 p) (hT : Tz w) : Calls Tryd.prog 14 #[encE s p n] w fun e w' => e = .returned (.bool (rtE s p n)) ∧ Below w.heap.size w w' := by
  have hpos := hT.pos
  have HT := Lib.hid hT
  clear hT
  go_enter Tryd.func14, Tryd.ntmps14
  go_wp2_with fail
  generalize hW : World.alloc _ _ = W0
  have hB0 : Below w.heap.size w W0 := by rw [← hW]; (first | ((repeat' with_reducible first | assumption | exact Below.refl _ _ | apply Blw.alloc | apply Blw.drew | apply Blw.drewN | (refine Blw.after ?_ (by assumption)) | (refine Blw.set ?_ (by first | (dsimp only; omega) | (simp; omega)) _)); done) | (repeat' (first | assumption | exact Below.refl _ _ | apply Blw.alloc | apply Blw.drew | apply Blw.drewN | (refine Blw.after ?_ (by assumption)) | (refine Blw.set ?_ (by first | (dsimp only; omega) | (simp; done) | (simp; omega)) _))))
  have HT0 := Lib.hid (HT.out.keep hpos hB0)
  have HB0 := Lib.hid hB0
  clear hW hB0 HT hpos
  go_wp2_with fail
  refine (rightCurve_c s p n W0 hp HT0.out).mono ?_
  rintro e W1 ⟨v, rfl, -, hb1⟩
  have HB1 := Lib.hid (Blw.after HB0.out hb1)
  clear hb1 HB0 HT0
  go_wp2_with fail
  go_ret
  exact ⟨rfl, HB1.out⟩
set_option maxRecDepth 100000 in
set_option maxHeartbeats 4000000 in
theorem sEntryRight_c (s : ByteArray) (p : Nat × Nat) (n : Nat) (w : World) (hp : W32 p) : Calls Tryd.prog 17 #[encE s p n] w fun e w' => e = .returned (.bool (rtE s p n)) ∧ Below w.heap.size w w' := by
  have fst := fun W a x y m => run_store Tryd.prog W a (.complex .f32 x y) m rfl
  go_enter Tryd.func17, Tryd.ntmps17
  go_wp2_with fail
  generalize hW : World.alloc _ _ = W0
  have N0 := Lib.hid (show BxE w.heap.size s p n W0 by rw [← hW]; exact BxE.new _ _ _ _ _)
  have HB0 := Lib.hid (show Below w.heap.size w W0 by rw [← hW]; (first | ((repeat' with_reducible first | assumption | exact Below.refl _ _ | apply Blw.alloc | apply Blw.drew | apply Blw.drewN | (refine Blw.after ?_ (by assumption)) | (refine Blw.set ?_ (by first | (dsimp only; omega) | (simp; omega)) _)); done) | (repeat' (first | assumption | exact Below.refl _ _ | apply Blw.alloc | apply Blw.drew | apply Blw.drewN | (refine Blw.after ?_ (by assumption)) | (refine Blw.set ?_ (by first | (dsimp only; omega) | (simp; done) | (simp; omega)) _)))))
  clear hW
  obtain ⟨z0, d0, d1, d2, _⟩ := N0.out
  go_wp2_with fail
  refine (sEntryMake_c s p W0 hp).mono ?_
  rintro e W1 ⟨rfl, hb1⟩
  have N1 := Lib.hid (N0.out.keep hb1)
  have HB1 := Lib.hid (Blw.after HB0.out hb1)
  clear hb1 HB0 N0 z0 d0 d1 d2
  obtain ⟨z0, d0, d1, d2, _⟩ := N1.out
  have hB : Below w.heap.size w W1 := HB1.out
  rcases Bool.eq_false_or_eq_true (okE s p) with hok | hok
  · rw [emV_t hok]
    have hr1 := fun h => rtE_t (n := n) hok h
    have hr2 := fun h => rtE_n (s := s) (p := p) (n := n) h
    generalize sumN (ptsE s p) = m at *
    by_cases he : m = n
    · have HF := Lib.hid (hr1 he)
      subst he
      clear hok hr1 hr2
      go_wp2_with fail
      go_ret
      exact ⟨(congrArg (fun b => Ending.returned (.bool b)) HF.out).symm, by (first | ((repeat' with_reducible first | assumption | exact Below.refl _ _ | apply Blw.alloc | apply Blw.drew | apply Blw.drewN | (refine Blw.after ?_ (by assumption)) | (refine Blw.set ?_ (by first | (dsimp only; omega) | (simp; omega)) _)); done) | (repeat' (first | assumption | exact Below.refl _ _ | apply Blw.alloc | apply Blw.drew | apply Blw.drewN | (refine Blw.after ?_ (by assumption)) | (refine Blw.set ?_ (by first | (dsimp only; omega) | (simp; done) | (simp; omega)) _))))⟩
    · have HF := Lib.hid (hr2 he)
      have hne : ((m : Int) == (n : Int)) = false := by simp; omega
      clear he hok hr1 hr2
      go_wp2_with fail
      go_ret
      exact ⟨(congrArg (fun b => Ending.returned (.bool b)) HF.out).symm, by (first | ((repeat' with_reducible first | assumption | exact Below.refl _ _ | apply Blw.alloc | apply Blw.drew | apply Blw.drewN | (refine Blw.after ?_ (by assumption)) | (refine Blw.set ?_ (by first | (dsimp only; omega) | (simp; omega)) _)); done) | (repeat' (first | assumption | exact Below.refl _ _ | apply Blw.alloc | apply Blw.drew | apply Blw.drewN | (refine Blw.after ?_ (by assumption)) | (refine Blw.set ?_ (by first | (dsimp only; omega) | (simp; done) | (simp; omega)) _))))⟩
  · have HF := Lib.hid (rtE_f (n := n) hok)
    rw [emV_f hok]
    clear hok
    go_wp2_with fail
    go_ret
    exact ⟨(congrArg (fun b => Ending.returned (.bool b)) HF.out).symm, by (first | ((repeat' with_reducible first | assumption | exact Below.refl _ _ | apply Blw.alloc | apply Blw.drew | apply Blw.drewN | (refine Blw.after ?_ (by assumption)) | (refine Blw.set ?_ (by first | (dsimp only; omega) | (simp; omega)) _)); done) | (repeat' (first | assumption | exact Below.refl _ _ | apply Blw.alloc | apply Blw.drew | apply Blw.drewN | (refine Blw.after ?_ (by assumption)) | (refine Blw.set ?_ (by first | (dsimp only; omega) | (simp; done) | (simp; omega)) _))))⟩
end Go.Proofs.YtmdnfamjdogogaaDoor

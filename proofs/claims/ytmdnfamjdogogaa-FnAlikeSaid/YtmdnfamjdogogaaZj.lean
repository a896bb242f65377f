/- Chapter 7: entries compared, of both sides. No law is stated here. -/
import Derived.Test.YtmdnfamjdogogaaZf
import Derived.Laws.StructEq
namespace Go.Proofs.Ytmdnfamjdogogaa
set_option linter.unusedSimpArgs false
set_option linter.unusedVariables false
open Go.RowKit Ieee

def eqE (s : ByteArray) (p : Nat × Nat) (n : Nat) (s' : ByteArray) (p' : Nat × Nat) (n' : Nat) : Bool := decide (toL s = toL s') && (eqW p p' && decide (n = n'))
theorem eqE_s {s s' : ByteArray} {p p' : Nat × Nat} {n n' : Nat} (h : ¬ toL s = toL s') : eqE s p n s' p' n' = false := by unfold eqE; rw [decide_eq_false h]; rfl
theorem eqE_n {s s' : ByteArray} {p p' : Nat × Nat} {n n' : Nat} (h : ¬ n = n') : eqE s p n s' p' n' = false := by unfold eqE; rw [decide_eq_false h, Bool.and_false, Bool.and_false]
theorem eqE_p {s s' : ByteArray} {p p' : Nat × Nat} {n n' : Nat} {b : Bool} (h : toL s = toL s') (h2 : n = n') (hb : eqW p p' = b) : eqE s p n s' p' n' = b := by unfold eqE; rw [decide_eq_true h, decide_eq_true h2, hb, Bool.true_and, Bool.and_true]
theorem eqE_comm (s : ByteArray) (p : Nat × Nat) (n : Nat) (s' : ByteArray) (p' : Nat × Nat) (n' : Nat) : eqE s p n s' p' n' = eqE s' p' n' s p n := by
  unfold eqE
  rw [eqW_comm, decide_eq_decide.2 (Iff.intro Eq.symm Eq.symm : toL s = toL s' ↔ toL s' = toL s), decide_eq_decide.2 (Iff.intro Eq.symm Eq.symm : n = n' ↔ n' = n)]
theorem eqE_self {s : ByteArray} {p : Nat × Nat} {n : Nat} (h : Nn2 p) : eqE s p n s p n = true := eqE_p rfl rfl (eqW_self h)
theorem run_equalIn_cplx (d : Nat) (p q : Nat × Nat) (w : World) : (Op.equalIn (d + 1) 27 (encW p) (encW q)).run Try.prog w = .ok (eqW p q) w := by
  simp [Op.equalIn, run_underlying Try.underlying27, eqW, eqw, Op.floatEq]
set_option maxRecDepth 100000 in
set_option maxHeartbeats 4000000 in
theorem iEntryAlike_c (s s' : ByteArray) (p p' : Nat × Nat) (n n' : Nat) (w : World) : Calls Try.prog 9 #[encE s p n, encE s' p' n'] w fun e w' => e = .returned (.bool (eqE s p n s' p' n')) ∧ Below w.heap.size w w' := by
  have f1 := fun w => run_equalIn_cplx 9998 p p' w
  by_cases hs : toL s = toL s'
  · by_cases hn : n = n'
    · have HV := Lib.hid (fun b (hb : eqW p p' = b) => eqE_p hs hn hb)
      subst hn
      rw [← toList_toL, ← toList_toL] at hs
      rcases Bool.eq_false_or_eq_true (eqW p p') with hb | hb
      · rw [hb] at f1
        rw [HV.out _ hb]
        clear hb HV
        go_enter Try.func9, Try.ntmps9
        go_wp2
        go_ret
        exact ⟨rfl, by (first | ((repeat' with_reducible first | assumption | exact Below.refl _ _ | apply Blw.alloc | apply Blw.drew | apply Blw.drewN | (refine Blw.after ?_ (by assumption)) | (refine Blw.set ?_ (by first | (dsimp only; omega) | (simp; omega)) _)); done) | (repeat' (first | assumption | exact Below.refl _ _ | apply Blw.alloc | apply Blw.drew | apply Blw.drewN | (refine Blw.after ?_ (by assumption)) | (refine Blw.set ?_ (by first | (dsimp only; omega) | (simp; done) | (simp; omega)) _))))⟩
      · rw [hb] at f1
        rw [HV.out _ hb]
        clear hb HV
        go_enter Try.func9, Try.ntmps9
        go_wp2
        go_ret
        exact ⟨rfl, by (first | ((repeat' with_reducible first | assumption | exact Below.refl _ _ | apply Blw.alloc | apply Blw.drew | apply Blw.drewN | (refine Blw.after ?_ (by assumption)) | (refine Blw.set ?_ (by first | (dsimp only; omega) | (simp; omega)) _)); done) | (repeat' (first | assumption | exact Below.refl _ _ | apply Blw.alloc | apply Blw.drew | apply Blw.drewN | (refine Blw.after ?_ (by assumption)) | (refine Blw.set ?_ (by first | (dsimp only; omega) | (simp; done) | (simp; omega)) _))))⟩
    · rw [eqE_n hn]
      rw [← toList_toL, ← toList_toL] at hs
      rcases Bool.eq_false_or_eq_true (eqW p p') with hb | hb
      · rw [hb] at f1
        clear hb
        go_enter Try.func9, Try.ntmps9
        go_wp2
        go_ret
        exact ⟨rfl, by (first | ((repeat' with_reducible first | assumption | exact Below.refl _ _ | apply Blw.alloc | apply Blw.drew | apply Blw.drewN | (refine Blw.after ?_ (by assumption)) | (refine Blw.set ?_ (by first | (dsimp only; omega) | (simp; omega)) _)); done) | (repeat' (first | assumption | exact Below.refl _ _ | apply Blw.alloc | apply Blw.drew | apply Blw.drewN | (refine Blw.after ?_ (by assumption)) | (refine Blw.set ?_ (by first | (dsimp only; omega) | (simp; done) | (simp; omega)) _))))⟩
      · rw [hb] at f1
        clear hb
        go_enter Try.func9, Try.ntmps9
        go_wp2
        go_ret
        exact ⟨rfl, by (first | ((repeat' with_reducible first | assumption | exact Below.refl _ _ | apply Blw.alloc | apply Blw.drew | apply Blw.drewN | (refine Blw.after ?_ (by assumption)) | (refine Blw.set ?_ (by first | (dsimp only; omega) | (simp; omega)) _)); done) | (repeat' (first | assumption | exact Below.refl _ _ | apply Blw.alloc | apply Blw.drew | apply Blw.drewN | (refine Blw.after ?_ (by assumption)) | (refine Blw.set ?_ (by first | (dsimp only; omega) | (simp; done) | (simp; omega)) _))))⟩
  · rw [eqE_s hs]
    rw [← toList_toL, ← toList_toL] at hs
    go_enter Try.func9, Try.ntmps9
    go_wp2
    go_ret
    exact ⟨rfl, by (first | ((repeat' with_reducible first | assumption | exact Below.refl _ _ | apply Blw.alloc | apply Blw.drew | apply Blw.drewN | (refine Blw.after ?_ (by assumption)) | (refine Blw.set ?_ (by first | (dsimp only; omega) | (simp; omega)) _)); done) | (repeat' (first | assumption | exact Below.refl _ _ | apply Blw.alloc | apply Blw.drew | apply Blw.drewN | (refine Blw.after ?_ (by assumption)) | (refine Blw.set ?_ (by first | (dsimp only; omega) | (simp; done) | (simp; omega)) _))))⟩
set_option maxRecDepth 100000 in
set_option maxHeartbeats 4000000 in
theorem sEntryAlike_c (s s' : ByteArray) (p p' : Nat × Nat) (n n' : Nat) (w : World) : Calls Try.prog 10 #[encE s p n, encE s' p' n'] w fun e w' => e = .returned (.bool (eqE s p n s' p' n')) ∧ Below w.heap.size w w' := by
  have f1 := fun w => run_equalIn_cplx 9998 p p' w
  by_cases hs : toL s = toL s'
  · by_cases hn : n = n'
    · have HV := Lib.hid (fun b (hb : eqW p p' = b) => eqE_p hs hn hb)
      subst hn
      rw [← toList_toL, ← toList_toL] at hs
      rcases Bool.eq_false_or_eq_true (eqW p p') with hb | hb
      · rw [hb] at f1
        rw [HV.out _ hb]
        clear hb HV
        go_enter Try.func10, Try.ntmps10
        go_wp2
        go_ret
        exact ⟨rfl, by (first | ((repeat' with_reducible first | assumption | exact Below.refl _ _ | apply Blw.alloc | apply Blw.drew | apply Blw.drewN | (refine Blw.after ?_ (by assumption)) | (refine Blw.set ?_ (by first | (dsimp only; omega) | (simp; omega)) _)); done) | (repeat' (first | assumption | exact Below.refl _ _ | apply Blw.alloc | apply Blw.drew | apply Blw.drewN | (refine Blw.after ?_ (by assumption)) | (refine Blw.set ?_ (by first | (dsimp only; omega) | (simp; done) | (simp; omega)) _))))⟩
      · rw [hb] at f1
        rw [HV.out _ hb]
        clear hb HV
        go_enter Try.func10, Try.ntmps10
        go_wp2
        go_ret
        exact ⟨rfl, by (first | ((repeat' with_reducible first | assumption | exact Below.refl _ _ | apply Blw.alloc | apply Blw.drew | apply Blw.drewN | (refine Blw.after ?_ (by assumption)) | (refine Blw.set ?_ (by first | (dsimp only; omega) | (simp; omega)) _)); done) | (repeat' (first | assumption | exact Below.refl _ _ | apply Blw.alloc | apply Blw.drew | apply Blw.drewN | (refine Blw.after ?_ (by assumption)) | (refine Blw.set ?_ (by first | (dsimp only; omega) | (simp; done) | (simp; omega)) _))))⟩
    · rw [eqE_n hn]
      rw [← toList_toL, ← toList_toL] at hs
      rcases Bool.eq_false_or_eq_true (eqW p p') with hb | hb
      · rw [hb] at f1
        clear hb
        go_enter Try.func10, Try.ntmps10
        go_wp2
        go_ret
        exact ⟨rfl, by (first | ((repeat' with_reducible first | assumption | exact Below.refl _ _ | apply Blw.alloc | apply Blw.drew | apply Blw.drewN | (refine Blw.after ?_ (by assumption)) | (refine Blw.set ?_ (by first | (dsimp only; omega) | (simp; omega)) _)); done) | (repeat' (first | assumption | exact Below.refl _ _ | apply Blw.alloc | apply Blw.drew | apply Blw.drewN | (refine Blw.after ?_ (by assumption)) | (refine Blw.set ?_ (by first | (dsimp only; omega) | (simp; done) | (simp; omega)) _))))⟩
      · rw [hb] at f1
        clear hb
        go_enter Try.func10, Try.ntmps10
        go_wp2
        go_ret
        exact ⟨rfl, by (first | ((repeat' with_reducible first | assumption | exact Below.refl _ _ | apply Blw.alloc | apply Blw.drew | apply Blw.drewN | (refine Blw.after ?_ (by assumption)) | (refine Blw.set ?_ (by first | (dsimp only; omega) | (simp; omega)) _)); done) | (repeat' (first | assumption | exact Below.refl _ _ | apply Blw.alloc | apply Blw.drew | apply Blw.drewN | (refine Blw.after ?_ (by assumption)) | (refine Blw.set ?_ (by first | (dsimp only; omega) | (simp; done) | (simp; omega)) _))))⟩
  · rw [eqE_s hs]
    rw [← toList_toL, ← toList_toL] at hs
    go_enter Try.func10, Try.ntmps10
    go_wp2
    go_ret
    exact ⟨rfl, by (first | ((repeat' with_reducible first | assumption | exact Below.refl _ _ | apply Blw.alloc | apply Blw.drew | apply Blw.drewN | (refine Blw.after ?_ (by assumption)) | (refine Blw.set ?_ (by first | (dsimp only; omega) | (simp; omega)) _)); done) | (repeat' (first | assumption | exact Below.refl _ _ | apply Blw.alloc | apply Blw.drew | apply Blw.drewN | (refine Blw.after ?_ (by assumption)) | (refine Blw.set ?_ (by first | (dsimp only; omega) | (simp; done) | (simp; omega)) _))))⟩
end Go.Proofs.Ytmdnfamjdogogaa

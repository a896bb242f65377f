/- Chapter 7: entries drawn. No law is stated here. -/
import Derived.Test.YtmdnfamjdogogaaDoorZf
namespace Go.Proofs.YtmdnfamjdogogaaDoor
set_option linter.unusedSimpArgs false
set_option linter.unusedVariables false
open Go.RowKit Ieee

def EnOk (v : Value) : Prop := ∃ (s : ByteArray) (p : Nat × Nat) (n : Nat), v = encE s p n ∧ s.size ≤ 5 ∧ Nn2 p ∧ n < 4294967296
theorem wrap_succ (n : Nat) : IntKind.u32.wrap ((n : Int) + 1) = (((n + 1) % 4294967296 : Nat) : Int) := by
  rw [IntKind.wrap_u32']; omega
set_option maxRecDepth 100000 in
set_option maxHeartbeats 8000000 in
theorem l92Entry_c (rb : Nat) (sv : Value) (p : Int) (w : World) (hs : Src sv rb w) (h : Rd rb sv p w) (hp : 0 ≤ p ∧ p ≤ 500) :
    Calls Tryd.prog 32 #[.pointer (some ⟨rb, 0, none⟩)] w (Drawn EnOk 120 rb sv p w) := by
  have hrb : rb < w.heap.size := World.block_lt_of_cell? w _ h.1
  have fst := fun W a x y m => run_store Tryd.prog W a (.complex .f32 x y) m rfl
  go_enter Tryd.func32, Tryd.ntmps32
  go_wp2_with fail
  generalize hW : World.alloc _ _ = W0
  have N0 := Lib.hid (show BxE w.heap.size ⟨#[]⟩ (0, 0) 0 W0 by rw [← hW]; exact BxE.new _ _ _ _ _)
  have m0 : Moved rb w W0 := by rw [← hW]; exact (Moved.refl rb w).alloc _
  have h0 : Rd rb sv p W0 := by rw [← hW]; exact h.keep ((Below.refl _ _).alloc (Nat.le_refl _) _)
  clear hW
  go_wp2_with fail
  refine (l92Word_s rb sv p 4 W0 (hs.moved m0) h0 ⟨by omega, by omega⟩ (by omega)).mono ?_
  rintro e W1 ⟨v', p1, ⟨t, rfl, ht⟩, rfl, q0, q1, h1, hs1, m1⟩
  have N1 := Lib.hid (N0.out.moved m1 (by omega))
  have M1 := m0.trans m1
  clear h h0 m0 m1 N0
  go_wp2_with fail
  refine (l92Start_c rb sv p1 W1 hs1 h1 ⟨by omega, by omega⟩).mono ?_
  rintro e W2 ⟨v, p2, ⟨st, rfl, hst⟩, rfl, r0, r1, h2, hs2, m2⟩
  have N2 := Lib.hid (N1.out.moved m2 (by omega))
  have M2 := M1.trans m2
  clear h1 hs1 m2 M1 N1
  go_wp2_with fail
  refine (sEntryMake_c t st W2 hst.w).mono ?_
  rintro e W3 ⟨rfl, hb3⟩
  have N3 := Lib.hid (N2.out.keep hb3)
  have M3 := Lib.hid (M2.below hb3)
  have H3 := Lib.hid (h2.keep hb3)
  have S3 := Lib.hid (hs2.keep hb3)
  have z3 := M3.out.1
  have zb : w.heap.size < W3.heap.size := N3.out.1
  have HST := Lib.hid hst
  clear N2 M2 h2 hs2 hb3 hst
  have fin : ∀ (w' : World) (q : Nat × Nat) (n : Nat) (p' : Int), Nn2 q → n < 4294967296 → p ≤ p' → p' ≤ p + 120 → Rd rb sv p' w' → Moved rb w w' → Drawn EnOk 120 rb sv p w (.returned (encE t q n)) w' :=
    fun w' q n p' a1 a2 a3 a4 a5 a6 => ⟨_, p', ⟨t, q, n, rfl, by omega, a1, a2⟩, rfl, a3, a4, a5, hs.moved a6, a6⟩
  have FIN := Lib.hid fin
  clear fin hs
  rcases Bool.eq_false_or_eq_true (okE t st) with hok | hok
  · rw [emV_t hok]
    have hn := sumN_lt (ptsE t st)
    generalize sumN (ptsE t st) = n at *
    clear hok
    go_upto_region 3 with fail
    generalize hW : World.alloc _ _ = W4
    have hB4 : Below W3.heap.size W3 W4 := by rw [← hW]; (first | ((repeat' with_reducible first | assumption | exact Below.refl _ _ | apply Blw.alloc | apply Blw.drew | apply Blw.drewN | (refine Blw.after ?_ (by assumption)) | (refine Blw.set ?_ (by first | (dsimp only; omega) | (simp; omega)) _)); done) | (repeat' (first | assumption | exact Below.refl _ _ | apply Blw.alloc | apply Blw.drew | apply Blw.drewN | (refine Blw.after ?_ (by assumption)) | (refine Blw.set ?_ (by first | (dsimp only; omega) | (simp; done) | (simp; omega)) _))))
    have E4 : BxE W3.heap.size t st n W4 := by rw [← hW]; exact BxE.new _ _ _ _ _
    clear hW
    have N4 := Lib.hid (N3.out.keep hB4)
    have M4 := Lib.hid (M3.out.below hB4)
    have H4 := Lib.hid (H3.out.keep hB4)
    have S4 := Lib.hid (S3.out.keep hB4)
    have E4 := Lib.hid E4
    clear hB4 N3 M3 H3 S3
    go_wp2_with fail
    refine (pick_d rb sv p2 10 W4 S4.out H4.out ⟨by omega, by omega⟩ ⟨by omega, by omega⟩).mono ?_
    rintro e W5 ⟨v, p3, ⟨k, rfl, k0, k1⟩, rfl, s0, s1, h5, -, m5⟩
    obtain ⟨na, nb, nc, nd, ne, nf, ng⟩ := N4.out.moved m5 (by omega)
    obtain ⟨ea, eb, ec, ed, ee, ef, eg⟩ := E4.out.moved m5 (by omega)
    have M5 := M4.out.trans m5
    clear N4 M4 H4 S4 E4 m5
    by_cases e0 : k = 0
    · subst e0
      have f1 := wrap_succ n
      generalize hm : (n + 1) % 4294967296 = n' at *
      have hn' : n' < 4294967296 := by omega
      clear hm
      go_wp2_with fail
      exact bodyPost_ret (v := encE t st n') (by simp [results, Tryd.results32, go_sem, *]) rfl (FIN.out _ st n' p3 HST.out hn' (by omega) (by omega) (by repeat (first | assumption | refine Rd.set ?_ (by dsimp only; omega) _)) (by repeat (first | assumption | refine Moved.set ?_ (by dsimp only; omega) hrb _)))
    by_cases e1 : k = 1
    · subst e1
      have f1 := fun w t => run_wadd (P := Tryd.prog) w t HST.out (z := (1, 0)) (by unfold Sm; decide)
      rw [enc10] at f1
      have hq := aW_nn HST.out (z := (1, 0)) (by unfold Sm; decide)
      generalize aW st (1, 0) = st' at *
      have HQ := Lib.hid hq
      clear hq
      go_wp2_with fail
      exact bodyPost_ret (v := encE t st' n) (by simp [results, Tryd.results32, go_sem, *]) rfl (FIN.out _ st' n p3 HQ.out hn (by omega) (by omega) (by repeat (first | assumption | refine Rd.set ?_ (by dsimp only; omega) _)) (by repeat (first | assumption | refine Moved.set ?_ (by dsimp only; omega) hrb _)))
    · have x0 : (k == 0) = false := by simp [e0]
      have x1 : (k == 1) = false := by simp [e1]
      clear e0 e1
      go_wp2_with fail
      exact bodyPost_ret (v := encE t st n) (by simp [results, Tryd.results32, go_sem, *]) rfl (FIN.out _ st n p3 HST.out hn (by omega) (by omega) (by repeat (first | assumption | refine Rd.set ?_ (by dsimp only; omega) _)) (by repeat (first | assumption | refine Moved.set ?_ (by dsimp only; omega) hrb _)))
  · rw [emV_f hok]
    clear hok
    go_upto_region 3 with fail
    generalize hW : World.alloc _ _ = W4
    have hB4 : Below W3.heap.size W3 W4 := by rw [← hW]; (first | ((repeat' with_reducible first | assumption | exact Below.refl _ _ | apply Blw.alloc | apply Blw.drew | apply Blw.drewN | (refine Blw.after ?_ (by assumption)) | (refine Blw.set ?_ (by first | (dsimp only; omega) | (simp; omega)) _)); done) | (repeat' (first | assumption | exact Below.refl _ _ | apply Blw.alloc | apply Blw.drew | apply Blw.drewN | (refine Blw.after ?_ (by assumption)) | (refine Blw.set ?_ (by first | (dsimp only; omega) | (simp; done) | (simp; omega)) _))))
    clear hW
    obtain ⟨na, nb, nc, nd, ne, nf, ng⟩ := N3.out.keep hB4
    have M4 := M3.out.below hB4
    have H4 := H3.out.keep hB4
    clear hB4 N3 M3 H3 S3
    go_wp2_with fail
    exact bodyPost_ret (v := encE t (1065353216, 0) 7) (by simp [results, Tryd.results32, go_sem, *]) rfl (FIN.out _ (1065353216, 0) 7 p2 ⟨nn_lit.2.2.2.2, nn_lit.1⟩ (by omega) (by omega) (by omega) (by repeat (first | assumption | refine Rd.set ?_ (by dsimp only; omega) _)) (by repeat (first | assumption | refine Moved.set ?_ (by dsimp only; omega) hrb _)))
end Go.Proofs.YtmdnfamjdogogaaDoor

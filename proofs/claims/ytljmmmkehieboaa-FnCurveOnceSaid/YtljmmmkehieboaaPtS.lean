/- Chapter 5: CurvePath, the model's side. No law is stated here. -/
import Derived.Test.YtljmmmkehieboaaPth
import Derived.Test.YtljmmmkehieboaaReg
import Derived.Deep.Cut
namespace Go.Proofs.Ytljmmmkehieboaa
set_option linter.unusedSimpArgs false
set_option linter.unusedVariables false
open Go.RowKit Ieee

theorem run_ceqP {P : Program} (w : World) (t : TypeId) {d e : Int × Int} (hd : Bp 100000 d) (he : Bp 100000 e) : (binOp .eql t (encP d) (encP e)).run P w = .ok (.bool (decide (d.1 = e.1) && decide (d.2 = e.2))) w := by
  have h := run_ceqS (P := P) w (k := .f32) t (decide (d.1 < 0)) (decide (d.2 < 0)) (decide (e.1 < 0)) (decide (e.2 < 0)) (a := d.1.natAbs) (b := d.2.natAbs) (c := e.1.natAbs) (d := e.2.natAbs) (Nat.le_trans hd.1 (by omega)) (Nat.le_trans hd.2 (by omega)) (Nat.le_trans he.1 (by omega)) (Nat.le_trans he.2 (by omega))
  rw [own_sg, own_sg, own_sg, own_sg] at h
  exact h
def eqP (d e : Int × Int) : Bool := decide (d.1 = e.1) && decide (d.2 = e.2)
theorem encm10 : encP (-1, 0) = .complex .f32 3212836864 0 := by unfold encP px py; rw [w0s, wm1s]
theorem enc01 : encP (0, 1) = .complex .f32 0 1065353216 := by unfold encP px py; rw [w0s, w1s]
theorem enc0m1 : encP (0, -1) = .complex .f32 0 3212836864 := by unfold encP px py; rw [w0s, wm1s]
theorem eqP_iff {d e : Int × Int} : eqP d e = true ↔ d = e := by
  unfold eqP
  rw [Bool.and_eq_true, decide_eq_true_eq, decide_eq_true_eq]
  exact ⟨fun h => Prod.ext h.1 h.2, fun h => by rw [h]; exact ⟨rfl, rfl⟩⟩
theorem unit_cases {d : Int × Int} : sqN d = 1 ↔ (d = (1, 0) ∨ d = (-1, 0) ∨ d = (0, 1) ∨ d = (0, -1)) := by
  obtain ⟨x, y⟩ := d
  constructor
  · intro h
    unfold sqN at h
    dsimp only at h
    have h1 : ((x.natAbs * x.natAbs : Nat) : Int) = x * x := by rw [Int.natAbs_mul_self]
    have h2 : ((y.natAbs * y.natAbs : Nat) : Int) = y * y := by rw [Int.natAbs_mul_self]
    have h3 : x.natAbs * x.natAbs + y.natAbs * y.natAbs = 1 := by omega
    rcases Nat.lt_trichotomy x.natAbs 1 with a | a | a
    · have ha : x.natAbs = 0 := by omega
      rw [ha] at h3
      have : y.natAbs = 1 := by
        rcases Nat.lt_trichotomy y.natAbs 1 with b | b | b
        · rw [show y.natAbs = 0 by omega] at h3; omega
        · exact b
        · have := Nat.mul_le_mul b b; omega
      simp only [Prod.mk.injEq]; omega
    · rw [a] at h3
      have : y.natAbs = 0 := by
        rcases Nat.eq_zero_or_pos y.natAbs with b | b
        · exact b
        · have := Nat.mul_le_mul b b; omega
      simp only [Prod.mk.injEq]; omega
    · have := Nat.mul_le_mul a a; omega
  · rintro (h | h | h | h) <;> (rw [h]; rfl)
set_option maxRecDepth 100000 in
set_option maxHeartbeats 4000000 in
theorem sCurvePath_c (a : Option Addr) (c : Nat) (L : List SZ) (w : World) (hl : L.length ≤ 1000000) (hS : ∀ q ∈ L, Bq 400 q) (h : CSl a (L.map encZ) w) : Calls Try.prog 18 #[.slice a L.length c] w fun e w' => e = .returned (.bool (pathZ L)) ∧ Below w.heap.size w w' := by
  have HC := Lib.hid h
  have HS := Lib.hid hS
  clear h hS
  by_cases h1 : L.length < 1
  · have H := Lib.hid (pathZ_f (L := L) (fun h => by have := h.1; omega))
    have hr : inR 1 1025 (L.length : Int) = false := by unfold inR; simp; omega
    go_enter Try.func18, Try.ntmps18
    go_wp2_with (go_at_call 47; refine (l6In_c _ _ _ _).mono ?_; rintro e w1 ⟨rfl, rfl⟩)
    go_ret
    exact ⟨by rw [H.out]; rfl, by (repeat' (first | assumption | exact Below.refl _ _ | apply Blw.alloc | apply Blw.drew | apply Blw.drewN | (refine Blw.after ?_ (by assumption)) | (refine Blw.set ?_ (by first | (dsimp only; omega) | (simp; done) | (simp; omega)) _)))⟩
  · by_cases h2 : 1025 < L.length
    · have H := Lib.hid (pathZ_f (L := L) (fun h => by have := h.2.1; omega))
      have hr : inR 1 1025 (L.length : Int) = false := by unfold inR; simp; omega
      go_enter Try.func18, Try.ntmps18
      go_wp2_with (go_at_call 47; refine (l6In_c _ _ _ _).mono ?_; rintro e w1 ⟨rfl, rfl⟩)
      go_ret
      exact ⟨by rw [H.out]; rfl, by (repeat' (first | assumption | exact Below.refl _ _ | apply Blw.alloc | apply Blw.drew | apply Blw.drewN | (refine Blw.after ?_ (by assumption)) | (refine Blw.set ?_ (by first | (dsimp only; omega) | (simp; done) | (simp; omega)) _)))⟩
    · have hr : inR 1 1025 (L.length : Int) = true := by unfold inR; simp; omega
      go_enter Try.func18, Try.ntmps18
      go_wp2_with (go_at_call 47; refine (l6In_c _ _ _ _).mono ?_; rintro e w1 ⟨rfl, rfl⟩)
      go_loopg [3] L.length (fun m i wr => PaRel L w m i wr)
      case atStart => exact ⟨0, by omega, rfl, fun j hj => by omega, Below.refl _ _⟩
      case round =>
        obtain ⟨k, hk, rfl, hst, hB⟩ := hrel
        by_cases hlt : k < L.length
        · obtain ⟨g, o, rfl, c0⟩ := (HC.out.keep hB).at (k := k) (by rw [List.length_map]; exact hlt)
          rw [List.getElem_map] at c0
          have hq : L[k]? = some L[k] := List.getElem?_eq_getElem hlt
          have hb := HS.out L[k] (List.getElem_mem hlt)
          generalize L[k] = q at *
          have Lg : g < wr.heap.size := World.block_lt_of_cell? wr _ c0
          have HB := Lib.hid hb
          have HW1 := Lib.hid (fun w => whole_c q.1.1 q.1.2 w (Nat.le_trans hb.1 (by omega)))
          have HW2 := Lib.hid (fun w => whole_c q.2.1 q.2.2 w (Nat.le_trans hb.2 (by omega)))
          have HQ := Lib.hid hq
          have HT := Lib.hid hst
          clear hst hb hq
          rcases Bool.eq_false_or_eq_true (okQ q) with hok | hok
          · have e0 := okQ_enc hok
            have HOK := Lib.hid hok
            have ho1 : okN q.1 = true := by unfold okQ at hok; rw [Bool.and_eq_true] at hok; exact hok.1
            have ho2 : okN q.2 = true := by unfold okQ at hok; rw [Bool.and_eq_true] at hok; exact hok.2
            rw [show (q.1.1, q.1.2) = q.1 from rfl, ho1] at HW1
            rw [show (q.2.1, q.2.2) = q.2 from rfl, ho2] at HW2
            have hW1 := HW1.out
            have hW2 := HW2.out
            clear HW1 HW2
            change ∀ w, Calls _ _ #[.float .f32 (xr q)] w _ at hW1
            change ∀ w, Calls _ _ #[.float .f32 (xi q)] w _ at hW2
            have HX1 := Lib.hid hW1
            have HX2 := Lib.hid hW2
            clear hW1 hW2 ho1 ho2
            cases k with
            | zero =>
              rw [Nat.add_zero] at c0
              clear e0
              go_wp2_with (first | (go_at_call_of 48 (Value.float .f32 (xr q)); refine (HX1.out _).mono ?_; rintro e w1 ⟨rfl, rfl⟩) | (go_at_call_of 48 (Value.float .f32 (xi q)); refine (HX2.out _).mono ?_; rintro e w1 ⟨rfl, rfl⟩))
              go_roundg (gk - 1)
              case measure => omega
              case rel => exact ⟨0 + 1, by omega, by go_num, stL_all HT.out (stL_zero HQ.out HOK.out), by (repeat' (first | assumption | exact Below.refl _ _ | apply Blw.alloc | apply Blw.drew | apply Blw.drewN | (refine Blw.after ?_ (by assumption)) | (refine Blw.set ?_ (by first | (dsimp only; omega) | (simp; done) | (simp; omega)) _)))⟩
            | succ j =>
              obtain ⟨g', o', he, d0⟩ := (HC.out.keep hB).at (k := j) (by rw [List.length_map]; omega)
              simp only [Option.some.injEq, Addr.mk.injEq, and_true] at he
              obtain ⟨rfl, rfl⟩ := he
              rw [List.getElem_map] at d0
              have hq' : L[j]? = some L[j] := List.getElem?_eq_getElem (by omega)
              have hb' := HS.out L[j] (List.getElem_mem (by omega))
              generalize L[j] = p at *
              have hokp := stL_ok (HT.out j (by omega)) hq'
              rw [okQ_enc hokp] at d0
              have e2 : xr q = px (val q) := by injection e0
              have e3 : xi q = py (val q) := by injection e0
              rw [e2] at HX1
              rw [e3] at HX2
              rw [e0] at c0
              have hbp := val_bp hb'
              have hbq := val_bp HB.out
              have f1 := fun w t => run_psub (P := Try.prog) w t (p := val q) (q := val p) ⟨Nat.le_trans hbq.1 (by omega), Nat.le_trans hbq.2 (by omega)⟩ ⟨Nat.le_trans hbp.1 (by omega), Nat.le_trans hbp.2 (by omega)⟩
              have hbd : Bp 100000 (subP (val q) (val p)) := by
                unfold Bp at *; unfold subP; dsimp only; omega
              have hnb : nbr (val p) (val q) = decide (sqN (subP (val q) (val p)) = 1) := rfl
              have r1 := fun w t => run_ceqP (P := Try.prog) w t hbd (e := (1, 0)) (by unfold Bp; decide)
              have r2 := fun w t => run_ceqP (P := Try.prog) w t hbd (e := (-1, 0)) (by unfold Bp; decide)
              have r3 := fun w t => run_ceqP (P := Try.prog) w t hbd (e := (0, 1)) (by unfold Bp; decide)
              have r4 := fun w t => run_ceqP (P := Try.prog) w t hbd (e := (0, -1)) (by unfold Bp; decide)
              rw [enc10] at r1
              rw [encm10] at r2
              rw [enc01] at r3
              rw [enc0m1] at r4
              have HSU := Lib.hid (fun hn => stL_succ hq' HQ.out HOK.out hn)
              have HNO := Lib.hid (fun hn => pathZ_f (stL_nb (by omega) hq' HQ.out hn))
              rw [hnb] at HSU HNO
              generalize subP (val q) (val p) = d at *
              have n1 : ((j + 1 : Nat) : Int) - 1 = (j : Nat) := by omega
              clear hb' hq' hokp e0 e2 e3 HB hbp hbq hbd hnb
              generalize val p = zp at *
              generalize val q = zq at *
              have HD : (sqN d = 1 ∧ (eqP d (1, 0) = true ∨ (eqP d (1, 0) = false ∧ (eqP d (-1, 0) = true ∨ (eqP d (-1, 0) = false ∧ (eqP d (0, 1) = true ∨ (eqP d (0, 1) = false ∧ eqP d (0, -1) = true))))))) ∨
                  (¬ sqN d = 1 ∧ eqP d (1, 0) = false ∧ eqP d (-1, 0) = false ∧ eqP d (0, 1) = false ∧ eqP d (0, -1) = false) := by
                by_cases hd : sqN d = 1
                · refine Or.inl ⟨hd, ?_⟩
                  rcases unit_cases.1 hd with rfl | rfl | rfl | rfl <;> decide
                · refine Or.inr ⟨hd, ?_, ?_, ?_, ?_⟩ <;>
                    (rw [← Bool.not_eq_true, eqP_iff]; intro e; exact hd (unit_cases.2 (by rw [e]; simp)))
              change ∀ w t, _ = Result.ok (Value.bool (eqP d (1, 0))) w at r1
              change ∀ w t, _ = Result.ok (Value.bool (eqP d (-1, 0))) w at r2
              change ∀ w t, _ = Result.ok (Value.bool (eqP d (0, 1))) w at r3
              change ∀ w t, _ = Result.ok (Value.bool (eqP d (0, -1))) w at r4
              go_upto_region 9 with (first | (go_at_call_of 48 (Value.float .f32 (px zq)); refine (HX1.out _).mono ?_; rintro e w1 ⟨rfl, rfl⟩) | (go_at_call_of 48 (Value.float .f32 (py zq)); refine (HX2.out _).mono ?_; rintro e w1 ⟨rfl, rfl⟩))
              refine region_slots (fun _ => True) [] [(32, .is (.slice (some ⟨g, o, none⟩) L.length c)), (33, .is (.int .i64 ((j + 1 : Nat) : Int))), (34, .is (.pointer (some ⟨g, o + (j + 1), none⟩))), (35, .is (encP zq)), (36, .is (.slice (some ⟨g, o, none⟩) L.length c)), (37, .is (.int .i64 ((j + 1 : Nat) : Int))), (38, .is (.int .i64 (j : Nat))), (39, .is (.pointer (some ⟨g, o + j, none⟩))), (40, .is (encP zp)), (41, .is (encP d))] (by kernel_rfl) (by kernel_rfl) (by kernel_rfl) (fun _ _ => trivial) (fun _ _ _ _ _ _ h => h) ?_
              simp only [Steps, List.contains_cons, List.contains_nil, Nat.reduceBEq, Nat.reduceAdd, Bool.or_false, Bool.false_or, Bool.or_true, Bool.true_or, Bool.false_eq_true, if_false, if_true]
              refine ⟨?_, ?_, ?_, ?_, ?_, ?_, ?_, ?_, ?_, ?_, ?_⟩
              · intro u w2 hH hd K hK
                simp only [setU, upd, List.map_cons, List.map_nil, List.contains_cons, List.contains_nil, Nat.reduceBEq, Nat.reduceAdd, Bool.or_false, Bool.false_or, Bool.or_true, Bool.true_or, Bool.false_eq_true, if_false, if_true, ite_true, ite_false, Nat.reduceEqDiff, beq_self_eq_true] at hK ⊢
                go_wp2_with (fail)
                exact hK _ _ (by (repeat' (first | assumption | exact Below.refl _ _ | apply Blw.alloc | apply Blw.drew | apply Blw.drewN | (refine Blw.after ?_ (by assumption)) | (refine Blw.set ?_ (by first | (dsimp only; omega) | (simp; done) | (simp; omega)) _)))) rfl
              · intro u w2 hH hd K hK
                simp only [setU, upd, List.map_cons, List.map_nil, List.contains_cons, List.contains_nil, Nat.reduceBEq, Nat.reduceAdd, Bool.or_false, Bool.false_or, Bool.or_true, Bool.true_or, Bool.false_eq_true, if_false, if_true, ite_true, ite_false, Nat.reduceEqDiff, beq_self_eq_true] at hK ⊢
                go_wp2_with (fail)
                exact hK _ _ (by (repeat' (first | assumption | exact Below.refl _ _ | apply Blw.alloc | apply Blw.drew | apply Blw.drewN | (refine Blw.after ?_ (by assumption)) | (refine Blw.set ?_ (by first | (dsimp only; omega) | (simp; done) | (simp; omega)) _)))) rfl
              · intro u w2 hH hd K hK
                have f32 : u 32 = (.slice (some ⟨g, o, none⟩) L.length c) := hd 32 (by kernel_rfl)
                have f33 : u 33 = (.int .i64 ((j + 1 : Nat) : Int)) := hd 33 (by kernel_rfl)
                simp only [setU, upd, List.map_cons, List.map_nil, List.contains_cons, List.contains_nil, Nat.reduceBEq, Nat.reduceAdd, Bool.or_false, Bool.false_or, Bool.or_true, Bool.true_or, Bool.false_eq_true, if_false, if_true, ite_true, ite_false, Nat.reduceEqDiff, beq_self_eq_true] at hK ⊢
                rw [f32, f33] at hK ⊢
                clear f32 f33
                go_wp2_with (fail)
                exact hK _ _ (by (repeat' (first | assumption | exact Below.refl _ _ | apply Blw.alloc | apply Blw.drew | apply Blw.drewN | (refine Blw.after ?_ (by assumption)) | (refine Blw.set ?_ (by first | (dsimp only; omega) | (simp; done) | (simp; omega)) _)))) rfl
              · intro u w2 hH hd K hK
                have f34 : u 34 = (.pointer (some ⟨g, o + (j + 1), none⟩)) := hd 34 (by kernel_rfl)
                simp only [setU, upd, List.map_cons, List.map_nil, List.contains_cons, List.contains_nil, Nat.reduceBEq, Nat.reduceAdd, Bool.or_false, Bool.false_or, Bool.or_true, Bool.true_or, Bool.false_eq_true, if_false, if_true, ite_true, ite_false, Nat.reduceEqDiff, beq_self_eq_true] at hK ⊢
                rw [f34] at hK ⊢
                clear f34
                go_wp2_with (fail)
                exact hK _ _ (by (repeat' (first | assumption | exact Below.refl _ _ | apply Blw.alloc | apply Blw.drew | apply Blw.drewN | (refine Blw.after ?_ (by assumption)) | (refine Blw.set ?_ (by first | (dsimp only; omega) | (simp; done) | (simp; omega)) _)))) rfl
              · intro u w2 hH hd K hK
                simp only [setU, upd, List.map_cons, List.map_nil, List.contains_cons, List.contains_nil, Nat.reduceBEq, Nat.reduceAdd, Bool.or_false, Bool.false_or, Bool.or_true, Bool.true_or, Bool.false_eq_true, if_false, if_true, ite_true, ite_false, Nat.reduceEqDiff, beq_self_eq_true] at hK ⊢
                go_wp2_with (fail)
                exact hK _ _ (by (repeat' (first | assumption | exact Below.refl _ _ | apply Blw.alloc | apply Blw.drew | apply Blw.drewN | (refine Blw.after ?_ (by assumption)) | (refine Blw.set ?_ (by first | (dsimp only; omega) | (simp; done) | (simp; omega)) _)))) rfl
              · intro u w2 hH hd K hK
                simp only [setU, upd, List.map_cons, List.map_nil, List.contains_cons, List.contains_nil, Nat.reduceBEq, Nat.reduceAdd, Bool.or_false, Bool.false_or, Bool.or_true, Bool.true_or, Bool.false_eq_true, if_false, if_true, ite_true, ite_false, Nat.reduceEqDiff, beq_self_eq_true] at hK ⊢
                go_wp2_with (fail)
                exact hK _ _ (by (repeat' (first | assumption | exact Below.refl _ _ | apply Blw.alloc | apply Blw.drew | apply Blw.drewN | (refine Blw.after ?_ (by assumption)) | (refine Blw.set ?_ (by first | (dsimp only; omega) | (simp; done) | (simp; omega)) _)))) rfl
              · intro u w2 hH hd K hK
                have f37 : u 37 = (.int .i64 ((j + 1 : Nat) : Int)) := hd 37 (by kernel_rfl)
                simp only [setU, upd, List.map_cons, List.map_nil, List.contains_cons, List.contains_nil, Nat.reduceBEq, Nat.reduceAdd, Bool.or_false, Bool.false_or, Bool.or_true, Bool.true_or, Bool.false_eq_true, if_false, if_true, ite_true, ite_false, Nat.reduceEqDiff, beq_self_eq_true] at hK ⊢
                rw [f37] at hK ⊢
                clear f37
                go_wp2_with (fail)
                exact hK _ _ (by (repeat' (first | assumption | exact Below.refl _ _ | apply Blw.alloc | apply Blw.drew | apply Blw.drewN | (refine Blw.after ?_ (by assumption)) | (refine Blw.set ?_ (by first | (dsimp only; omega) | (simp; done) | (simp; omega)) _)))) rfl
              · intro u w2 hH hd K hK
                have f36 : u 36 = (.slice (some ⟨g, o, none⟩) L.length c) := hd 36 (by kernel_rfl)
                have f38 : u 38 = (.int .i64 (j : Nat)) := hd 38 (by kernel_rfl)
                simp only [setU, upd, List.map_cons, List.map_nil, List.contains_cons, List.contains_nil, Nat.reduceBEq, Nat.reduceAdd, Bool.or_false, Bool.false_or, Bool.or_true, Bool.true_or, Bool.false_eq_true, if_false, if_true, ite_true, ite_false, Nat.reduceEqDiff, beq_self_eq_true] at hK ⊢
                rw [f36, f38] at hK ⊢
                clear f36 f38
                go_wp2_with (fail)
                exact hK _ _ (by (repeat' (first | assumption | exact Below.refl _ _ | apply Blw.alloc | apply Blw.drew | apply Blw.drewN | (refine Blw.after ?_ (by assumption)) | (refine Blw.set ?_ (by first | (dsimp only; omega) | (simp; done) | (simp; omega)) _)))) rfl
              · intro u w2 hH hd K hK
                have f39 : u 39 = (.pointer (some ⟨g, o + j, none⟩)) := hd 39 (by kernel_rfl)
                simp only [setU, upd, List.map_cons, List.map_nil, List.contains_cons, List.contains_nil, Nat.reduceBEq, Nat.reduceAdd, Bool.or_false, Bool.false_or, Bool.or_true, Bool.true_or, Bool.false_eq_true, if_false, if_true, ite_true, ite_false, Nat.reduceEqDiff, beq_self_eq_true] at hK ⊢
                rw [f39] at hK ⊢
                clear f39
                go_wp2_with (fail)
                exact hK _ _ (by (repeat' (first | assumption | exact Below.refl _ _ | apply Blw.alloc | apply Blw.drew | apply Blw.drewN | (refine Blw.after ?_ (by assumption)) | (refine Blw.set ?_ (by first | (dsimp only; omega) | (simp; done) | (simp; omega)) _)))) rfl
              · intro u w2 hH hd K hK
                have f35 : u 35 = (encP zq) := hd 35 (by kernel_rfl)
                have f40 : u 40 = (encP zp) := hd 40 (by kernel_rfl)
                simp only [setU, upd, List.map_cons, List.map_nil, List.contains_cons, List.contains_nil, Nat.reduceBEq, Nat.reduceAdd, Bool.or_false, Bool.false_or, Bool.or_true, Bool.true_or, Bool.false_eq_true, if_false, if_true, ite_true, ite_false, Nat.reduceEqDiff, beq_self_eq_true] at hK ⊢
                rw [f35, f40] at hK ⊢
                clear f35 f40
                go_wp2_with (fail)
                exact hK _ _ (by (repeat' (first | assumption | exact Below.refl _ _ | apply Blw.alloc | apply Blw.drew | apply Blw.drewN | (refine Blw.after ?_ (by assumption)) | (refine Blw.set ?_ (by first | (dsimp only; omega) | (simp; done) | (simp; omega)) _)))) rfl
              intro u w2 hH hF hne
              have hH1 := hH.1
              have hH2 := hH.2.2.2
              simp only [allFacts, SlotFact.h] at hF
              obtain ⟨f32, f33, f34, f35, f36, f37, f38, f39, f40, f41, -⟩ := hF
              simp only [setU, upd, List.map_cons, List.map_nil, List.contains_cons, List.contains_nil, Nat.reduceBEq, Nat.reduceAdd, Bool.or_false, Bool.false_or, Bool.or_true, Bool.true_or, Bool.false_eq_true, if_false, if_true, ite_true, ite_false, Nat.reduceEqDiff, beq_self_eq_true]
              rw [f32, f33, f34, f35, f36, f37, f38, f39, f40, f41]
              clear f32 f33 f34 f35 f36 f37 f38 f39 f40 f41 hne
              refine wpListS_true ?_
              rcases HD with ⟨hd, hc⟩ | ⟨hd, b1, b2, b3, b4⟩
              · have HSS := Lib.hid (HSU.out (decide_eq_true hd))
                rcases hc with b1 | ⟨b1, b2 | ⟨b2, b3 | ⟨b3, b4⟩⟩⟩
                all_goals
                  go_wp2_with fail
                  go_roundg (gk - 1)
                  case measure => omega
                  case rel => exact ⟨j + 1 + 1, by omega, by go_num, stL_all HT.out HSS.out, by (repeat' (first | assumption | exact Below.refl _ _ | apply Blw.alloc | apply Blw.drew | apply Blw.drewN | (refine Blw.after ?_ (by assumption)) | (refine Blw.set ?_ (by first | (dsimp only; omega) | (simp; done) | (simp; omega)) _)))⟩
              · have H := Lib.hid (HNO.out (decide_eq_false hd))
                go_wp2_with fail
                go_ret
                exact ⟨by rw [H.out]; rfl, by (repeat' (first | assumption | exact Below.refl _ _ | apply Blw.alloc | apply Blw.drew | apply Blw.drewN | (refine Blw.after ?_ (by assumption)) | (refine Blw.set ?_ (by first | (dsimp only; omega) | (simp; done) | (simp; omega)) _)))⟩
          · have H := Lib.hid (pathZ_f (stL_no hlt HQ.out hok))
            have hW1 := HW1.out
            have hW2 := HW2.out
            change ∀ w, Calls _ _ #[.float .f32 (xr q)] w _ at hW1
            change ∀ w, Calls _ _ #[.float .f32 (xi q)] w _ at hW2
            rw [show (q.1.1, q.1.2) = q.1 from rfl] at hW1
            rw [show (q.2.1, q.2.2) = q.2 from rfl] at hW2
            clear HW1 HW2
            rcases Bool.eq_false_or_eq_true (okN q.1) with ho1 | ho1
            · have ho2 : okN q.2 = false := by unfold okQ at hok; rw [ho1] at hok; simpa using hok
              rw [ho1] at hW1
              rw [ho2] at hW2
              have HX1 := Lib.hid hW1
              have HX2 := Lib.hid hW2
              clear hW1 hW2 hok ho1 ho2
              go_wp2_with (first | (go_at_call_of 48 (Value.float .f32 (xr q)); refine (HX1.out _).mono ?_; rintro e w1 ⟨rfl, rfl⟩) | (go_at_call_of 48 (Value.float .f32 (xi q)); refine (HX2.out _).mono ?_; rintro e w1 ⟨rfl, rfl⟩))
              go_ret
              exact ⟨by rw [H.out]; rfl, by (repeat' (first | assumption | exact Below.refl _ _ | apply Blw.alloc | apply Blw.drew | apply Blw.drewN | (refine Blw.after ?_ (by assumption)) | (refine Blw.set ?_ (by first | (dsimp only; omega) | (simp; done) | (simp; omega)) _)))⟩
            · rw [ho1] at hW1
              have HX1 := Lib.hid hW1
              clear hW1 hW2 hok ho1
              go_wp2_with (go_at_call_of 48 (Value.float .f32 (xr q)); refine (HX1.out _).mono ?_; rintro e w1 ⟨rfl, rfl⟩)
              go_ret
              exact ⟨by rw [H.out]; rfl, by (repeat' (first | assumption | exact Below.refl _ _ | apply Blw.alloc | apply Blw.drew | apply Blw.drewN | (refine Blw.after ?_ (by assumption)) | (refine Blw.set ?_ (by first | (dsimp only; omega) | (simp; done) | (simp; omega)) _)))⟩
        · have H := Lib.hid (pathZ_t (L := L) ⟨by omega, by omega, fun i hi => hst i (by omega)⟩)
          clear hst
          go_wp2_with fail
          go_ret
          exact ⟨by rw [H.out]; rfl, hB⟩
end Go.Proofs.Ytljmmmkehieboaa

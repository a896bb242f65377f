/- FnWindow: whatever the code draws, a window is a path from 0 whose points differ as those of the path, and the window of all has as many points. -/
import Derived.Test.YtljmmmkehieboaaDrawO
import Derived.Test.YtljmmmkehieboaaWns
import Derived.Test.YtljmmmkehieboaaSp
import Derived.Test.YtljmmmkehieboaaBaseP
namespace Go.Proofs.Ytljmmmkehieboaa
set_option linter.unusedSimpArgs false
set_option linter.unusedVariables false
open Go.ChangeShapes Go.WideShapes Go.ChangeAt Go.RowKit Go.Joins

theorem sub_sub (a b c : Int × Int) : subP (subP b c) (subP a c) = subP b a := by
  unfold subP; apply Prod.ext <;> dsimp only <;> omega
theorem nbr_less (a b c : Int × Int) : nbr (subP a c) (subP b c) = nbr a b := by unfold nbr; rw [sub_sub]
theorem pathP_win {Z : List (Int × Int)} (h : PathP Z) {F T : Nat} (h1 : F < T) (h2 : T ≤ Z.length) : PathP (lessL ((Z.take T).drop F)) := by
  obtain ⟨p1, p2, p3⟩ := h
  have hl : ((Z.take T).drop F).length = T - F := by rw [List.length_drop, List.length_take]; omega
  refine ⟨by rw [lessL_len, hl]; omega, by rw [lessL_len, hl]; omega, fun j a b ha hb => ?_⟩
  unfold lessL at ha hb
  rw [List.getElem?_map] at ha hb
  obtain ⟨p, hp, rfl⟩ := Option.map_eq_some_iff.1 ha
  obtain ⟨q, hq, rfl⟩ := Option.map_eq_some_iff.1 hb
  rw [nbr_less]
  have hj := (List.getElem?_eq_some_iff.1 hq).1
  rw [hl] at hj
  rw [List.getElem?_drop, List.getElem?_take_of_lt (by omega)] at hp hq
  exact p3 (F + j) p q hp (by rw [show F + j + 1 = F + (j + 1) by omega]; exact hq)
theorem win_bp {Z : List (Int × Int)} (h : ∀ z ∈ Z, Bp 200 z) : ∀ z ∈ lessL Z, Bp 400 z := by
  intro z hz
  obtain ⟨y, hy, rfl⟩ := List.mem_map.1 hz
  have h1 := h y hy
  have h0 : Bp 200 (zg Z 0) := by
    have hl := List.length_pos_of_mem hy
    rw [zg_get hl]; exact h _ (List.getElem_mem hl)
  unfold Bp subP at *
  dsimp only
  omega
theorem neq_run {z : Int × Int} (h : Bp 1000 z) (t : TypeId) (w : World) : (binOp .neq t (encP z) (encP z)).run Try.prog w = .ok (.bool false) w := by
  have h1 := ff_order (k := .f32) (a := z.1) (b := z.1) (Nat.le_trans h.1 (by omega)) (Nat.le_trans h.1 (by omega))
  have h2 := ff_order (k := .f32) (a := z.2) (b := z.2) (Nat.le_trans h.2 (by omega)) (Nat.le_trans h.2 (by omega))
  rw [Int.compare_eq_eq.2 rfl] at h1 h2
  unfold encP px py
  simp [binOp, Op.complexOp, Op.Complex.cmp, Op.floatCmp, h1, h2, asBool]
theorem wn_in {L : List SZ} {f t : Int} (hq : ∀ q ∈ L, Bq 200 q) : ∀ z ∈ wnA L f t, Bp 400 z := by
  unfold wnA
  split
  · exact win_bp (fun z hz => val_map_bp hq z (List.mem_of_mem_take (List.mem_of_mem_drop hz)))
  · intro z hz; simp at hz
theorem wn_len {L : List SZ} (f t : Int) : (wnA L f t).length ≤ L.length := by
  unfold wnA
  split
  · unfold wnL; rw [lessL_len, List.length_drop, List.length_take, List.length_map]; omega
  · simp
set_option maxRecDepth 100000 in
set_option maxHeartbeats 8000000 in
theorem lawWindow_c (a : Option Addr) (len cap : Nat) (w : World) (hc : len ≤ 1048576 → Code (.slice a len cap) w) : Calls Try.prog 9 #[.slice a len cap] w fun e w' => e = .returned (.bool true) ∧ Below w.heap.size w w' := by
  by_cases hl : 1048576 < len
  · go_enter Try.func9, Try.ntmps9
    go_wp2_with fail
    go_ret
    exact ⟨rfl, by (repeat' (first | assumption | exact Below.refl _ _ | apply Blw.alloc | apply Blw.drew | apply Blw.drewN | (refine Blw.after ?_ (by assumption)) | (refine Blw.set ?_ (by first | (dsimp only; omega) | (simp; done) | (simp; omega)) _)))⟩
  · have hc' := hc (by omega)
    clear hc
    go_enter Try.func9, Try.ntmps9
    go_wp2_with fail
    refine (drawCurveWindow_c _ w hc').mono ?_
    rintro e W1 ⟨v, L, f, t, rfl, ho, hL, hbq, hb1, ⟨f0, f1⟩, ⟨t0, t1⟩⟩
    clear hc'
    have hc0 := ho
    obtain ⟨a1, c1, rfl, hcs, -⟩ := own_csl ho
    have hcap := own_cap hc0
    rw [List.length_map]
    have HC := Lib.hid hcs
    have HBQ := Lib.hid (bq_up hbq (show 200 ≤ 400 by omega))
    have HB1 := Lib.hid hb1
    have HWI := Lib.hid (wn_in (f := f) (t := t) hbq)
    have hwl := wn_len (L := L) f t
    have HBV := Lib.hid (val_map_bp hbq)
    clear ho hc0 hcs hb1 hbq
    go_wp2_with fail
    refine (iCurveWindow_c a1 c1 L f t W1 (by omega) hcap HBQ.out HC.out).mono ?_
    rintro e W2 ⟨v1, rfl, ho1, hb2⟩
    obtain ⟨a2, c2, rfl, hg1, -⟩ := own_csl ho1
    rw [List.length_map]
    have HG1 := Lib.hid hg1
    have HC2 := Lib.hid (HC.out.keep hb2)
    have HB2 := Lib.hid (Blw.after HB1.out hb2)
    clear ho1 hg1 hb2 HB1 HC
    go_wp2_with fail
    refine (sCurveWindow_c a1 c1 L f t W2 (by omega) hcap HBQ.out HC2.out).mono ?_
    rintro e W3 ⟨v2, rfl, ho2, hb3⟩
    obtain ⟨a3, c3, rfl, hg2, -⟩ := own_csl ho2
    rw [List.length_map]
    have HG2 := Lib.hid hg2
    have HG13 := Lib.hid (HG1.out.keep hb3)
    have HC3 := Lib.hid (HC2.out.keep hb3)
    have HB3 := Lib.hid (Blw.after HB2.out hb3)
    clear ho2 hg2 hb3 HB2 HC2 HG1
    have HSP := Lib.hid (fun W (hB : Below W3.heap.size W3 W) => samePoints_c a2 a3 c2 c3 (wnA L f t) W (by omega) (fun z hz => ⟨Nat.le_trans (HWI.out z hz).1 (by omega), Nat.le_trans (HWI.out z hz).2 (by omega)⟩) (HG13.out.keep hB) (HG2.out.keep hB))
    rcases Bool.eq_false_or_eq_true (wnB L f t) with hw | hw
    · obtain ⟨hp, w1, w2, w3⟩ := wnB_iff.1 hw
      have hP := pathZ_iff.1 hp
      have hA := wnA_t hw
      rw [hw]
      have hall : wnB L 0 (L.length : Int) = true := wnB_iff.2 ⟨hp, by omega, by have := hP.1; omega, by omega⟩
      have HCW := Lib.hid (fun W (hB : Below W3.heap.size W3 W) => iCurveWindow_c a1 c1 L 0 (L.length : Int) W (by omega) hcap HBQ.out (HC3.out.keep hB))
      have HALL := Lib.hid hall
      have hallL : (wnA L 0 (L.length : Int)).length = L.length := by
        rw [wnA_t hall]; unfold wnL
        rw [lessL_len, Int.toNat_natCast, List.length_drop, List.length_take, List.length_map]; simp
      have HALEN := Lib.hid hallL
      obtain ⟨F, rfl⟩ : ∃ F : Nat, f = (F : Int) := ⟨f.toNat, by omega⟩
      obtain ⟨T, rfl⟩ : ∃ T : Nat, t = (T : Int) := ⟨t.toNat, by omega⟩
      have hzl : (L.map val).length = L.length := by rw [List.length_map]
      have hPW := pathP_win (pathP_of hP) (F := F) (T := T) (by omega) (by omega)
      have hWlen : (wnA L (F : Int) (T : Int)).length = T - F := by
        rw [hA]; unfold wnL
        rw [lessL_len, Int.toNat_natCast, Int.toNat_natCast, List.length_drop, List.length_take, List.length_map]; omega
      have hWat : ∀ k, (hk : k < T - F) → (wnA L (F : Int) (T : Int))[k]? = some (subP (zg (L.map val) (F + k)) (zg (L.map val) F)) := fun k hk => by
        rw [hA]
        unfold wnL lessL
        rw [Int.toNat_natCast, Int.toNat_natCast, List.getElem?_map, List.getElem?_drop, List.getElem?_take_of_lt (by omega), List.getElem?_eq_getElem (show F + k < (L.map val).length by omega), zg_get (Z := L.map val) (k := F + k) (by omega)]
        have e0 : zg (((L.map val).take T).drop F) 0 = zg (L.map val) F := by
          unfold zg; rw [List.getElem?_drop, List.getElem?_take_of_lt (by omega), Nat.add_zero]
        rw [e0]; rfl
      have hPW2 : PathP (wnA L (F : Int) (T : Int)) := by rw [hA]; unfold wnL; rw [Int.toNat_natCast, Int.toNat_natCast]; exact hPW
      have hcz : CSl a1 ((L.map val).map encP) W3 := by rw [← enc_of hP]; exact HC3.out
      generalize L.map val = Z at *
      have HZB := Lib.hid (fun k => (show Bp 200 (zg Z k) from by
        by_cases hk : k < Z.length
        · rw [zg_get hk]; exact HBV.out _ (List.getElem_mem hk)
        · unfold zg; rw [List.getElem?_eq_none (by omega)]; unfold Bp; decide))
      generalize wnA L (F : Int) (T : Int) = V at *
      have HWAT := Lib.hid hWat
      obtain ⟨g, o, rfl, hg, hcell⟩ := cs_at hcz (by omega)
      obtain ⟨g2, o2, rfl, hg2, hcell2⟩ := cs_at HG13.out (by omega)
      have HCL := Lib.hid hcell
      have HCL2 := Lib.hid hcell2
      have HPT := Lib.hid (fun W (hB : Below W3.heap.size W3 W) => iCurvePath_c (some ⟨g2, o2, none⟩) c2 (V.map canQ) W (by rw [List.length_map]; omega) (bq_can HWI.out) (by rw [canQ_map]; exact HG13.out.keep hB))
      rw [pathZ_t (pathZ_can hPW2), List.length_map] at HPT
      have wF : F < T := by omega
      have wT : T ≤ L.length := by omega
      have HE1 := Lib.hid (show ((V.length : Nat) : Int) = (T : Int) - (F : Int) from by omega)
      have HVL := Lib.hid hWlen
      have v1 : V.length ≤ 70 := by omega
      have q0 := fun w t => run_ceqP (P := Try.prog) w t (d := (0, 0)) (e := (0, 0)) (by unfold Bp; decide) (by unfold Bp; decide)
      rw [enc00] at q0
      have vT : ∀ k, k < V.length → F + k < L.length := fun k hk => by omega
      have HVT := Lib.hid vT
      have HZL := Lib.hid hzl
      clear vT hzl hWlen hp hP hA hall hallL hPW hPW2 hcz hcell hcell2 hWat hw w1 w2 w3 HG13 HG2 HC3 HBQ HBV HWI f0 f1 t0 t1
      go_wp2_with fail
      refine (HSP.out _ (Below.refl _ _)).mono ?_
      rintro e W4 ⟨rfl, hb4⟩
      have HB4 := Lib.hid hb4
      clear hb4 HSP
      go_wp2_with fail
      refine (HCW.out _ HB4.out).mono ?_
      rintro e W5 ⟨v5, rfl, ho5, hb5⟩
      obtain ⟨a5, c5, rfl, -, -⟩ := own_csl ho5
      rw [List.length_map, HALL.out, HALEN.out]
      have HB5 := Lib.hid (Blw.after HB4.out hb5)
      clear ho5 hb5 HB4 HCW HALL HALEN
      go_wp2_with fail
      go_loopg [12] V.length (fun m i wr => SpRel V.length W5 m i wr)
      case atStart => exact ⟨0, by omega, rfl, Below.refl _ _⟩
      case round =>
        obtain ⟨k, hk, rfl, hB⟩ := hrel
        by_cases hlt : k < V.length
        · have hBW := Blw.after HB5.out hB
          have hFk := HVT.out k hlt
          have cV := keepcell hBW (HCL2.out k hlt)
          have cA := keepcell hBW (HCL.out (F + k) (by have := HZL.out; omega))
          have cB := keepcell hBW (HCL.out F (by have := HZL.out; omega))
          have hat := HWAT.out k (by have := HVL.out; omega)
          rw [List.getElem?_eq_getElem hlt] at hat
          rw [Option.some.inj hat] at cV
          rw [← zg_get (by have := HZL.out; omega)] at cA cB
          have b1 := HZB.out (F + k)
          have b2 := HZB.out F
          have f1 := fun w t => run_psub (P := Try.prog) w t (p := zg Z (F + k)) (q := zg Z F) ⟨Nat.le_trans b1.1 (by omega), Nat.le_trans b1.2 (by omega)⟩ ⟨Nat.le_trans b2.1 (by omega), Nat.le_trans b2.2 (by omega)⟩
          have f2 := fun w t => neq_run (z := subP (zg Z (F + k)) (zg Z F)) (by unfold Bp subP at *; dsimp only; omega) t w
          have Lg : g < wr.heap.size := World.block_lt_of_cell? wr _ cA
          have Lg2 : g2 < wr.heap.size := World.block_lt_of_cell? wr _ cV
          have a1 : (F : Int) + (k : Int) = ((F + k : Nat) : Int) := by omega
          have lF : F < L.length := by omega
          clear hBW hat b1 b2
          generalize subP (zg Z (F + k)) (zg Z F) = d at *
          generalize zg Z (F + k) = za at *
          generalize zg Z F = zb at *
          generalize F + k = J at *
          go_wp2_with fail
          refine region_slots (fun _ => True) [] [(70, .is (.slice (some ⟨g2, o2, none⟩) V.length c2)), (71, .is (.int .i64 (k : Nat))), (72, .is (.pointer (some ⟨g2, o2 + k, none⟩))), (73, .is (encP d)), (74, .is (.slice (some ⟨g, o, none⟩) L.length c1)), (75, .is (.int .i64 (F : Nat))), (76, .is (.int .i64 (k : Nat))), (77, .is (.int .i64 (J : Nat))), (78, .is (.pointer (some ⟨g, o + J, none⟩))), (79, .is (encP za)), (80, .is (.slice (some ⟨g, o, none⟩) L.length c1)), (81, .is (.int .i64 (F : Nat))), (82, .is (.pointer (some ⟨g, o + F, none⟩))), (83, .is (encP zb)), (84, .is (encP d)), (85, .is (.bool false))] (by kernel_rfl) (by kernel_rfl) (by kernel_rfl) (fun _ _ => trivial) (fun _ _ _ _ _ _ h => h) ?_
          simp only [Steps, List.contains_cons, List.contains_nil, Nat.reduceBEq, Nat.reduceAdd, Bool.or_false, Bool.false_or, Bool.or_true, Bool.true_or, Bool.false_eq_true, if_false, if_true]
          refine ⟨?_, ?_, ?_, ?_, ?_, ?_, ?_, ?_, ?_, ?_, ?_, ?_, ?_, ?_, ?_, ?_, ?_⟩
          · intro u w2 hH hd K hK
            simp only [setU, upd, List.map_cons, List.map_nil, List.contains_cons, List.contains_nil, Nat.reduceBEq, Nat.reduceAdd, Bool.or_false, Bool.false_or, Bool.or_true, Bool.true_or, Bool.false_eq_true, if_false, if_true, ite_true, ite_false, Nat.reduceEqDiff, beq_self_eq_true] at hK ⊢
            go_wp2_with (fail)
            exact hK _ _ (by (repeat' (first | assumption | exact Below.refl _ _ | apply Blw.alloc | apply Blw.drew | apply Blw.drewN | (refine Blw.after ?_ (by assumption)) | (refine Blw.set ?_ (by first | (dsimp only; omega) | (simp; done) | (simp; omega)) _)))) rfl
          · intro u w2 hH hd K hK
            simp only [setU, upd, List.map_cons, List.map_nil, List.contains_cons, List.contains_nil, Nat.reduceBEq, Nat.reduceAdd, Bool.or_false, Bool.false_or, Bool.or_true, Bool.true_or, Bool.false_eq_true, if_false, if_true, ite_true, ite_false, Nat.reduceEqDiff, beq_self_eq_true] at hK ⊢
            go_wp2_with (fail)
            exact hK _ _ (by (repeat' (first | assumption | exact Below.refl _ _ | apply Blw.alloc | apply Blw.drew | apply Blw.drewN | (refine Blw.after ?_ (by assumption)) | (refine Blw.set ?_ (by first | (dsimp only; omega) | (simp; done) | (simp; omega)) _)))) rfl
          · intro u w2 hH hd K hK
            have f70 : u 70 = (.slice (some ⟨g2, o2, none⟩) V.length c2) := hd 70 (by kernel_rfl)
            have f71 : u 71 = (.int .i64 (k : Nat)) := hd 71 (by kernel_rfl)
            simp only [setU, upd, List.map_cons, List.map_nil, List.contains_cons, List.contains_nil, Nat.reduceBEq, Nat.reduceAdd, Bool.or_false, Bool.false_or, Bool.or_true, Bool.true_or, Bool.false_eq_true, if_false, if_true, ite_true, ite_false, Nat.reduceEqDiff, beq_self_eq_true] at hK ⊢
            rw [f70, f71] at hK ⊢
            clear f70 f71
            go_wp2_with (fail)
            exact hK _ _ (by (repeat' (first | assumption | exact Below.refl _ _ | apply Blw.alloc | apply Blw.drew | apply Blw.drewN | (refine Blw.after ?_ (by assumption)) | (refine Blw.set ?_ (by first | (dsimp only; omega) | (simp; done) | (simp; omega)) _)))) rfl
          · intro u w2 hH hd K hK
            have f72 : u 72 = (.pointer (some ⟨g2, o2 + k, none⟩)) := hd 72 (by kernel_rfl)
            simp only [setU, upd, List.map_cons, List.map_nil, List.contains_cons, List.contains_nil, Nat.reduceBEq, Nat.reduceAdd, Bool.or_false, Bool.false_or, Bool.or_true, Bool.true_or, Bool.false_eq_true, if_false, if_true, ite_true, ite_false, Nat.reduceEqDiff, beq_self_eq_true] at hK ⊢
            rw [f72] at hK ⊢
            clear f72
            go_wp2_with (fail)
            exact hK _ _ (by (repeat' (first | assumption | exact Below.refl _ _ | apply Blw.alloc | apply Blw.drew | apply Blw.drewN | (refine Blw.after ?_ (by assumption)) | (refine Blw.set ?_ (by first | (dsimp only; omega) | (simp; done) | (simp; omega)) _)))) rfl
          · intro u w2 hH hd K hK
            simp only [setU, upd, List.map_cons, List.map_nil, List.contains_cons, List.contains_nil, Nat.reduceBEq, Nat.reduceAdd, Bool.or_false, Bool.false_or, Bool.or_true, Bool.true_or, Bool.false_eq_true, if_false, if_true, ite_true, ite_false, Nat.reduceEqDiff, beq_self_eq_true] at hK ⊢
            go_wp2_with (fail)
            exact hK _ _ (by (repeat' (first | assumption | exact Below.refl _ _ | apply Blw.alloc | apply Blw.drew | apply Blw.drewN | (refine Blw.after ?_ (by assumption)) | (refine Blw.set ?_ (by first | (dsimp only; omega) | (simp; done) | (simp; omega)) _)))) rfl
          · intro u w2 hH hd K hK
            simp only [setU, upd, List.map_cons, List.map_nil, List.contains_cons, List.contains_nil, Nat.reduceBEq, Nat.reduceAdd, Bool.or_false, Bool.false_or, Bool.or_true, Bool.true_or, Bool.false_eq_true, if_false, if_true, ite_true, ite_false, Nat.reduceEqDiff, beq_self_eq_true] at hK ⊢
            go_wp2_with (fail)
            exact hK _ _ (by (repeat' (first | assumption | exact Below.refl _ _ | apply Blw.alloc | apply Blw.drew | apply Blw.drewN | (refine Blw.after ?_ (by assumption)) | (refine Blw.set ?_ (by first | (dsimp only; omega) | (simp; done) | (simp; omega)) _)))) rfl
          · intro u w2 hH hd K hK
            simp only [setU, upd, List.map_cons, List.map_nil, List.contains_cons, List.contains_nil, Nat.reduceBEq, Nat.reduceAdd, Bool.or_false, Bool.false_or, Bool.or_true, Bool.true_or, Bool.false_eq_true, if_false, if_true, ite_true, ite_false, Nat.reduceEqDiff, beq_self_eq_true] at hK ⊢
            go_wp2_with (fail)
            exact hK _ _ (by (repeat' (first | assumption | exact Below.refl _ _ | apply Blw.alloc | apply Blw.drew | apply Blw.drewN | (refine Blw.after ?_ (by assumption)) | (refine Blw.set ?_ (by first | (dsimp only; omega) | (simp; done) | (simp; omega)) _)))) rfl
          · intro u w2 hH hd K hK
            have f75 : u 75 = (.int .i64 (F : Nat)) := hd 75 (by kernel_rfl)
            have f76 : u 76 = (.int .i64 (k : Nat)) := hd 76 (by kernel_rfl)
            simp only [setU, upd, List.map_cons, List.map_nil, List.contains_cons, List.contains_nil, Nat.reduceBEq, Nat.reduceAdd, Bool.or_false, Bool.false_or, Bool.or_true, Bool.true_or, Bool.false_eq_true, if_false, if_true, ite_true, ite_false, Nat.reduceEqDiff, beq_self_eq_true] at hK ⊢
            rw [f75, f76] at hK ⊢
            clear f75 f76
            go_wp2_with (fail)
            exact hK _ _ (by (repeat' (first | assumption | exact Below.refl _ _ | apply Blw.alloc | apply Blw.drew | apply Blw.drewN | (refine Blw.after ?_ (by assumption)) | (refine Blw.set ?_ (by first | (dsimp only; omega) | (simp; done) | (simp; omega)) _)))) rfl
          · intro u w2 hH hd K hK
            have f74 : u 74 = (.slice (some ⟨g, o, none⟩) L.length c1) := hd 74 (by kernel_rfl)
            have f77 : u 77 = (.int .i64 (J : Nat)) := hd 77 (by kernel_rfl)
            simp only [setU, upd, List.map_cons, List.map_nil, List.contains_cons, List.contains_nil, Nat.reduceBEq, Nat.reduceAdd, Bool.or_false, Bool.false_or, Bool.or_true, Bool.true_or, Bool.false_eq_true, if_false, if_true, ite_true, ite_false, Nat.reduceEqDiff, beq_self_eq_true] at hK ⊢
            rw [f74, f77] at hK ⊢
            clear f74 f77
            go_wp2_with (fail)
            exact hK _ _ (by (repeat' (first | assumption | exact Below.refl _ _ | apply Blw.alloc | apply Blw.drew | apply Blw.drewN | (refine Blw.after ?_ (by assumption)) | (refine Blw.set ?_ (by first | (dsimp only; omega) | (simp; done) | (simp; omega)) _)))) rfl
          · intro u w2 hH hd K hK
            have f78 : u 78 = (.pointer (some ⟨g, o + J, none⟩)) := hd 78 (by kernel_rfl)
            simp only [setU, upd, List.map_cons, List.map_nil, List.contains_cons, List.contains_nil, Nat.reduceBEq, Nat.reduceAdd, Bool.or_false, Bool.false_or, Bool.or_true, Bool.true_or, Bool.false_eq_true, if_false, if_true, ite_true, ite_false, Nat.reduceEqDiff, beq_self_eq_true] at hK ⊢
            rw [f78] at hK ⊢
            clear f78
            go_wp2_with (fail)
            exact hK _ _ (by (repeat' (first | assumption | exact Below.refl _ _ | apply Blw.alloc | apply Blw.drew | apply Blw.drewN | (refine Blw.after ?_ (by assumption)) | (refine Blw.set ?_ (by first | (dsimp only; omega) | (simp; done) | (simp; omega)) _)))) rfl
          · intro u w2 hH hd K hK
            simp only [setU, upd, List.map_cons, List.map_nil, List.contains_cons, List.contains_nil, Nat.reduceBEq, Nat.reduceAdd, Bool.or_false, Bool.false_or, Bool.or_true, Bool.true_or, Bool.false_eq_true, if_false, if_true, ite_true, ite_false, Nat.reduceEqDiff, beq_self_eq_true] at hK ⊢
            go_wp2_with (fail)
            exact hK _ _ (by (repeat' (first | assumption | exact Below.refl _ _ | apply Blw.alloc | apply Blw.drew | apply Blw.drewN | (refine Blw.after ?_ (by assumption)) | (refine Blw.set ?_ (by first | (dsimp only; omega) | (simp; done) | (simp; omega)) _)))) rfl
          · intro u w2 hH hd K hK
            simp only [setU, upd, List.map_cons, List.map_nil, List.contains_cons, List.contains_nil, Nat.reduceBEq, Nat.reduceAdd, Bool.or_false, Bool.false_or, Bool.or_true, Bool.true_or, Bool.false_eq_true, if_false, if_true, ite_true, ite_false, Nat.reduceEqDiff, beq_self_eq_true] at hK ⊢
            go_wp2_with (fail)
            exact hK _ _ (by (repeat' (first | assumption | exact Below.refl _ _ | apply Blw.alloc | apply Blw.drew | apply Blw.drewN | (refine Blw.after ?_ (by assumption)) | (refine Blw.set ?_ (by first | (dsimp only; omega) | (simp; done) | (simp; omega)) _)))) rfl
          · intro u w2 hH hd K hK
            have f80 : u 80 = (.slice (some ⟨g, o, none⟩) L.length c1) := hd 80 (by kernel_rfl)
            have f81 : u 81 = (.int .i64 (F : Nat)) := hd 81 (by kernel_rfl)
            simp only [setU, upd, List.map_cons, List.map_nil, List.contains_cons, List.contains_nil, Nat.reduceBEq, Nat.reduceAdd, Bool.or_false, Bool.false_or, Bool.or_true, Bool.true_or, Bool.false_eq_true, if_false, if_true, ite_true, ite_false, Nat.reduceEqDiff, beq_self_eq_true] at hK ⊢
            rw [f80, f81] at hK ⊢
            clear f80 f81
            go_wp2_with (fail)
            exact hK _ _ (by (repeat' (first | assumption | exact Below.refl _ _ | apply Blw.alloc | apply Blw.drew | apply Blw.drewN | (refine Blw.after ?_ (by assumption)) | (refine Blw.set ?_ (by first | (dsimp only; omega) | (simp; done) | (simp; omega)) _)))) rfl
          · intro u w2 hH hd K hK
            have f82 : u 82 = (.pointer (some ⟨g, o + F, none⟩)) := hd 82 (by kernel_rfl)
            simp only [setU, upd, List.map_cons, List.map_nil, List.contains_cons, List.contains_nil, Nat.reduceBEq, Nat.reduceAdd, Bool.or_false, Bool.false_or, Bool.or_true, Bool.true_or, Bool.false_eq_true, if_false, if_true, ite_true, ite_false, Nat.reduceEqDiff, beq_self_eq_true] at hK ⊢
            rw [f82] at hK ⊢
            clear f82
            go_wp2_with (fail)
            exact hK _ _ (by (repeat' (first | assumption | exact Below.refl _ _ | apply Blw.alloc | apply Blw.drew | apply Blw.drewN | (refine Blw.after ?_ (by assumption)) | (refine Blw.set ?_ (by first | (dsimp only; omega) | (simp; done) | (simp; omega)) _)))) rfl
          · intro u w2 hH hd K hK
            have f79 : u 79 = (encP za) := hd 79 (by kernel_rfl)
            have f83 : u 83 = (encP zb) := hd 83 (by kernel_rfl)
            simp only [setU, upd, List.map_cons, List.map_nil, List.contains_cons, List.contains_nil, Nat.reduceBEq, Nat.reduceAdd, Bool.or_false, Bool.false_or, Bool.or_true, Bool.true_or, Bool.false_eq_true, if_false, if_true, ite_true, ite_false, Nat.reduceEqDiff, beq_self_eq_true] at hK ⊢
            rw [f79, f83] at hK ⊢
            clear f79 f83
            go_wp2_with (fail)
            exact hK _ _ (by (repeat' (first | assumption | exact Below.refl _ _ | apply Blw.alloc | apply Blw.drew | apply Blw.drewN | (refine Blw.after ?_ (by assumption)) | (refine Blw.set ?_ (by first | (dsimp only; omega) | (simp; done) | (simp; omega)) _)))) rfl
          · intro u w2 hH hd K hK
            have f73 : u 73 = (encP d) := hd 73 (by kernel_rfl)
            have f84 : u 84 = (encP d) := hd 84 (by kernel_rfl)
            simp only [setU, upd, List.map_cons, List.map_nil, List.contains_cons, List.contains_nil, Nat.reduceBEq, Nat.reduceAdd, Bool.or_false, Bool.false_or, Bool.or_true, Bool.true_or, Bool.false_eq_true, if_false, if_true, ite_true, ite_false, Nat.reduceEqDiff, beq_self_eq_true] at hK ⊢
            rw [f73, f84] at hK ⊢
            clear f73 f84
            go_wp2_with (fail)
            exact hK _ _ (by (repeat' (first | assumption | exact Below.refl _ _ | apply Blw.alloc | apply Blw.drew | apply Blw.drewN | (refine Blw.after ?_ (by assumption)) | (refine Blw.set ?_ (by first | (dsimp only; omega) | (simp; done) | (simp; omega)) _)))) rfl
          intro u w2 hH hF hne
          have hH1 := hH.1
          have hH2 := hH.2.2.2
          simp only [allFacts, SlotFact.h] at hF
          obtain ⟨f70, f71, f72, f73, f74, f75, f76, f77, f78, f79, f80, f81, f82, f83, f84, f85, -⟩ := hF
          simp only [setU, upd, List.map_cons, List.map_nil, List.contains_cons, List.contains_nil, Nat.reduceBEq, Nat.reduceAdd, Bool.or_false, Bool.false_or, Bool.or_true, Bool.true_or, Bool.false_eq_true, if_false, if_true, ite_true, ite_false, Nat.reduceEqDiff, beq_self_eq_true]
          rw [f70, f71, f72, f73, f74, f75, f76, f77, f78, f79, f80, f81, f82, f83, f84, f85]
          clear f70 f71 f72 f73 f74 f75 f76 f77 f78 f79 f80 f81 f82 f83 f84 f85 hne
          refine wpListS_true ?_
          go_wp2
          go_roundg (gk - 1)
          case measure => omega
          case rel => exact ⟨k + 1, by omega, by go_num, by (repeat' (first | assumption | exact Below.refl _ _ | apply Blw.alloc | apply Blw.drew | apply Blw.drewN | (refine Blw.after ?_ (by assumption)) | (refine Blw.set ?_ (by first | (dsimp only; omega) | (simp; done) | (simp; omega)) _)))⟩
        · obtain rfl : k = V.length := by omega
          have HB6 := Lib.hid (Blw.after HB5.out hB)
          clear hB
          go_wp2_with fail
          refine (HPT.out _ HB6.out).mono ?_
          rintro e W7 ⟨rfl, hb7⟩
          have hB7 := Blw.after HB6.out hb7
          have c0 := keepcell hB7 (HCL2.out 0 (by have := HVL.out; omega))
          have hat := HWAT.out 0 (by omega)
          rw [List.getElem?_eq_getElem (by have := HVL.out; omega), Nat.add_zero, show subP (zg Z F) (zg Z F) = (0, 0) by unfold subP; apply Prod.ext <;> dsimp only <;> omega] at hat
          rw [Option.some.inj hat, enc00, Nat.add_zero] at c0
          have HB7 := Lib.hid (Blw.after HB3.out hB7)
          have lv : 0 < V.length := by have := HVL.out; omega
          have e1 := HE1.out
          have ex : (((V.length : Nat) : Int) == (T : Int) - (F : Int)) = true := by simp [e1]
          clear hat hb7 hB7 e1 HPT
          go_wp2_with fail
          go_ret
          exact ⟨rfl, HB7.out⟩
    · rw [hw]
      go_wp2_with fail
      refine (HSP.out _ (Below.refl _ _)).mono ?_
      rintro e W4 ⟨rfl, hb4⟩
      have HB4 := Lib.hid hb4
      clear hb4
      go_wp2_with fail
      refine (HSP.out _ HB4.out).mono ?_
      rintro e W5 ⟨rfl, hb5⟩
      have HB5 := Lib.hid (Blw.after HB3.out (Blw.after HB4.out hb5))
      clear hb5
      go_wp2_with fail
      go_ret
      exact ⟨rfl, HB5.out⟩

namespace lawFnWindow
set_option maxRecDepth 100000 in
theorem lifted (os : Os) (started : os.Started) (H : Type) (enc : TypeId × Value → H) :
    ReturnsInHanded {} Try.checked os 9 .any (Rows.fnWindowSpec.pre6 enc Try.prog Try.f9 Rows.fnWindowRow.domain false) (Rows.fnWindowSpec.post enc Try.prog Try.f9 false true false false) := by
  refine returnsInHanded_of_change (C := Try.checked) own started (by kernel_rfl) Try.func9
    (ChangeSpec.witness6 (enc := enc) (C := Try.checked) false ⟨#[], #[.slice none 0 0], []⟩ 8 (by kernel_rfl) (by kernel_rfl) (by kernel_rfl) (by kernel_rfl)) ?_
  intro W base args ds gs before hval0 hW _ _
  have hval : ∀ (j : Nat) t v, Try.f9.params[j]? = some t → args[j]? = some v → Value.okWide Try.prog W .any base t v := hval0
  have hW' := hW
  obtain ⟨p, q, hA0, hV, rfl, _, _⟩ := hW
  have hA : DataW.TrodAll enc Try.prog W 0 (fun _ => true) true Try.f9.params.toList args.toList ds p := hA0
  rw [Try.params9] at hA hval
  obtain ⟨v0, vs0, d0, ds0, p0, q0, hargs, rfl, rfl, h0, r0⟩ := trodAll_cons hA
  obtain ⟨rfl, rfl, rfl⟩ := trodAll_nil r0
  obtain rfl : args = #[v0] := by cases args; simp_all
  obtain ⟨rfl, rfl⟩ := trodVars_none hV
  obtain ⟨a, len, cap, rfl⟩ := okWide_slice Try.underlying22 (hval 0 22 v0 rfl rfl)
  clear hA0 hval0
  simp only [List.append_nil] at hW'
  have hlt : ∀ x ∈ p0, x.block < W.heap.size := fun x hx => by simpa using hW'.lt x hx
  refine (lawWindow_c a len cap W (code_of h0)).mono fun e W' ⟨he, hg⟩ => ?_
  subst he
  have harg := Below.trod laidOut (by kernel_rfl) (of_decide_eq_true (by kernel_rfl)) h0 hg hlt
  refine ⟨_, rfl, _, _, _, [], p0, [], hW', ?_, ?_, ?_, hg.frame _, fun h => by cases h⟩
  · exact trodAll_cons_mk (shut_bool Try.underlying4 _) trodAll_mk0
  · exact trodAll_mk1 harg
  · rfl

theorem proved : Rows.FnWindowSaid :=
  OpenClaim.holds_of_wide 9 Try.f9 rfl rfl rfl rfl rfl rfl rfl ⟨rfl, rfl, rfl, rfl, rfl⟩ rfl rfl rfl rfl rfl (by kernel_rfl) Try.func9 (by kernel_rfl)
    (of_decide_eq_true (by kernel_rfl)) (by unfold Func.isWrapper; first | (rw [if_pos (by decide +kernel)]; kernel_rfl) | (rw [if_neg (by decide +kernel)]; exact ⟨rfl, rfl⟩))
    (fun os started H enc _ => lifted os started H enc)
end lawFnWindow
end Go.Proofs.Ytljmmmkehieboaa

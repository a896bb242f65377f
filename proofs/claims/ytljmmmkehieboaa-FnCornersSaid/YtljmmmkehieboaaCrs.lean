/- Chapter 5: CurveCorners, the model's side. No law is stated here. -/
import Derived.Test.YtljmmmkehieboaaCr
import Derived.Test.YtljmmmkehieboaaReg
namespace Go.Proofs.Ytljmmmkehieboaa
set_option linter.unusedSimpArgs false
set_option linter.unusedVariables false
open Go.RowKit Ieee

noncomputable def crN (L : List SZ) : Nat := if pathZ L = true then (visE (L.map val) L.length).length else 0
noncomputable def crM (L : List SZ) : Nat := if pathZ L = true then visM (L.map val) L.length else 0
noncomputable abbrev crV (L : List SZ) : Value := .tuple #[.int .i64 (crN L : Nat), .int .i64 (crM L : Nat), .bool (pathZ L)]
theorem crV_t {L : List SZ} (h : pathZ L = true) : crV L = .tuple #[.int .i64 ((visE (L.map val) L.length).length : Nat), .int .i64 (visM (L.map val) L.length : Nat), .bool true] := by unfold crV crN crM; rw [if_pos h, if_pos h, h]
theorem crV_f {L : List SZ} (h : pathZ L = false) : crV L = .tuple #[.int .i64 0, .int .i64 0, .bool false] := by
  unfold crV crN crM; rw [h]; rfl
/-- whether none of the first points that stands before i is the point at i -/
def fsB (Z : List (Int × Int)) (i : Nat) : Nat → Bool
  | 0 => true
  | k + 1 => if zg Z i = zg Z k then fsB Z i k && decide (i ≤ k) else fsB Z i k
theorem fsB_iff (Z : List (Int × Int)) (i : Nat) : ∀ k, fsB Z i k = true ↔ ∀ j, j < k → zg Z i = zg Z j → i ≤ j := by
  intro k
  induction k with
  | zero => exact ⟨fun _ j h => by omega, fun _ => rfl⟩
  | succ k ih =>
    rw [fsB]
    by_cases e : zg Z i = zg Z k
    · rw [if_pos e, Bool.and_eq_true, ih, decide_eq_true_eq]
      constructor
      · intro ⟨h1, h2⟩ j hj hz
        rcases Nat.lt_or_eq_of_le (Nat.lt_succ_iff.1 hj) with h | h
        · exact h1 j h hz
        · omega
      · intro h
        exact ⟨fun j hj hz => h j (by omega) hz, h k (by omega) e⟩
    · rw [if_neg e, ih]
      constructor
      · intro h1 j hj hz
        rcases Nat.lt_or_eq_of_le (Nat.lt_succ_iff.1 hj) with h | h
        · exact h1 j h hz
        · rw [h] at hz; exact absurd hz e
      · intro h j hj hz
        exact h j (by omega) hz
theorem fsB_mem {Z : List (Int × Int)} {i : Nat} (hi : i < Z.length) : fsB Z i Z.length = true ↔ ¬ zg Z i ∈ Z.take i := by
  rw [fsB_iff]
  constructor
  · intro h hm
    obtain ⟨j, hj, e⟩ := List.mem_iff_getElem.1 hm
    rw [List.length_take] at hj
    rw [List.getElem_take, ← zg_get (by omega)] at e
    have := h j (by omega) e.symm
    omega
  · intro h j hj e
    apply Classical.byContradiction
    intro hlt
    apply h
    rw [e, zg_get hj]
    exact List.mem_iff_getElem.2 ⟨j, by rw [List.length_take]; omega, by rw [List.getElem_take]⟩
theorem nwS_step {Z : List (Int × Int)} {i : Nat} (hi : i < Z.length) : nwS Z (i + 1) = if fsB Z i Z.length = true then nwS Z i + 1 else nwS Z i := by
  rw [nwS]
  by_cases h : zg Z i ∈ Z.take i
  · rw [if_pos h, if_neg (fun e => (fsB_mem hi).1 e h), Nat.add_zero]
  · rw [if_neg h, if_pos ((fsB_mem hi).2 h)]
theorem nwS_le (Z : List (Int × Int)) : ∀ k, nwS Z k ≤ k := by
  intro k
  induction k with
  | zero => exact Nat.le_refl _
  | succ k ih => rw [nwS]; split <;> omega
theorem numB_le (Z : List (Int × Int)) (z : Int × Int) : ∀ k, numB Z z k ≤ k := by
  intro k
  induction k with
  | zero => exact Nat.le_refl _
  | succ k ih => rw [numB]; split <;> omega
theorem mxS_le (Z : List (Int × Int)) : ∀ k, mxS Z k ≤ Z.length := by
  intro k
  rw [mxS_iff]
  intro j _
  exact numB_le _ _ _
def CoRel (Z : List (Int × Int)) (w : World) (m : Nat) (x y i : Value) (wr : World) : Prop :=
  ∃ k : Nat, k + m = Z.length ∧ i = .int .i64 k ∧ x = .int .i64 (nwS Z k : Nat) ∧ y = .int .i64 (mxS Z k : Nat) ∧ Below w.heap.size w wr
def CiRel (Z : List (Int × Int)) (w : World) (i m : Nat) (v f j : Value) (wr : World) : Prop :=
  ∃ k : Nat, k + m = Z.length ∧ j = .int .i64 k ∧ v = .int .i64 (numB Z (zg Z i) k : Nat) ∧ f = .bool (fsB Z i k) ∧ Below w.heap.size w wr
set_option maxRecDepth 100000 in
set_option maxHeartbeats 8000000 in
theorem sCurveCorners_c (a : Option Addr) (c : Nat) (L : List SZ) (w : World) (hl : L.length ≤ 1000000) (hS : ∀ q ∈ L, Bq 400 q) (h : CSl a (L.map encZ) w) : Calls Try.prog 26 #[.slice a L.length c] w fun e w' => e = .returned (crV L) ∧ Below w.heap.size w w' := by
  have HP := Lib.hid (sCurvePath_c a c L w hl hS h)
  rcases Bool.eq_false_or_eq_true (pathZ L) with hp | hp
  · have H := Lib.hid (crV_t hp)
    have hP := pathZ_iff.1 hp
    have HZB := Lib.hid (val_map_bp hS)
    have hcz : CSl a ((L.map val).map encP) w := by rw [← enc_of hP]; exact h
    have hzl : (L.map val).length = L.length := by rw [List.length_map]
    have h1 := hP.1
    have h2 := hP.2.1
    rw [hp] at HP
    generalize L.map val = Z at *
    obtain ⟨g, o, rfl, hg, hcell⟩ := cs_at hcz (by omega)
    have HCL := Lib.hid hcell
    clear hP hp hcz hcell hS h
    go_enter Try.func26, Try.ntmps26
    go_wp2_with fail
    refine HP.out.mono ?_
    rintro e w1 ⟨rfl, hb⟩
    have HCL1 := Lib.hid (fun k hk => keepcell hb (HCL.out k hk))
    have HB1 := Lib.hid hb
    clear hb HP HCL
    go_wp2_with fail
    go_loopg [5, 6, 7, 8, 9, 10] Z.length (fun m x y i p q r wr => CoRel Z w1 m x y i wr)
    case atStart => exact ⟨0, by omega, rfl, rfl, rfl, Below.refl _ _⟩
    case round =>
      obtain ⟨i, hi, rfl, rfl, rfl, hBo⟩ := hrel
      have bn := nwS_le Z i
      have bm := mxS_le Z i
      by_cases hlt : i < Z.length
      · have HBO := Lib.hid hBo
        obtain ⟨g0, hg0⟩ : ∃ g0 : Nat, g0 = gk := ⟨_, rfl⟩
        have HG0 := Lib.hid hg0
        clear hg0
        have HST := Lib.hid (nwS_step hlt)
        have HMX := Lib.hid (show mxS Z (i + 1) = max (mxS Z i) (numB Z (zg Z i) Z.length) from rfl)
        have hli : i < L.length := by omega
        generalize nwS Z i = nn at *
        generalize mxS Z i = mm at *
        clear hBo
        have SI := Lib.hid (show CiRel Z w1 i Z.length (.int .i64 0) (.bool true) (.int .i64 0) wr from ⟨0, by omega, rfl, rfl, rfl, HBO.out⟩)
        go_wp2_with fail
        go_loopg [8, 9, 10] Z.length (fun m v f j wr => CiRel Z w1 i m v f j wr)
        case atStart => exact SI.out
        case round =>
          clear SI HBO
          obtain ⟨k, hk, rfl, rfl, rfl, hB⟩ := hrel
          have bv := numB_le Z (zg Z i) k
          by_cases hlk : k < Z.length
          · have ck := keepcell hB (HCL1.out k hlk)
            have ci := keepcell hB (HCL1.out i hlt)
            rw [← zg_get hlk] at ck
            rw [← zg_get hlt] at ci
            have lk : k < L.length := by omega
            have bk := zg_in HZB.out k
            have bi := zg_in HZB.out i
            have f1 := fun w t => run_ceqP (P := Try.prog) w t (d := zg Z k) (e := zg Z i) ⟨Nat.le_trans bk.1 (by omega), Nat.le_trans bk.2 (by omega)⟩ ⟨Nat.le_trans bi.1 (by omega), Nat.le_trans bi.2 (by omega)⟩
            change ∀ w t, (binOp .eql t _ _).run _ w = Result.ok (.bool (eqP (zg Z k) (zg Z i))) w at f1
            have HN := Lib.hid (show numB Z (zg Z i) (k + 1) = numB Z (zg Z i) k + (if zg Z i = zg Z k then 1 else 0) from rfl)
            have HF := Lib.hid (show fsB Z i (k + 1) = if zg Z i = zg Z k then fsB Z i k && decide (i ≤ k) else fsB Z i k from rfl)
            generalize numB Z (zg Z i) k = nv at *
            generalize fsB Z i k = fl at *
            have HE := Lib.hid (show eqP (zg Z k) (zg Z i) = true ↔ zg Z i = zg Z k from by rw [eqP_iff]; exact eq_comm)
            generalize zg Z k = zk at *
            generalize hzi : zg Z i = zi at *
            have HZI := Lib.hid hzi
            clear hzi
            generalize eqP zk zi = eb at *
            have Lg : g < wr.heap.size := World.block_lt_of_cell? wr _ ck
            clear bk bi
            go_upto_region 13 with fail
            refine region_slots (fun _ => True) [] [(26, .is (.slice (some ⟨g, o, none⟩) L.length c)), (27, .is (.int .i64 (k : Nat))), (28, .is (.pointer (some ⟨g, o + k, none⟩))), (29, .is (encP zk)), (30, .is (.slice (some ⟨g, o, none⟩) L.length c)), (31, .is (.int .i64 (i : Nat))), (32, .is (.pointer (some ⟨g, o + i, none⟩))), (33, .is (encP zi)), (34, .is (.bool eb))] (by kernel_rfl) (by kernel_rfl) (by kernel_rfl) (fun _ _ => trivial) (fun _ _ _ _ _ _ h => h) ?_
            simp only [Steps, List.contains_cons, List.contains_nil, Nat.reduceBEq, Nat.reduceAdd, Bool.or_false, Bool.false_or, Bool.or_true, Bool.true_or, Bool.false_eq_true, if_false, if_true]
            refine ⟨?_, ?_, ?_, ?_, ?_, ?_, ?_, ?_, ?_, ?_⟩
            · intro u w2 hH hd K hK
              simp only [setU, upd, List.map_cons, List.map_nil, List.contains_cons, List.contains_nil, Nat.reduceBEq, Nat.reduceAdd, Bool.or_false, Bool.false_or, Bool.or_true, Bool.true_or, Bool.false_eq_true, if_false, if_true, ite_true, ite_false, Nat.reduceEqDiff, beq_self_eq_true] at hK ⊢
              go_wp2_with (fail)
              exact hK _ _ (by (repeat' (first | assumption | exact Below.refl _ _ | apply Blw.alloc | apply Blw.drew | apply Blw.drewN | (refine Blw.after ?_ (by assumption)) | (refine Blw.set ?_ (by first | (dsimp only; omega) | (simp; done) | (simp; omega)) _)))) rfl
            · intro u w2 hH hd K hK
              simp only [setU, upd, List.map_cons, List.map_nil, List.contains_cons, List.contains_nil, Nat.reduceBEq, Nat.reduceAdd, Bool.or_false, Bool.false_or, Bool.or_true, Bool.true_or, Bool.false_eq_true, if_false, if_true, ite_true, ite_false, Nat.reduceEqDiff, beq_self_eq_true] at hK ⊢
              go_wp2_with (fail)
              exact hK _ _ (by (repeat' (first | assumption | exact Below.refl _ _ | apply Blw.alloc | apply Blw.drew | apply Blw.drewN | (refine Blw.after ?_ (by assumption)) | (refine Blw.set ?_ (by first | (dsimp only; omega) | (simp; done) | (simp; omega)) _)))) rfl
            · intro u w2 hH hd K hK
              have f26 : u 26 = (.slice (some ⟨g, o, none⟩) L.length c) := hd 26 (by kernel_rfl)
              have f27 : u 27 = (.int .i64 (k : Nat)) := hd 27 (by kernel_rfl)
              simp only [setU, upd, List.map_cons, List.map_nil, List.contains_cons, List.contains_nil, Nat.reduceBEq, Nat.reduceAdd, Bool.or_false, Bool.false_or, Bool.or_true, Bool.true_or, Bool.false_eq_true, if_false, if_true, ite_true, ite_false, Nat.reduceEqDiff, beq_self_eq_true] at hK ⊢
              rw [f26, f27] at hK ⊢
              clear f26 f27
              go_wp2_with (fail)
              exact hK _ _ (by (repeat' (first | assumption | exact Below.refl _ _ | apply Blw.alloc | apply Blw.drew | apply Blw.drewN | (refine Blw.after ?_ (by assumption)) | (refine Blw.set ?_ (by first | (dsimp only; omega) | (simp; done) | (simp; omega)) _)))) rfl
            · intro u w2 hH hd K hK
              have f28 : u 28 = (.pointer (some ⟨g, o + k, none⟩)) := hd 28 (by kernel_rfl)
              simp only [setU, upd, List.map_cons, List.map_nil, List.contains_cons, List.contains_nil, Nat.reduceBEq, Nat.reduceAdd, Bool.or_false, Bool.false_or, Bool.or_true, Bool.true_or, Bool.false_eq_true, if_false, if_true, ite_true, ite_false, Nat.reduceEqDiff, beq_self_eq_true] at hK ⊢
              rw [f28] at hK ⊢
              clear f28
              go_wp2_with (fail)
              exact hK _ _ (by (repeat' (first | assumption | exact Below.refl _ _ | apply Blw.alloc | apply Blw.drew | apply Blw.drewN | (refine Blw.after ?_ (by assumption)) | (refine Blw.set ?_ (by first | (dsimp only; omega) | (simp; done) | (simp; omega)) _)))) rfl
            · intro u w2 hH hd K hK
              simp only [setU, upd, List.map_cons, List.map_nil, List.contains_cons, List.contains_nil, Nat.reduceBEq, Nat.reduceAdd, Bool.or_false, Bool.false_or, Bool.or_true, Bool.true_or, Bool.false_eq_true, if_false, if_true, ite_true, ite_false, Nat.reduceEqDiff, beq_self_eq_true] at hK ⊢
              go_wp2_with (fail)
              exact hK _ _ (by (repeat' (first | assumption | exact Below.refl _ _ | apply Blw.alloc | apply Blw.drew | apply Blw.drewN | (refine Blw.after ?_ (by assumption)) | (refine Blw.set ?_ (by first | (dsimp only; omega) | (simp; done) | (simp; omega)) _)))) rfl
            · intro u w2 hH hd K hK
              simp only [setU, upd, List.map_cons, List.map_nil, List.contains_cons, List.contains_nil, Nat.reduceBEq, Nat.reduceAdd, Bool.or_false, Bool.false_or, Bool.or_true, Bool.true_or, Bool.false_eq_true, if_false, if_true, ite_true, ite_false, Nat.reduceEqDiff, beq_self_eq_true] at hK ⊢
              go_wp2_with (fail)
              exact hK _ _ (by (repeat' (first | assumption | exact Below.refl _ _ | apply Blw.alloc | apply Blw.drew | apply Blw.drewN | (refine Blw.after ?_ (by assumption)) | (refine Blw.set ?_ (by first | (dsimp only; omega) | (simp; done) | (simp; omega)) _)))) rfl
            · intro u w2 hH hd K hK
              have f30 : u 30 = (.slice (some ⟨g, o, none⟩) L.length c) := hd 30 (by kernel_rfl)
              have f31 : u 31 = (.int .i64 (i : Nat)) := hd 31 (by kernel_rfl)
              simp only [setU, upd, List.map_cons, List.map_nil, List.contains_cons, List.contains_nil, Nat.reduceBEq, Nat.reduceAdd, Bool.or_false, Bool.false_or, Bool.or_true, Bool.true_or, Bool.false_eq_true, if_false, if_true, ite_true, ite_false, Nat.reduceEqDiff, beq_self_eq_true] at hK ⊢
              rw [f30, f31] at hK ⊢
              clear f30 f31
              go_wp2_with (fail)
              exact hK _ _ (by (repeat' (first | assumption | exact Below.refl _ _ | apply Blw.alloc | apply Blw.drew | apply Blw.drewN | (refine Blw.after ?_ (by assumption)) | (refine Blw.set ?_ (by first | (dsimp only; omega) | (simp; done) | (simp; omega)) _)))) rfl
            · intro u w2 hH hd K hK
              have f32 : u 32 = (.pointer (some ⟨g, o + i, none⟩)) := hd 32 (by kernel_rfl)
              simp only [setU, upd, List.map_cons, List.map_nil, List.contains_cons, List.contains_nil, Nat.reduceBEq, Nat.reduceAdd, Bool.or_false, Bool.false_or, Bool.or_true, Bool.true_or, Bool.false_eq_true, if_false, if_true, ite_true, ite_false, Nat.reduceEqDiff, beq_self_eq_true] at hK ⊢
              rw [f32] at hK ⊢
              clear f32
              go_wp2_with (fail)
              exact hK _ _ (by (repeat' (first | assumption | exact Below.refl _ _ | apply Blw.alloc | apply Blw.drew | apply Blw.drewN | (refine Blw.after ?_ (by assumption)) | (refine Blw.set ?_ (by first | (dsimp only; omega) | (simp; done) | (simp; omega)) _)))) rfl
            · intro u w2 hH hd K hK
              have f29 : u 29 = (encP zk) := hd 29 (by kernel_rfl)
              have f33 : u 33 = (encP zi) := hd 33 (by kernel_rfl)
              simp only [setU, upd, List.map_cons, List.map_nil, List.contains_cons, List.contains_nil, Nat.reduceBEq, Nat.reduceAdd, Bool.or_false, Bool.false_or, Bool.or_true, Bool.true_or, Bool.false_eq_true, if_false, if_true, ite_true, ite_false, Nat.reduceEqDiff, beq_self_eq_true] at hK ⊢
              rw [f29, f33] at hK ⊢
              clear f29 f33
              go_wp2_with (fail)
              exact hK _ _ (by (repeat' (first | assumption | exact Below.refl _ _ | apply Blw.alloc | apply Blw.drew | apply Blw.drewN | (refine Blw.after ?_ (by assumption)) | (refine Blw.set ?_ (by first | (dsimp only; omega) | (simp; done) | (simp; omega)) _)))) rfl
            intro u w2 hH hF hne
            have hH1 := hH.1
            have hH2 := hH.2.2.2
            simp only [allFacts, SlotFact.h] at hF
            obtain ⟨f26, f27, f28, f29, f30, f31, f32, f33, f34, -⟩ := hF
            simp only [setU, upd, List.map_cons, List.map_nil, List.contains_cons, List.contains_nil, Nat.reduceBEq, Nat.reduceAdd, Bool.or_false, Bool.false_or, Bool.or_true, Bool.true_or, Bool.false_eq_true, if_false, if_true, ite_true, ite_false, Nat.reduceEqDiff, beq_self_eq_true]
            rw [f26, f27, f28, f29, f30, f31, f32, f33, f34]
            clear f26 f27 f28 f29 f30 f31 f32 f33 f34 hne
            refine wpListS_true ?_
            have HB2 := Lib.hid (show Below w1.heap.size w1 w2 from Blw.after hB (by (repeat' (first | assumption | exact Below.refl _ _ | apply Blw.alloc | apply Blw.drew | apply Blw.drewN | (refine Blw.after ?_ (by assumption)) | (refine Blw.set ?_ (by first | (dsimp only; omega) | (simp; done) | (simp; omega)) _)))))
            clear hH hH1 hH2 ck ci hB Lg
            cases eb with
            | true =>
              rw [if_pos (HE.out.1 rfl)] at HN HF
              by_cases hik : i ≤ k
              · rw [decide_eq_true hik, Bool.and_true] at HF
                have hik2 : (i : Int) ≤ (k : Int) := by omega
                cases fl <;>
                (go_wp2_with fail
                 go_roundg (gk - 1)
                 case measure => omega
                 case rel => exact ⟨k + 1, by omega, by go_num, by rw [HZI.out, HN.out]; go_num, by rw [HF.out], HB2.out⟩)
              · rw [decide_eq_false hik, Bool.and_false] at HF
                have hik2 : ¬ (i : Int) ≤ (k : Int) := by omega
                cases fl <;>
                (go_wp2_with fail
                 go_roundg (gk - 1)
                 case measure => omega
                 case rel => exact ⟨k + 1, by omega, by go_num, by rw [HZI.out, HN.out]; go_num, by rw [HF.out], HB2.out⟩)
            | false =>
              rw [if_neg (fun h => by have := HE.out.2 h; cases this)] at HN HF
              go_wp2_with fail
              go_roundg (gk - 1)
              case measure => omega
              case rel => exact ⟨k + 1, by omega, by go_num, by rw [HZI.out, HN.out, Nat.add_zero], by rw [HF.out], HB2.out⟩
          · obtain rfl : k = Z.length := by omega
            have HB2 := Lib.hid hB
            clear hB
            generalize numB Z (zg Z i) Z.length = nv at *
            generalize fsB Z i Z.length = fl at *
            have HC : mm < nv ∨ ¬ mm < nv := Nat.lt_or_ge mm nv |>.imp id (fun h => by omega)
            rcases HC with hc | hc <;> cases fl <;>
            (go_wp2_with fail
             go_roundg (g0 - 1)
             case measure => have := HG0.out; omega
             case rel => exact ⟨i + 1, by have := HG0.out; omega, by go_num, by rw [HST.out]; go_num, by rw [HMX.out]; first | (rw [Nat.max_eq_right (by omega)]) | (rw [Nat.max_eq_left (by omega)]), HB2.out⟩)
      · obtain rfl : i = Z.length := by omega
        have e1 := nwS_eq Z Z.length (Nat.le_refl _)
        have e2 := mxS_eq Z
        rw [e1, e2]
        rw [hzl]
        rw [hzl] at e1 e2
        generalize hx : (visE Z L.length).length = nn at *
        generalize hy : visM Z L.length = mm at *
        have HB2 := Lib.hid (Blw.after HB1.out hBo)
        clear hBo
        go_wp2_with fail
        go_ret3
        exact ⟨by rw [H.out]; rfl, HB2.out⟩
  · have H := Lib.hid (crV_f hp)
    rw [hp] at HP
    clear hS h
    go_enter Try.func26, Try.ntmps26
    go_wp2_with fail
    refine HP.out.mono ?_
    rintro e w1 ⟨rfl, hb⟩
    go_wp2_with fail
    go_ret3
    exact ⟨by rw [H.out]; rfl, hb⟩
end Go.Proofs.Ytljmmmkehieboaa

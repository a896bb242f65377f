/- Chapter 6: TileBox, of both sides. No law is stated here. -/
import Derived.Test.YtaleeoghifcadaaTl
import Derived.Test.YtaleeoghifcadaaOw
import Derived.Test.YtaleeoghifcadaaReg
import Derived.Test.YtaleeoghifcadaaSh
import Derived.Test.YtaleeoghifcadaaDc
namespace Go.Proofs.Ytaleeoghifcadaa
set_option linter.unusedSimpArgs false
set_option linter.unusedVariables false
open Go.RowKit

def loT : Nat → ZZ
  | 0 => (0, 0)
  | n + 1 => ((loT n).1 + min 0 (bpw n).1, (loT n).2 + min 0 (bpw n).2)
def hiT : Nat → ZZ
  | 0 => (0, 0)
  | n + 1 => ((hiT n).1 + max 0 (bpw n).1, (hiT n).2 + max 0 (bpw n).2)
def boxV (a : Int) : Value := .tuple #[pr (sel (inR 0 12 a) (loT a.toNat).1) (sel (inR 0 12 a) (loT a.toNat).2), pr (sel (inR 0 12 a) (hiT a.toNat).1) (sel (inR 0 12 a) (hiT a.toNat).2), .bool (inR 0 12 a)]
theorem boxV_yes {a : Int} (h : inR 0 12 a = true) : boxV a = .tuple #[pr (loT a.toNat).1 (loT a.toNat).2, pr (hiT a.toNat).1 (hiT a.toNat).2, .bool true] := by
  unfold boxV; rw [h]; rfl
theorem boxV_no {a : Int} (h : inR 0 12 a = false) : boxV a = .tuple #[pr 0 0, pr 0 0, .bool false] := by
  unfold boxV; rw [h]; rfl
theorem box_in : ∀ n ∈ List.range 14, ((loT n).1.natAbs ≤ 20000 ∧ (loT n).2.natAbs ≤ 20000) ∧ ((hiT n).1.natAbs ≤ 20000 ∧ (hiT n).2.natAbs ≤ 20000) := by decide +kernel
theorem inR_leB {l u n : Int} (h : inR l u n = true) : l ≤ n ∧ n ≤ u := by
  simp only [inR, Bool.and_eq_true, decide_eq_true_eq] at h; exact h
def SBoxRel (n : Nat) (w : World) (m : Nat) (i : Value) (wr : World) : Prop :=
  ∃ k : Nat, k + m = n ∧ i = .int .i64 k ∧ Below w.heap.size w wr ∧ Own2 wr w.heap.size 0 0 ∧ Own2 wr (w.heap.size + 1) 0 0 ∧ Own2 wr (w.heap.size + 2) (loT k).1 (loT k).2 ∧ Own2 wr (w.heap.size + 3) (hiT k).1 (hiT k).2 ∧ Own2 wr (w.heap.size + 4) (bpw k).1 (bpw k).2
def IBoxRel (n : Nat) (w : World) (m : Nat) (i : Value) (wr : World) : Prop :=
  ∃ k : Nat, k + m = n ∧ i = .int .i64 k ∧ Below w.heap.size w wr ∧ Own2 wr w.heap.size 0 0 ∧ Own2 wr (w.heap.size + 1) 0 0 ∧ Own2 wr (w.heap.size + 2) (loT k).1 (loT k).2 ∧ Own2 wr (w.heap.size + 3) (hiT k).1 (hiT k).2
set_option maxRecDepth 100000 in
set_option maxHeartbeats 4000000 in
theorem sTileBox_c (a : Int) (w : World) : Calls Try.prog 4 #[.int .i64 a] w fun e w' => e = .returned (boxV a) ∧ Below w.heap.size w w' := by
  rcases Bool.eq_false_or_eq_true (inR 0 12 a) with h1 | h1
  · have HV := Lib.hid (boxV_yes h1)
    have H1 := inR_leB h1
    obtain ⟨n, rfl⟩ : ∃ n : Nat, a = (n : Int) := ⟨a.toNat, by omega⟩
    rw [Int.toNat_natCast] at HV
    go_enter Try.func4, Try.ntmps4
    go_wp2_with (first | (go_at_call 7; refine (l6In_c _ _ _ _).mono ?_; rintro e w1 ⟨rfl, rfl⟩))
    generalize hW : World.alloc _ _ = W0
    have kW0_1 : W0.cell? ⟨w.heap.size, 0, none⟩ = some (.int .i64 (0)) := by rw [← hW]; clear hW; first | (go_simp; done) | ((repeat refine keepcell ((Below.refl _ _).alloc (Nat.le_refl _) _) ?_); go_simp; done) | (simp only [frozen?_alloc_cells]; go_simp; done)
    have zW0_1 : W0.frozen? ⟨w.heap.size, 0, none⟩ = false := by rw [← hW]; clear hW; first | (go_simp; done) | ((repeat refine keepcell ((Below.refl _ _).alloc (Nat.le_refl _) _) ?_); go_simp; done) | (simp only [frozen?_alloc_cells]; go_simp; done)
    have kW0_2 : W0.cell? ⟨w.heap.size, 1, none⟩ = some (.int .i64 (0)) := by rw [← hW]; clear hW; first | (go_simp; done) | ((repeat refine keepcell ((Below.refl _ _).alloc (Nat.le_refl _) _) ?_); go_simp; done) | (simp only [frozen?_alloc_cells]; go_simp; done)
    have zW0_2 : W0.frozen? ⟨w.heap.size, 1, none⟩ = false := by rw [← hW]; clear hW; first | (go_simp; done) | ((repeat refine keepcell ((Below.refl _ _).alloc (Nat.le_refl _) _) ?_); go_simp; done) | (simp only [frozen?_alloc_cells]; go_simp; done)
    have : w.heap.size < W0.heap.size := World.block_lt_of_cell? W0 ⟨w.heap.size, 0, none⟩ (by assumption)
    have kW0_3 : W0.cell? ⟨w.heap.size + 1, 0, none⟩ = some (.int .i64 (0)) := by rw [← hW]; clear hW; first | (go_simp; done) | ((repeat refine keepcell ((Below.refl _ _).alloc (Nat.le_refl _) _) ?_); go_simp; done) | (simp only [frozen?_alloc_cells]; go_simp; done)
    have zW0_3 : W0.frozen? ⟨w.heap.size + 1, 0, none⟩ = false := by rw [← hW]; clear hW; first | (go_simp; done) | ((repeat refine keepcell ((Below.refl _ _).alloc (Nat.le_refl _) _) ?_); go_simp; done) | (simp only [frozen?_alloc_cells]; go_simp; done)
    have kW0_4 : W0.cell? ⟨w.heap.size + 1, 1, none⟩ = some (.int .i64 (0)) := by rw [← hW]; clear hW; first | (go_simp; done) | ((repeat refine keepcell ((Below.refl _ _).alloc (Nat.le_refl _) _) ?_); go_simp; done) | (simp only [frozen?_alloc_cells]; go_simp; done)
    have zW0_4 : W0.frozen? ⟨w.heap.size + 1, 1, none⟩ = false := by rw [← hW]; clear hW; first | (go_simp; done) | ((repeat refine keepcell ((Below.refl _ _).alloc (Nat.le_refl _) _) ?_); go_simp; done) | (simp only [frozen?_alloc_cells]; go_simp; done)
    have : w.heap.size + 1 < W0.heap.size := World.block_lt_of_cell? W0 ⟨w.heap.size + 1, 0, none⟩ (by assumption)
    have kW0_5 : W0.cell? ⟨w.heap.size + 2, 0, none⟩ = some (.int .i64 (0)) := by rw [← hW]; clear hW; first | (go_simp; done) | ((repeat refine keepcell ((Below.refl _ _).alloc (Nat.le_refl _) _) ?_); go_simp; done) | (simp only [frozen?_alloc_cells]; go_simp; done)
    have zW0_5 : W0.frozen? ⟨w.heap.size + 2, 0, none⟩ = false := by rw [← hW]; clear hW; first | (go_simp; done) | ((repeat refine keepcell ((Below.refl _ _).alloc (Nat.le_refl _) _) ?_); go_simp; done) | (simp only [frozen?_alloc_cells]; go_simp; done)
    have kW0_6 : W0.cell? ⟨w.heap.size + 2, 1, none⟩ = some (.int .i64 (0)) := by rw [← hW]; clear hW; first | (go_simp; done) | ((repeat refine keepcell ((Below.refl _ _).alloc (Nat.le_refl _) _) ?_); go_simp; done) | (simp only [frozen?_alloc_cells]; go_simp; done)
    have zW0_6 : W0.frozen? ⟨w.heap.size + 2, 1, none⟩ = false := by rw [← hW]; clear hW; first | (go_simp; done) | ((repeat refine keepcell ((Below.refl _ _).alloc (Nat.le_refl _) _) ?_); go_simp; done) | (simp only [frozen?_alloc_cells]; go_simp; done)
    have : w.heap.size + 2 < W0.heap.size := World.block_lt_of_cell? W0 ⟨w.heap.size + 2, 0, none⟩ (by assumption)
    have kW0_7 : W0.cell? ⟨w.heap.size + 3, 0, none⟩ = some (.int .i64 (0)) := by rw [← hW]; clear hW; first | (go_simp; done) | ((repeat refine keepcell ((Below.refl _ _).alloc (Nat.le_refl _) _) ?_); go_simp; done) | (simp only [frozen?_alloc_cells]; go_simp; done)
    have zW0_7 : W0.frozen? ⟨w.heap.size + 3, 0, none⟩ = false := by rw [← hW]; clear hW; first | (go_simp; done) | ((repeat refine keepcell ((Below.refl _ _).alloc (Nat.le_refl _) _) ?_); go_simp; done) | (simp only [frozen?_alloc_cells]; go_simp; done)
    have kW0_8 : W0.cell? ⟨w.heap.size + 3, 1, none⟩ = some (.int .i64 (0)) := by rw [← hW]; clear hW; first | (go_simp; done) | ((repeat refine keepcell ((Below.refl _ _).alloc (Nat.le_refl _) _) ?_); go_simp; done) | (simp only [frozen?_alloc_cells]; go_simp; done)
    have zW0_8 : W0.frozen? ⟨w.heap.size + 3, 1, none⟩ = false := by rw [← hW]; clear hW; first | (go_simp; done) | ((repeat refine keepcell ((Below.refl _ _).alloc (Nat.le_refl _) _) ?_); go_simp; done) | (simp only [frozen?_alloc_cells]; go_simp; done)
    have : w.heap.size + 3 < W0.heap.size := World.block_lt_of_cell? W0 ⟨w.heap.size + 3, 0, none⟩ (by assumption)
    have kW0_9 : W0.cell? ⟨w.heap.size + 4, 0, none⟩ = some (.int .i64 (1)) := by rw [← hW]; clear hW; first | (go_simp; done) | ((repeat refine keepcell ((Below.refl _ _).alloc (Nat.le_refl _) _) ?_); go_simp; done) | (simp only [frozen?_alloc_cells]; go_simp; done)
    have zW0_9 : W0.frozen? ⟨w.heap.size + 4, 0, none⟩ = false := by rw [← hW]; clear hW; first | (go_simp; done) | ((repeat refine keepcell ((Below.refl _ _).alloc (Nat.le_refl _) _) ?_); go_simp; done) | (simp only [frozen?_alloc_cells]; go_simp; done)
    have kW0_10 : W0.cell? ⟨w.heap.size + 4, 1, none⟩ = some (.int .i64 (0)) := by rw [← hW]; clear hW; first | (go_simp; done) | ((repeat refine keepcell ((Below.refl _ _).alloc (Nat.le_refl _) _) ?_); go_simp; done) | (simp only [frozen?_alloc_cells]; go_simp; done)
    have zW0_10 : W0.frozen? ⟨w.heap.size + 4, 1, none⟩ = false := by rw [← hW]; clear hW; first | (go_simp; done) | ((repeat refine keepcell ((Below.refl _ _).alloc (Nat.le_refl _) _) ?_); go_simp; done) | (simp only [frozen?_alloc_cells]; go_simp; done)
    have : w.heap.size + 4 < W0.heap.size := World.block_lt_of_cell? W0 ⟨w.heap.size + 4, 0, none⟩ (by assumption)
    have hBW0 : Below w.heap.size w W0 := by rw [← hW]; (first | ((repeat' with_reducible first | assumption | exact Below.refl _ _ | apply Blw.alloc | apply Blw.drew | apply Blw.drewN | (refine Blw.after ?_ (by assumption)) | (refine Blw.set ?_ (by first | (dsimp only; omega) | (simp; omega)) _)); done) | (repeat' (first | assumption | exact Below.refl _ _ | apply Blw.alloc | apply Blw.drew | apply Blw.drewN | (refine Blw.after ?_ (by assumption)) | (refine Blw.set ?_ (by first | (dsimp only; omega) | (simp; done) | (simp; omega)) _))))
    have hsW0 := hBW0.size
    clear hW
    go_loopg [8] n (fun m i wr => SBoxRel n w m i wr)
    case atStart => exact ⟨0, by omega, rfl, hBW0, ⟨by assumption, by assumption, by assumption, by assumption⟩, ⟨by assumption, by assumption, by assumption, by assumption⟩, ⟨by assumption, by assumption, by assumption, by assumption⟩, ⟨by assumption, by assumption, by assumption, by assumption⟩, ⟨by assumption, by assumption, by assumption, by assumption⟩⟩
    case round =>
      try clear kW0_1; try clear zW0_1; try clear kW0_2; try clear zW0_2; try clear kW0_3; try clear zW0_3; try clear kW0_4; try clear zW0_4; try clear kW0_5; try clear zW0_5; try clear kW0_6; try clear zW0_6; try clear kW0_7; try clear zW0_7; try clear kW0_8; try clear zW0_8; try clear kW0_9; try clear zW0_9; try clear kW0_10; try clear zW0_10
      obtain ⟨k, hk, rfl, hBw, O0, O1, O2, O3, O4⟩ := hrel
      have L4 := O4.lt
      have L0 : w.heap.size < wr.heap.size := by omega
      have L1 : w.heap.size + 1 < wr.heap.size := by omega
      have L2 : w.heap.size + 2 < wr.heap.size := by omega
      have L3 : w.heap.size + 3 < wr.heap.size := by omega
      by_cases hlt : k < n
      · have hb := bpw_in (n := k) (by omega)
        obtain ⟨⟨x1, x2⟩, x3, x4⟩ := box_in k (by simp; omega)
        have hbn : bpw (k + 1) = (-(bpw k).1 - (bpw k).2, (bpw k).1 - (bpw k).2) := by show sd (bpw k) 0 = _; simp [sd]
        have HN := Lib.hid (And.intro hbn (And.intro (show loT (k + 1) = ((loT k).1 + min 0 (bpw k).1, (loT k).2 + min 0 (bpw k).2) from rfl) (show hiT (k + 1) = ((hiT k).1 + max 0 (bpw k).1, (hiT k).2 + max 0 (bpw k).2) from rfl)))
        clear hbn
        generalize (loT k).1 = X at *
        generalize (loT k).2 = Y at *
        generalize (hiT k).1 = R at *
        generalize (hiT k).2 = I at *
        generalize (bpw k).1 = A at *
        generalize (bpw k).2 = C at *
        have n1 : -4096 ≤ A ∧ A ≤ 4096 ∧ -4096 ≤ C ∧ C ≤ 4096 := by omega
        have n2 : -20000 ≤ X ∧ X ≤ 20000 ∧ -20000 ≤ Y ∧ Y ≤ 20000 ∧ -20000 ≤ R ∧ R ≤ 20000 ∧ -20000 ≤ I ∧ I ≤ 20000 := by omega
        clear hb x1 x2 x3 x4
        obtain ⟨q0, q1, f00, f01⟩ := id O2
        obtain ⟨r0, r1, f30, f31⟩ := id O3
        obtain ⟨p0, p1, f40, f41⟩ := id O4
        have HO := Lib.hid (And.intro O0 (And.intro O1 (And.intro O2 (And.intro O3 O4))))
        clear O0 O1 O2 O3 O4
        go_wp2
        go_roundg (gk - 1)
        case measure => omega
        case rel =>
          obtain ⟨hbn, hl, hh⟩ := HN.out
          obtain ⟨O0, O1, O2, O3, O4⟩ := HO.out
          refine ⟨k + 1, by omega, by go_num, by (first | ((repeat' with_reducible first | assumption | exact Below.refl _ _ | apply Blw.alloc | apply Blw.drew | apply Blw.drewN | (refine Blw.after ?_ (by assumption)) | (refine Blw.set ?_ (by first | (dsimp only; omega) | (simp; omega)) _)); done) | (repeat' (first | assumption | exact Below.refl _ _ | apply Blw.alloc | apply Blw.drew | apply Blw.drewN | (refine Blw.after ?_ (by assumption)) | (refine Blw.set ?_ (by first | (dsimp only; omega) | (simp; done) | (simp; omega)) _)))), ?_, ?_, ?_, ?_, ?_⟩
          · ((try simp only [Nat.add_assoc, Nat.reduceAdd]) <;> (repeat with_reducible first | assumption | exact Own2.x (by assumption) | apply Own2X.put | (refine Own2.set ?_ (by omega)) | (refine Own2.alloc ?_ _) | (refine Own2X.set ?_ (by omega)) | (refine Own2X.alloc ?_ _)))
          · ((try simp only [Nat.add_assoc, Nat.reduceAdd]) <;> (repeat with_reducible first | assumption | exact Own2.x (by assumption) | apply Own2X.put | (refine Own2.set ?_ (by omega)) | (refine Own2.alloc ?_ _) | (refine Own2X.set ?_ (by omega)) | (refine Own2X.alloc ?_ _)))
          · rw [hl]; dsimp only; ((try simp only [Nat.add_assoc, Nat.reduceAdd]) <;> (repeat with_reducible first | assumption | exact Own2.x (by assumption) | apply Own2X.put | (refine Own2.set ?_ (by omega)) | (refine Own2.alloc ?_ _) | (refine Own2X.set ?_ (by omega)) | (refine Own2X.alloc ?_ _)))
          · rw [hh]; dsimp only; ((try simp only [Nat.add_assoc, Nat.reduceAdd]) <;> (repeat with_reducible first | assumption | exact Own2.x (by assumption) | apply Own2X.put | (refine Own2.set ?_ (by omega)) | (refine Own2.alloc ?_ _) | (refine Own2X.set ?_ (by omega)) | (refine Own2X.alloc ?_ _)))
          · rw [hbn]; dsimp only; ((try simp only [Nat.add_assoc, Nat.reduceAdd]) <;> (repeat with_reducible first | assumption | exact Own2.x (by assumption) | apply Own2X.put | (refine Own2.set ?_ (by omega)) | (refine Own2.alloc ?_ _) | (refine Own2X.set ?_ (by omega)) | (refine Own2X.alloc ?_ _)))
      · obtain rfl : k = n := by omega
        obtain ⟨q0, q1, f00, f01⟩ := O2
        obtain ⟨r0, r1, f30, f31⟩ := O3
        obtain ⟨a0, a1, f10, f11⟩ := O0
        obtain ⟨b0, b1, f20, f21⟩ := O1
        clear O4
        go_wp2_with fail
        refine region_slots (fun w' => w'.cell? ⟨w.heap.size + 3, 0, none⟩ = some (.int .i64 ((hiT k).1)) ∧ w'.cell? ⟨w.heap.size + 3, 1, none⟩ = some (.int .i64 ((hiT k).2))) [1] [(60, .is (pr (loT k).1 (loT k).2)), (61, .is (pr (hiT k).1 (hiT k).2))] (by kernel_rfl) (by kernel_rfl) (by kernel_rfl) (fun w' hH => by go_simp) (fun _ _ _ _ _ _ h => h) ?_
        simp only [Steps, List.contains_cons, List.contains_nil, Nat.reduceBEq, Nat.reduceAdd, Bool.or_false, Bool.false_or, Bool.or_true, Bool.true_or, Bool.false_eq_true, if_false, if_true]
        refine ⟨?_, ?_, ?_⟩
        · intro u w2 hH hd K hK
          simp only [setU, upd, List.map_cons, List.map_nil, List.contains_cons, List.contains_nil, Nat.reduceBEq, Nat.reduceAdd, Bool.or_false, Bool.false_or, Bool.or_true, Bool.true_or, Bool.false_eq_true, if_false, if_true, ite_true, ite_false, Nat.reduceEqDiff, beq_self_eq_true] at hK ⊢
          go_wp2_with (fail)
          exact hK _ _ (by (first | ((repeat' with_reducible first | assumption | exact Below.refl _ _ | apply Blw.alloc | apply Blw.drew | apply Blw.drewN | (refine Blw.after ?_ (by assumption)) | (refine Blw.set ?_ (by first | (dsimp only; omega) | (simp; omega)) _)); done) | (repeat' (first | assumption | exact Below.refl _ _ | apply Blw.alloc | apply Blw.drew | apply Blw.drewN | (refine Blw.after ?_ (by assumption)) | (refine Blw.set ?_ (by first | (dsimp only; omega) | (simp; done) | (simp; omega)) _))))) rfl
        · intro u w2 hH hd
          simp only [setU, upd, List.map_cons, List.map_nil, List.contains_cons, List.contains_nil, Nat.reduceBEq, Nat.reduceAdd, Bool.or_false, Bool.false_or, Bool.or_true, Bool.true_or, Bool.false_eq_true, if_false, if_true, ite_true, ite_false, Nat.reduceEqDiff, beq_self_eq_true]
          refine ⟨(pr (hiT k).1 (hiT k).2), fun w hS => ?_, by first | rfl | trivial, by first | rfl | trivial, by first | rfl | trivial⟩
          first | (go_simp; done) | (go_simp; exact IntWalk.i64_in _ (by omega))
        intro u w2 hH hF hne
        have hH1 := hH.1
        have hH2 := hH.2.2.2
        simp only [allFacts, SlotFact.h] at hF
        obtain ⟨f60, f61, -⟩ := hF
        simp only [setU, upd, List.map_cons, List.map_nil, List.contains_cons, List.contains_nil, Nat.reduceBEq, Nat.reduceAdd, Bool.or_false, Bool.false_or, Bool.or_true, Bool.true_or, Bool.false_eq_true, if_false, if_true, ite_true, ite_false, Nat.reduceEqDiff, beq_self_eq_true]
        rw [f60, f61]
        clear f60 f61 hne
        refine wpListS_step fun K hK => ?_
        go_wp2_with (fail)
        refine hK _ _ (by go_simp) ?_
        clear hK
        refine wpListS_step fun K hK => ?_
        go_wp2_with (fail)
        refine hK _ _ (by go_simp) ?_
        clear hK
        refine wpListS_step fun K hK => ?_
        go_wp2_with (fail)
        refine hK _ _ (by go_simp) ?_
        clear hK
        refine wpListS_nil ?_
        go_wp2_with fail
        exact bodyPost_ret (v := .tuple #[pr (loT k).1 (loT k).2, pr (hiT k).1 (hiT k).2, .bool true]) (by simp [results, Try.results4, go_sem, *]) rfl ⟨by rw [HV.out], by (first | ((repeat' with_reducible first | assumption | exact Below.refl _ _ | apply Blw.alloc | apply Blw.drew | apply Blw.drewN | (refine Blw.after ?_ (by assumption)) | (refine Blw.set ?_ (by first | (dsimp only; omega) | (simp; omega)) _)); done) | (repeat' (first | assumption | exact Below.refl _ _ | apply Blw.alloc | apply Blw.drew | apply Blw.drewN | (refine Blw.after ?_ (by assumption)) | (refine Blw.set ?_ (by first | (dsimp only; omega) | (simp; done) | (simp; omega)) _))))⟩
  · have HV := Lib.hid (boxV_no h1)
    go_enter Try.func4, Try.ntmps4
    go_wp2_with (first | (go_at_call 7; refine (l6In_c _ _ _ _).mono ?_; rintro e w1 ⟨rfl, rfl⟩))
    generalize hW : World.alloc _ _ = W0
    have kW0_11 : W0.cell? ⟨w.heap.size, 0, none⟩ = some (.int .i64 (0)) := by rw [← hW]; clear hW; first | (go_simp; done) | ((repeat refine keepcell ((Below.refl _ _).alloc (Nat.le_refl _) _) ?_); go_simp; done) | (simp only [frozen?_alloc_cells]; go_simp; done)
    have zW0_11 : W0.frozen? ⟨w.heap.size, 0, none⟩ = false := by rw [← hW]; clear hW; first | (go_simp; done) | ((repeat refine keepcell ((Below.refl _ _).alloc (Nat.le_refl _) _) ?_); go_simp; done) | (simp only [frozen?_alloc_cells]; go_simp; done)
    have kW0_12 : W0.cell? ⟨w.heap.size, 1, none⟩ = some (.int .i64 (0)) := by rw [← hW]; clear hW; first | (go_simp; done) | ((repeat refine keepcell ((Below.refl _ _).alloc (Nat.le_refl _) _) ?_); go_simp; done) | (simp only [frozen?_alloc_cells]; go_simp; done)
    have zW0_12 : W0.frozen? ⟨w.heap.size, 1, none⟩ = false := by rw [← hW]; clear hW; first | (go_simp; done) | ((repeat refine keepcell ((Below.refl _ _).alloc (Nat.le_refl _) _) ?_); go_simp; done) | (simp only [frozen?_alloc_cells]; go_simp; done)
    have : w.heap.size < W0.heap.size := World.block_lt_of_cell? W0 ⟨w.heap.size, 0, none⟩ (by assumption)
    have kW0_13 : W0.cell? ⟨w.heap.size + 1, 0, none⟩ = some (.int .i64 (0)) := by rw [← hW]; clear hW; first | (go_simp; done) | ((repeat refine keepcell ((Below.refl _ _).alloc (Nat.le_refl _) _) ?_); go_simp; done) | (simp only [frozen?_alloc_cells]; go_simp; done)
    have zW0_13 : W0.frozen? ⟨w.heap.size + 1, 0, none⟩ = false := by rw [← hW]; clear hW; first | (go_simp; done) | ((repeat refine keepcell ((Below.refl _ _).alloc (Nat.le_refl _) _) ?_); go_simp; done) | (simp only [frozen?_alloc_cells]; go_simp; done)
    have kW0_14 : W0.cell? ⟨w.heap.size + 1, 1, none⟩ = some (.int .i64 (0)) := by rw [← hW]; clear hW; first | (go_simp; done) | ((repeat refine keepcell ((Below.refl _ _).alloc (Nat.le_refl _) _) ?_); go_simp; done) | (simp only [frozen?_alloc_cells]; go_simp; done)
    have zW0_14 : W0.frozen? ⟨w.heap.size + 1, 1, none⟩ = false := by rw [← hW]; clear hW; first | (go_simp; done) | ((repeat refine keepcell ((Below.refl _ _).alloc (Nat.le_refl _) _) ?_); go_simp; done) | (simp only [frozen?_alloc_cells]; go_simp; done)
    have : w.heap.size + 1 < W0.heap.size := World.block_lt_of_cell? W0 ⟨w.heap.size + 1, 0, none⟩ (by assumption)
    have kW0_15 : W0.cell? ⟨w.heap.size + 2, 0, none⟩ = some (.int .i64 (0)) := by rw [← hW]; clear hW; first | (go_simp; done) | ((repeat refine keepcell ((Below.refl _ _).alloc (Nat.le_refl _) _) ?_); go_simp; done) | (simp only [frozen?_alloc_cells]; go_simp; done)
    have zW0_15 : W0.frozen? ⟨w.heap.size + 2, 0, none⟩ = false := by rw [← hW]; clear hW; first | (go_simp; done) | ((repeat refine keepcell ((Below.refl _ _).alloc (Nat.le_refl _) _) ?_); go_simp; done) | (simp only [frozen?_alloc_cells]; go_simp; done)
    have kW0_16 : W0.cell? ⟨w.heap.size + 2, 1, none⟩ = some (.int .i64 (0)) := by rw [← hW]; clear hW; first | (go_simp; done) | ((repeat refine keepcell ((Below.refl _ _).alloc (Nat.le_refl _) _) ?_); go_simp; done) | (simp only [frozen?_alloc_cells]; go_simp; done)
    have zW0_16 : W0.frozen? ⟨w.heap.size + 2, 1, none⟩ = false := by rw [← hW]; clear hW; first | (go_simp; done) | ((repeat refine keepcell ((Below.refl _ _).alloc (Nat.le_refl _) _) ?_); go_simp; done) | (simp only [frozen?_alloc_cells]; go_simp; done)
    have : w.heap.size + 2 < W0.heap.size := World.block_lt_of_cell? W0 ⟨w.heap.size + 2, 0, none⟩ (by assumption)
    have kW0_17 : W0.cell? ⟨w.heap.size + 3, 0, none⟩ = some (.int .i64 (0)) := by rw [← hW]; clear hW; first | (go_simp; done) | ((repeat refine keepcell ((Below.refl _ _).alloc (Nat.le_refl _) _) ?_); go_simp; done) | (simp only [frozen?_alloc_cells]; go_simp; done)
    have zW0_17 : W0.frozen? ⟨w.heap.size + 3, 0, none⟩ = false := by rw [← hW]; clear hW; first | (go_simp; done) | ((repeat refine keepcell ((Below.refl _ _).alloc (Nat.le_refl _) _) ?_); go_simp; done) | (simp only [frozen?_alloc_cells]; go_simp; done)
    have kW0_18 : W0.cell? ⟨w.heap.size + 3, 1, none⟩ = some (.int .i64 (0)) := by rw [← hW]; clear hW; first | (go_simp; done) | ((repeat refine keepcell ((Below.refl _ _).alloc (Nat.le_refl _) _) ?_); go_simp; done) | (simp only [frozen?_alloc_cells]; go_simp; done)
    have zW0_18 : W0.frozen? ⟨w.heap.size + 3, 1, none⟩ = false := by rw [← hW]; clear hW; first | (go_simp; done) | ((repeat refine keepcell ((Below.refl _ _).alloc (Nat.le_refl _) _) ?_); go_simp; done) | (simp only [frozen?_alloc_cells]; go_simp; done)
    have : w.heap.size + 3 < W0.heap.size := World.block_lt_of_cell? W0 ⟨w.heap.size + 3, 0, none⟩ (by assumption)
    have hBW0 : Below w.heap.size w W0 := by rw [← hW]; (first | ((repeat' with_reducible first | assumption | exact Below.refl _ _ | apply Blw.alloc | apply Blw.drew | apply Blw.drewN | (refine Blw.after ?_ (by assumption)) | (refine Blw.set ?_ (by first | (dsimp only; omega) | (simp; omega)) _)); done) | (repeat' (first | assumption | exact Below.refl _ _ | apply Blw.alloc | apply Blw.drew | apply Blw.drewN | (refine Blw.after ?_ (by assumption)) | (refine Blw.set ?_ (by first | (dsimp only; omega) | (simp; done) | (simp; omega)) _))))
    have hsW0 := hBW0.size
    clear hW
    refine region_slots (fun w' => w'.cell? ⟨w.heap.size + 3, 0, none⟩ = some (.int .i64 (0)) ∧ w'.cell? ⟨w.heap.size + 3, 1, none⟩ = some (.int .i64 (0))) [1] [(14, .is (pr 0 0)), (15, .is (pr 0 0))] (by kernel_rfl) (by kernel_rfl) (by kernel_rfl) (fun w' hH => by go_simp) (fun _ _ _ _ _ _ h => h) ?_
    simp only [Steps, List.contains_cons, List.contains_nil, Nat.reduceBEq, Nat.reduceAdd, Bool.or_false, Bool.false_or, Bool.or_true, Bool.true_or, Bool.false_eq_true, if_false, if_true]
    refine ⟨?_, ?_, ?_⟩
    · intro u w2 hH hd K hK
      simp only [setU, upd, List.map_cons, List.map_nil, List.contains_cons, List.contains_nil, Nat.reduceBEq, Nat.reduceAdd, Bool.or_false, Bool.false_or, Bool.or_true, Bool.true_or, Bool.false_eq_true, if_false, if_true, ite_true, ite_false, Nat.reduceEqDiff, beq_self_eq_true] at hK ⊢
      go_wp2_with (fail)
      exact hK _ _ (by (first | ((repeat' with_reducible first | assumption | exact Below.refl _ _ | apply Blw.alloc | apply Blw.drew | apply Blw.drewN | (refine Blw.after ?_ (by assumption)) | (refine Blw.set ?_ (by first | (dsimp only; omega) | (simp; omega)) _)); done) | (repeat' (first | assumption | exact Below.refl _ _ | apply Blw.alloc | apply Blw.drew | apply Blw.drewN | (refine Blw.after ?_ (by assumption)) | (refine Blw.set ?_ (by first | (dsimp only; omega) | (simp; done) | (simp; omega)) _))))) rfl
    · intro u w2 hH hd
      simp only [setU, upd, List.map_cons, List.map_nil, List.contains_cons, List.contains_nil, Nat.reduceBEq, Nat.reduceAdd, Bool.or_false, Bool.false_or, Bool.or_true, Bool.true_or, Bool.false_eq_true, if_false, if_true, ite_true, ite_false, Nat.reduceEqDiff, beq_self_eq_true]
      refine ⟨(pr 0 0), fun w hS => ?_, by first | rfl | trivial, by first | rfl | trivial, by first | rfl | trivial⟩
      first | (go_simp; done) | (go_simp; exact IntWalk.i64_in _ (by omega))
    intro u w2 hH hF hne
    have hH1 := hH.1
    have hH2 := hH.2.2.2
    simp only [allFacts, SlotFact.h] at hF
    obtain ⟨f14, f15, -⟩ := hF
    simp only [setU, upd, List.map_cons, List.map_nil, List.contains_cons, List.contains_nil, Nat.reduceBEq, Nat.reduceAdd, Bool.or_false, Bool.false_or, Bool.or_true, Bool.true_or, Bool.false_eq_true, if_false, if_true, ite_true, ite_false, Nat.reduceEqDiff, beq_self_eq_true]
    rw [f14, f15]
    clear f14 f15 hne
    refine wpListS_step fun K hK => ?_
    go_wp2_with (fail)
    refine hK _ _ (by go_simp) ?_
    clear hK
    refine wpListS_step fun K hK => ?_
    go_wp2_with (fail)
    refine hK _ _ (by go_simp) ?_
    clear hK
    refine wpListS_step fun K hK => ?_
    go_wp2_with (fail)
    refine hK _ _ (by go_simp) ?_
    clear hK
    refine wpListS_nil ?_
    go_wp2_with fail
    exact bodyPost_ret (v := .tuple #[pr 0 0, pr 0 0, .bool false]) (by simp [results, Try.results4, go_sem, *]) rfl ⟨by rw [HV.out], by (first | ((repeat' with_reducible first | assumption | exact Below.refl _ _ | apply Blw.alloc | apply Blw.drew | apply Blw.drewN | (refine Blw.after ?_ (by assumption)) | (refine Blw.set ?_ (by first | (dsimp only; omega) | (simp; omega)) _)); done) | (repeat' (first | assumption | exact Below.refl _ _ | apply Blw.alloc | apply Blw.drew | apply Blw.drewN | (refine Blw.after ?_ (by assumption)) | (refine Blw.set ?_ (by first | (dsimp only; omega) | (simp; done) | (simp; omega)) _))))⟩
set_option maxRecDepth 100000 in
set_option maxHeartbeats 4000000 in
theorem iTileBox_c (a : Int) (w : World) : Calls Try.prog 5 #[.int .i64 a] w fun e w' => e = .returned (boxV a) ∧ Below w.heap.size w w' := by
  rcases Bool.eq_false_or_eq_true (inR 0 12 a) with h1 | h1
  · have HV := Lib.hid (boxV_yes h1)
    have H1 := inR_leB h1
    obtain ⟨n, rfl⟩ : ∃ n : Nat, a = (n : Int) := ⟨a.toNat, by omega⟩
    rw [Int.toNat_natCast] at HV
    go_enter Try.func5, Try.ntmps5
    go_wp2
    generalize hW : World.alloc _ _ = W0
    have kW0_19 : W0.cell? ⟨w.heap.size, 0, none⟩ = some (.int .i64 (0)) := by rw [← hW]; clear hW; first | (go_simp; done) | ((repeat refine keepcell ((Below.refl _ _).alloc (Nat.le_refl _) _) ?_); go_simp; done) | (simp only [frozen?_alloc_cells]; go_simp; done)
    have zW0_19 : W0.frozen? ⟨w.heap.size, 0, none⟩ = false := by rw [← hW]; clear hW; first | (go_simp; done) | ((repeat refine keepcell ((Below.refl _ _).alloc (Nat.le_refl _) _) ?_); go_simp; done) | (simp only [frozen?_alloc_cells]; go_simp; done)
    have kW0_20 : W0.cell? ⟨w.heap.size, 1, none⟩ = some (.int .i64 (0)) := by rw [← hW]; clear hW; first | (go_simp; done) | ((repeat refine keepcell ((Below.refl _ _).alloc (Nat.le_refl _) _) ?_); go_simp; done) | (simp only [frozen?_alloc_cells]; go_simp; done)
    have zW0_20 : W0.frozen? ⟨w.heap.size, 1, none⟩ = false := by rw [← hW]; clear hW; first | (go_simp; done) | ((repeat refine keepcell ((Below.refl _ _).alloc (Nat.le_refl _) _) ?_); go_simp; done) | (simp only [frozen?_alloc_cells]; go_simp; done)
    have : w.heap.size < W0.heap.size := World.block_lt_of_cell? W0 ⟨w.heap.size, 0, none⟩ (by assumption)
    have kW0_21 : W0.cell? ⟨w.heap.size + 1, 0, none⟩ = some (.int .i64 (0)) := by rw [← hW]; clear hW; first | (go_simp; done) | ((repeat refine keepcell ((Below.refl _ _).alloc (Nat.le_refl _) _) ?_); go_simp; done) | (simp only [frozen?_alloc_cells]; go_simp; done)
    have zW0_21 : W0.frozen? ⟨w.heap.size + 1, 0, none⟩ = false := by rw [← hW]; clear hW; first | (go_simp; done) | ((repeat refine keepcell ((Below.refl _ _).alloc (Nat.le_refl _) _) ?_); go_simp; done) | (simp only [frozen?_alloc_cells]; go_simp; done)
    have kW0_22 : W0.cell? ⟨w.heap.size + 1, 1, none⟩ = some (.int .i64 (0)) := by rw [← hW]; clear hW; first | (go_simp; done) | ((repeat refine keepcell ((Below.refl _ _).alloc (Nat.le_refl _) _) ?_); go_simp; done) | (simp only [frozen?_alloc_cells]; go_simp; done)
    have zW0_22 : W0.frozen? ⟨w.heap.size + 1, 1, none⟩ = false := by rw [← hW]; clear hW; first | (go_simp; done) | ((repeat refine keepcell ((Below.refl _ _).alloc (Nat.le_refl _) _) ?_); go_simp; done) | (simp only [frozen?_alloc_cells]; go_simp; done)
    have : w.heap.size + 1 < W0.heap.size := World.block_lt_of_cell? W0 ⟨w.heap.size + 1, 0, none⟩ (by assumption)
    have kW0_23 : W0.cell? ⟨w.heap.size + 2, 0, none⟩ = some (.int .i64 (0)) := by rw [← hW]; clear hW; first | (go_simp; done) | ((repeat refine keepcell ((Below.refl _ _).alloc (Nat.le_refl _) _) ?_); go_simp; done) | (simp only [frozen?_alloc_cells]; go_simp; done)
    have zW0_23 : W0.frozen? ⟨w.heap.size + 2, 0, none⟩ = false := by rw [← hW]; clear hW; first | (go_simp; done) | ((repeat refine keepcell ((Below.refl _ _).alloc (Nat.le_refl _) _) ?_); go_simp; done) | (simp only [frozen?_alloc_cells]; go_simp; done)
    have kW0_24 : W0.cell? ⟨w.heap.size + 2, 1, none⟩ = some (.int .i64 (0)) := by rw [← hW]; clear hW; first | (go_simp; done) | ((repeat refine keepcell ((Below.refl _ _).alloc (Nat.le_refl _) _) ?_); go_simp; done) | (simp only [frozen?_alloc_cells]; go_simp; done)
    have zW0_24 : W0.frozen? ⟨w.heap.size + 2, 1, none⟩ = false := by rw [← hW]; clear hW; first | (go_simp; done) | ((repeat refine keepcell ((Below.refl _ _).alloc (Nat.le_refl _) _) ?_); go_simp; done) | (simp only [frozen?_alloc_cells]; go_simp; done)
    have : w.heap.size + 2 < W0.heap.size := World.block_lt_of_cell? W0 ⟨w.heap.size + 2, 0, none⟩ (by assumption)
    have kW0_25 : W0.cell? ⟨w.heap.size + 3, 0, none⟩ = some (.int .i64 (0)) := by rw [← hW]; clear hW; first | (go_simp; done) | ((repeat refine keepcell ((Below.refl _ _).alloc (Nat.le_refl _) _) ?_); go_simp; done) | (simp only [frozen?_alloc_cells]; go_simp; done)
    have zW0_25 : W0.frozen? ⟨w.heap.size + 3, 0, none⟩ = false := by rw [← hW]; clear hW; first | (go_simp; done) | ((repeat refine keepcell ((Below.refl _ _).alloc (Nat.le_refl _) _) ?_); go_simp; done) | (simp only [frozen?_alloc_cells]; go_simp; done)
    have kW0_26 : W0.cell? ⟨w.heap.size + 3, 1, none⟩ = some (.int .i64 (0)) := by rw [← hW]; clear hW; first | (go_simp; done) | ((repeat refine keepcell ((Below.refl _ _).alloc (Nat.le_refl _) _) ?_); go_simp; done) | (simp only [frozen?_alloc_cells]; go_simp; done)
    have zW0_26 : W0.frozen? ⟨w.heap.size + 3, 1, none⟩ = false := by rw [← hW]; clear hW; first | (go_simp; done) | ((repeat refine keepcell ((Below.refl _ _).alloc (Nat.le_refl _) _) ?_); go_simp; done) | (simp only [frozen?_alloc_cells]; go_simp; done)
    have : w.heap.size + 3 < W0.heap.size := World.block_lt_of_cell? W0 ⟨w.heap.size + 3, 0, none⟩ (by assumption)
    have hBW0 : Below w.heap.size w W0 := by rw [← hW]; (first | ((repeat' with_reducible first | assumption | exact Below.refl _ _ | apply Blw.alloc | apply Blw.drew | apply Blw.drewN | (refine Blw.after ?_ (by assumption)) | (refine Blw.set ?_ (by first | (dsimp only; omega) | (simp; omega)) _)); done) | (repeat' (first | assumption | exact Below.refl _ _ | apply Blw.alloc | apply Blw.drew | apply Blw.drewN | (refine Blw.after ?_ (by assumption)) | (refine Blw.set ?_ (by first | (dsimp only; omega) | (simp; done) | (simp; omega)) _))))
    have hsW0 := hBW0.size
    clear hW
    go_loopg [18] n (fun m i wr => IBoxRel n w m i wr)
    case atStart => exact ⟨0, by omega, rfl, hBW0, ⟨by assumption, by assumption, by assumption, by assumption⟩, ⟨by assumption, by assumption, by assumption, by assumption⟩, ⟨by assumption, by assumption, by assumption, by assumption⟩, ⟨by assumption, by assumption, by assumption, by assumption⟩⟩
    case round =>
      try clear kW0_19; try clear zW0_19; try clear kW0_20; try clear zW0_20; try clear kW0_21; try clear zW0_21; try clear kW0_22; try clear zW0_22; try clear kW0_23; try clear zW0_23; try clear kW0_24; try clear zW0_24; try clear kW0_25; try clear zW0_25; try clear kW0_26; try clear zW0_26
      obtain ⟨k, hk, rfl, hBw, O0, O1, O2, O3⟩ := hrel
      have L3 := O3.lt
      have L0 : w.heap.size < wr.heap.size := by omega
      have L1 : w.heap.size + 1 < wr.heap.size := by omega
      have L2 : w.heap.size + 2 < wr.heap.size := by omega
      by_cases hlt : k < n
      · have hb := bpw_in (n := k) (by omega)
        obtain ⟨⟨x1, x2⟩, x3, x4⟩ := box_in k (by simp; omega)
        have hP := fun w => digitsPair_c (oneB k) w (by rw [show toL (oneB k) = 49 :: List.replicate k 48 from toL_bs _]; intro c hc; rcases List.mem_cons.1 hc with rfl | hc; · rfl
                                                        · rw [(List.mem_replicate.1 hc).2]; rfl) (by rw [← toL_len, show toL (oneB k) = 49 :: List.replicate k 48 from toL_bs _]; simp; omega)
        have hv := val_one k
        rw [show toL (oneB k) = 49 :: List.replicate k 48 from toL_bs _, show valX (49 :: List.replicate k 48) = (bpw k).1 from congrArg Prod.fst hv, show valY (49 :: List.replicate k 48) = (bpw k).2 from congrArg Prod.snd hv] at hP
        have HP := Lib.hid hP
        have HS := Lib.hid (fun w => shiftOne_c k w (by omega))
        have HN := Lib.hid (And.intro (show loT (k + 1) = ((loT k).1 + min 0 (bpw k).1, (loT k).2 + min 0 (bpw k).2) from rfl) (show hiT (k + 1) = ((hiT k).1 + max 0 (bpw k).1, (hiT k).2 + max 0 (bpw k).2) from rfl))
        clear hP hv
        generalize oneB k = tk at *
        generalize (loT k).1 = X at *
        generalize (loT k).2 = Y at *
        generalize (hiT k).1 = R at *
        generalize (hiT k).2 = I at *
        generalize (bpw k).1 = A at *
        generalize (bpw k).2 = C at *
        have n1 : -4096 ≤ A ∧ A ≤ 4096 ∧ -4096 ≤ C ∧ C ≤ 4096 := by omega
        have n2 : -20000 ≤ X ∧ X ≤ 20000 ∧ -20000 ≤ Y ∧ Y ≤ 20000 ∧ -20000 ≤ R ∧ R ≤ 20000 ∧ -20000 ≤ I ∧ I ≤ 20000 := by omega
        clear hb x1 x2 x3 x4
        go_wp2_with fail
        refine (HS.out _).mono ?_
        rintro e wA ⟨rfl, hbwA⟩
        have LA := hbwA.size
        go_wp2_with fail
        refine (HP.out _).mono ?_
        rintro e wB ⟨rfl, hbwB⟩
        have LB := hbwB.size
        have hBB : Below w.heap.size w wB := Blw.after (Blw.after hBw hbwA) hbwB
        replace O0 := (O0.below hbwA L0).below hbwB (by omega)
        replace O1 := (O1.below hbwA L1).below hbwB (by omega)
        replace O2 := (O2.below hbwA L2).below hbwB (by omega)
        replace O3 := (O3.below hbwA L3).below hbwB (by omega)
        have M3 := O3.lt
        have M0 := O0.lt
        have M1 := O1.lt
        have M2 := O2.lt
        clear hBw hbwA hbwB
        obtain ⟨q0, q1, f00, f01⟩ := id O2
        obtain ⟨r0, r1, f30, f31⟩ := id O3
        have HO := Lib.hid (And.intro O0 (And.intro O1 (And.intro O2 O3)))
        clear O0 O1 O2 O3
        go_wp2
        go_roundg (gk - 1)
        case measure => omega
        case rel =>
          obtain ⟨hl, hh⟩ := HN.out
          obtain ⟨O0, O1, O2, O3⟩ := HO.out
          refine ⟨k + 1, by omega, by go_num, by (first | ((repeat' with_reducible first | assumption | exact Below.refl _ _ | apply Blw.alloc | apply Blw.drew | apply Blw.drewN | (refine Blw.after ?_ (by assumption)) | (refine Blw.set ?_ (by first | (dsimp only; omega) | (simp; omega)) _)); done) | (repeat' (first | assumption | exact Below.refl _ _ | apply Blw.alloc | apply Blw.drew | apply Blw.drewN | (refine Blw.after ?_ (by assumption)) | (refine Blw.set ?_ (by first | (dsimp only; omega) | (simp; done) | (simp; omega)) _)))), ?_, ?_, ?_, ?_⟩
          · ((try simp only [Nat.add_assoc, Nat.reduceAdd]) <;> (repeat with_reducible first | assumption | exact Own2.x (by assumption) | apply Own2X.put | (refine Own2.set ?_ (by omega)) | (refine Own2.alloc ?_ _) | (refine Own2X.set ?_ (by omega)) | (refine Own2X.alloc ?_ _)))
          · ((try simp only [Nat.add_assoc, Nat.reduceAdd]) <;> (repeat with_reducible first | assumption | exact Own2.x (by assumption) | apply Own2X.put | (refine Own2.set ?_ (by omega)) | (refine Own2.alloc ?_ _) | (refine Own2X.set ?_ (by omega)) | (refine Own2X.alloc ?_ _)))
          · rw [hl]; dsimp only; ((try simp only [Nat.add_assoc, Nat.reduceAdd]) <;> (repeat with_reducible first | assumption | exact Own2.x (by assumption) | apply Own2X.put | (refine Own2.set ?_ (by omega)) | (refine Own2.alloc ?_ _) | (refine Own2X.set ?_ (by omega)) | (refine Own2X.alloc ?_ _)))
          · rw [hh]; dsimp only; ((try simp only [Nat.add_assoc, Nat.reduceAdd]) <;> (repeat with_reducible first | assumption | exact Own2.x (by assumption) | apply Own2X.put | (refine Own2.set ?_ (by omega)) | (refine Own2.alloc ?_ _) | (refine Own2X.set ?_ (by omega)) | (refine Own2X.alloc ?_ _)))
      · obtain rfl : k = n := by omega
        obtain ⟨q0, q1, f00, f01⟩ := O2
        obtain ⟨r0, r1, f30, f31⟩ := O3
        obtain ⟨a0, a1, f10, f11⟩ := O0
        obtain ⟨b0, b1, f20, f21⟩ := O1
        go_wp2_with fail
        refine region_slots (fun w' => w'.cell? ⟨w.heap.size + 3, 0, none⟩ = some (.int .i64 ((hiT k).1)) ∧ w'.cell? ⟨w.heap.size + 3, 1, none⟩ = some (.int .i64 ((hiT k).2))) [1] [(53, .is (pr (loT k).1 (loT k).2)), (54, .is (pr (hiT k).1 (hiT k).2))] (by kernel_rfl) (by kernel_rfl) (by kernel_rfl) (fun w' hH => by go_simp) (fun _ _ _ _ _ _ h => h) ?_
        simp only [Steps, List.contains_cons, List.contains_nil, Nat.reduceBEq, Nat.reduceAdd, Bool.or_false, Bool.false_or, Bool.or_true, Bool.true_or, Bool.false_eq_true, if_false, if_true]
        refine ⟨?_, ?_, ?_⟩
        · intro u w2 hH hd K hK
          simp only [setU, upd, List.map_cons, List.map_nil, List.contains_cons, List.contains_nil, Nat.reduceBEq, Nat.reduceAdd, Bool.or_false, Bool.false_or, Bool.or_true, Bool.true_or, Bool.false_eq_true, if_false, if_true, ite_true, ite_false, Nat.reduceEqDiff, beq_self_eq_true] at hK ⊢
          go_wp2_with (fail)
          exact hK _ _ (by (first | ((repeat' with_reducible first | assumption | exact Below.refl _ _ | apply Blw.alloc | apply Blw.drew | apply Blw.drewN | (refine Blw.after ?_ (by assumption)) | (refine Blw.set ?_ (by first | (dsimp only; omega) | (simp; omega)) _)); done) | (repeat' (first | assumption | exact Below.refl _ _ | apply Blw.alloc | apply Blw.drew | apply Blw.drewN | (refine Blw.after ?_ (by assumption)) | (refine Blw.set ?_ (by first | (dsimp only; omega) | (simp; done) | (simp; omega)) _))))) rfl
        · intro u w2 hH hd
          simp only [setU, upd, List.map_cons, List.map_nil, List.contains_cons, List.contains_nil, Nat.reduceBEq, Nat.reduceAdd, Bool.or_false, Bool.false_or, Bool.or_true, Bool.true_or, Bool.false_eq_true, if_false, if_true, ite_true, ite_false, Nat.reduceEqDiff, beq_self_eq_true]
          refine ⟨(pr (hiT k).1 (hiT k).2), fun w hS => ?_, by first | rfl | trivial, by first | rfl | trivial, by first | rfl | trivial⟩
          first | (go_simp; done) | (go_simp; exact IntWalk.i64_in _ (by omega))
        intro u w2 hH hF hne
        have hH1 := hH.1
        have hH2 := hH.2.2.2
        simp only [allFacts, SlotFact.h] at hF
        obtain ⟨f53, f54, -⟩ := hF
        simp only [setU, upd, List.map_cons, List.map_nil, List.contains_cons, List.contains_nil, Nat.reduceBEq, Nat.reduceAdd, Bool.or_false, Bool.false_or, Bool.or_true, Bool.true_or, Bool.false_eq_true, if_false, if_true, ite_true, ite_false, Nat.reduceEqDiff, beq_self_eq_true]
        rw [f53, f54]
        clear f53 f54 hne
        refine wpListS_step fun K hK => ?_
        go_wp2_with (fail)
        refine hK _ _ (by go_simp) ?_
        clear hK
        refine wpListS_step fun K hK => ?_
        go_wp2_with (fail)
        refine hK _ _ (by go_simp) ?_
        clear hK
        refine wpListS_step fun K hK => ?_
        go_wp2_with (fail)
        refine hK _ _ (by go_simp) ?_
        clear hK
        refine wpListS_nil ?_
        go_wp2_with fail
        exact bodyPost_ret (v := .tuple #[pr (loT k).1 (loT k).2, pr (hiT k).1 (hiT k).2, .bool true]) (by simp [results, Try.results5, go_sem, *]) rfl ⟨by rw [HV.out], by (first | ((repeat' with_reducible first | assumption | exact Below.refl _ _ | apply Blw.alloc | apply Blw.drew | apply Blw.drewN | (refine Blw.after ?_ (by assumption)) | (refine Blw.set ?_ (by first | (dsimp only; omega) | (simp; omega)) _)); done) | (repeat' (first | assumption | exact Below.refl _ _ | apply Blw.alloc | apply Blw.drew | apply Blw.drewN | (refine Blw.after ?_ (by assumption)) | (refine Blw.set ?_ (by first | (dsimp only; omega) | (simp; done) | (simp; omega)) _))))⟩
  · have HV := Lib.hid (boxV_no h1)
    have H1 : a < 0 ∨ (0 ≤ a ∧ 12 < a) := by
      simp only [inR, Bool.and_eq_false_iff, decide_eq_false_iff_not] at h1; omega
    clear h1
    rcases H1 with H1 | ⟨H1, H2⟩
    all_goals
      go_enter Try.func5, Try.ntmps5
      go_wp2
      exact bodyPost_ret (v := .tuple #[pr 0 0, pr 0 0, .bool false]) (by simp [results, Try.results5, go_sem, *]) rfl ⟨by rw [HV.out], by (first | ((repeat' with_reducible first | assumption | exact Below.refl _ _ | apply Blw.alloc | apply Blw.drew | apply Blw.drewN | (refine Blw.after ?_ (by assumption)) | (refine Blw.set ?_ (by first | (dsimp only; omega) | (simp; omega)) _)); done) | (repeat' (first | assumption | exact Below.refl _ _ | apply Blw.alloc | apply Blw.drew | apply Blw.drewN | (refine Blw.after ?_ (by assumption)) | (refine Blw.set ?_ (by first | (dsimp only; omega) | (simp; done) | (simp; omega)) _))))⟩
end Go.Proofs.Ytaleeoghifcadaa

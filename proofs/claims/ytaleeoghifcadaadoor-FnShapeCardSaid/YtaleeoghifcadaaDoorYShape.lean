/- FnShape (P51): at every code the law answers true: what the program's TileShape gives is what the model gives; if it succeeds it has 2 to the power of the level signs #, in rows of one length, as many rows and columns as TileBox tells; the listed variables are as the program's text lays them. -/
import Derived.Test.YtaleeoghifcadaaDoorZ6
namespace Go.Proofs.YtaleeoghifcadaaDoor
set_option linter.unusedSimpArgs false
set_option linter.unusedVariables false
open Go.ChangeShapes Go.WideShapes Go.ChangeAt Go.RowKit Go.Joins

theorem shpA_len (a : Int) : (shpA a).length ≤ 800 := by
  unfold shpA
  split
  · rename_i h
    have h1 := inR_le h
    obtain ⟨x1, x2, x3, x4, x5, x6, x7, x8⟩ := box8 a.toNat (by simp; omega)
    rw [shpT_len]
    unfold heiT
    omega
  · simp
set_option maxRecDepth 100000 in
set_option maxHeartbeats 4000000 in
theorem sameTexts_c (a a' : Option Addr) (c c' : Nat) (l : List ByteArray) (w : World) (hl : l.length ≤ 1000) (h : SSl a l w) (h' : SSl a' l w) : Calls Tryd.prog 32 #[.slice a l.length c, .slice a' l.length c'] w fun e w' => e = .returned (.bool true) ∧ Below w.heap.size w w' := by
  have H1 := Lib.hid h
  have H2 := Lib.hid h'
  clear h h'
  go_enter Tryd.func32, Tryd.ntmps32
  go_wp2_with fail
  go_loopg [5] l.length (fun m i wr => EqSRel l w m i wr)
  case atStart => exact ⟨0, by omega, rfl, Below.refl _ _⟩
  case round =>
    obtain ⟨k, hk, rfl, hB⟩ := hrel
    by_cases hlt : k < l.length
    · obtain ⟨s, hs⟩ : ∃ s, l[k]? = some s := ⟨l[k], List.getElem?_eq_getElem hlt⟩
      rcases H1.out.keep hB with h0 | ⟨g, rfl, hg⟩
      · subst h0; simp at hlt
      rcases H2.out.keep hB with h0 | ⟨g', rfl, hg'⟩
      · subst h0; simp at hlt
      have c0 := hg k s hs
      have d0 := hg' k s hs
      have Lg : g < wr.heap.size := World.block_lt_of_cell? wr _ c0
      have Lg' : g' < wr.heap.size := World.block_lt_of_cell? wr _ d0
      clear hg hg' hs
      go_wp2_with fail
      refine region_slots (fun _ => True) [] [(17, .is (.slice (some ⟨g, 0, none⟩) l.length c)), (18, .is (.int .i64 k)), (19, .is (.pointer (some ⟨g, k, none⟩))), (20, .is (.string s)), (21, .is (.slice (some ⟨g', 0, none⟩) l.length c')), (22, .is (.int .i64 k)), (23, .is (.pointer (some ⟨g', k, none⟩))), (24, .is (.string s)), (25, .is (.bool false))] (by kernel_rfl) (by kernel_rfl) (by kernel_rfl) (fun _ _ => trivial) (fun _ _ _ _ _ _ h => h) ?_
      simp only [Steps, List.contains_cons, List.contains_nil, Nat.reduceBEq, Nat.reduceAdd, Bool.or_false, Bool.false_or, Bool.or_true, Bool.true_or, Bool.false_eq_true, if_false, if_true]
      refine ⟨?_, ?_, ?_, ?_, ?_, ?_, ?_, ?_, ?_, ?_⟩
      · intro u w2 hH hd K hK
        simp only [setU, upd, List.map_cons, List.map_nil, List.contains_cons, List.contains_nil, Nat.reduceBEq, Nat.reduceAdd, Bool.or_false, Bool.false_or, Bool.or_true, Bool.true_or, Bool.false_eq_true, if_false, if_true, ite_true, ite_false, Nat.reduceEqDiff, beq_self_eq_true] at hK ⊢
        go_wp2_with (fail)
        exact hK _ _ (by (first | ((repeat' with_reducible first | assumption | exact Below.refl _ _ | apply Blw.alloc | apply Blw.drew | apply Blw.drewN | (refine Blw.after ?_ (by assumption)) | (refine Blw.set ?_ (by first | (dsimp only; omega) | (simp; omega)) _)); done) | (repeat' (first | assumption | exact Below.refl _ _ | apply Blw.alloc | apply Blw.drew | apply Blw.drewN | (refine Blw.after ?_ (by assumption)) | (refine Blw.set ?_ (by first | (dsimp only; omega) | (simp; done) | (simp; omega)) _))))) rfl
      · intro u w2 hH hd K hK
        simp only [setU, upd, List.map_cons, List.map_nil, List.contains_cons, List.contains_nil, Nat.reduceBEq, Nat.reduceAdd, Bool.or_false, Bool.false_or, Bool.or_true, Bool.true_or, Bool.false_eq_true, if_false, if_true, ite_true, ite_false, Nat.reduceEqDiff, beq_self_eq_true] at hK ⊢
        go_wp2_with (fail)
        exact hK _ _ (by (first | ((repeat' with_reducible first | assumption | exact Below.refl _ _ | apply Blw.alloc | apply Blw.drew | apply Blw.drewN | (refine Blw.after ?_ (by assumption)) | (refine Blw.set ?_ (by first | (dsimp only; omega) | (simp; omega)) _)); done) | (repeat' (first | assumption | exact Below.refl _ _ | apply Blw.alloc | apply Blw.drew | apply Blw.drewN | (refine Blw.after ?_ (by assumption)) | (refine Blw.set ?_ (by first | (dsimp only; omega) | (simp; done) | (simp; omega)) _))))) rfl
      · intro u w2 hH hd K hK
        have f17 : u 17 = (.slice (some ⟨g, 0, none⟩) l.length c) := hd 17 (by kernel_rfl)
        have f18 : u 18 = (.int .i64 k) := hd 18 (by kernel_rfl)
        simp only [setU, upd, List.map_cons, List.map_nil, List.contains_cons, List.contains_nil, Nat.reduceBEq, Nat.reduceAdd, Bool.or_false, Bool.false_or, Bool.or_true, Bool.true_or, Bool.false_eq_true, if_false, if_true, ite_true, ite_false, Nat.reduceEqDiff, beq_self_eq_true] at hK ⊢
        rw [f17, f18] at hK ⊢
        clear f17 f18
        go_wp2_with (fail)
        exact hK _ _ (by (first | ((repeat' with_reducible first | assumption | exact Below.refl _ _ | apply Blw.alloc | apply Blw.drew | apply Blw.drewN | (refine Blw.after ?_ (by assumption)) | (refine Blw.set ?_ (by first | (dsimp only; omega) | (simp; omega)) _)); done) | (repeat' (first | assumption | exact Below.refl _ _ | apply Blw.alloc | apply Blw.drew | apply Blw.drewN | (refine Blw.after ?_ (by assumption)) | (refine Blw.set ?_ (by first | (dsimp only; omega) | (simp; done) | (simp; omega)) _))))) rfl
      · intro u w2 hH hd K hK
        have f19 : u 19 = (.pointer (some ⟨g, k, none⟩)) := hd 19 (by kernel_rfl)
        simp only [setU, upd, List.map_cons, List.map_nil, List.contains_cons, List.contains_nil, Nat.reduceBEq, Nat.reduceAdd, Bool.or_false, Bool.false_or, Bool.or_true, Bool.true_or, Bool.false_eq_true, if_false, if_true, ite_true, ite_false, Nat.reduceEqDiff, beq_self_eq_true] at hK ⊢
        rw [f19] at hK ⊢
        clear f19
        go_wp2_with (fail)
        exact hK _ _ (by (first | ((repeat' with_reducible first | assumption | exact Below.refl _ _ | apply Blw.alloc | apply Blw.drew | apply Blw.drewN | (refine Blw.after ?_ (by assumption)) | (refine Blw.set ?_ (by first | (dsimp only; omega) | (simp; omega)) _)); done) | (repeat' (first | assumption | exact Below.refl _ _ | apply Blw.alloc | apply Blw.drew | apply Blw.drewN | (refine Blw.after ?_ (by assumption)) | (refine Blw.set ?_ (by first | (dsimp only; omega) | (simp; done) | (simp; omega)) _))))) rfl
      · intro u w2 hH hd K hK
        simp only [setU, upd, List.map_cons, List.map_nil, List.contains_cons, List.contains_nil, Nat.reduceBEq, Nat.reduceAdd, Bool.or_false, Bool.false_or, Bool.or_true, Bool.true_or, Bool.false_eq_true, if_false, if_true, ite_true, ite_false, Nat.reduceEqDiff, beq_self_eq_true] at hK ⊢
        go_wp2_with (fail)
        exact hK _ _ (by (first | ((repeat' with_reducible first | assumption | exact Below.refl _ _ | apply Blw.alloc | apply Blw.drew | apply Blw.drewN | (refine Blw.after ?_ (by assumption)) | (refine Blw.set ?_ (by first | (dsimp only; omega) | (simp; omega)) _)); done) | (repeat' (first | assumption | exact Below.refl _ _ | apply Blw.alloc | apply Blw.drew | apply Blw.drewN | (refine Blw.after ?_ (by assumption)) | (refine Blw.set ?_ (by first | (dsimp only; omega) | (simp; done) | (simp; omega)) _))))) rfl
      · intro u w2 hH hd K hK
        simp only [setU, upd, List.map_cons, List.map_nil, List.contains_cons, List.contains_nil, Nat.reduceBEq, Nat.reduceAdd, Bool.or_false, Bool.false_or, Bool.or_true, Bool.true_or, Bool.false_eq_true, if_false, if_true, ite_true, ite_false, Nat.reduceEqDiff, beq_self_eq_true] at hK ⊢
        go_wp2_with (fail)
        exact hK _ _ (by (first | ((repeat' with_reducible first | assumption | exact Below.refl _ _ | apply Blw.alloc | apply Blw.drew | apply Blw.drewN | (refine Blw.after ?_ (by assumption)) | (refine Blw.set ?_ (by first | (dsimp only; omega) | (simp; omega)) _)); done) | (repeat' (first | assumption | exact Below.refl _ _ | apply Blw.alloc | apply Blw.drew | apply Blw.drewN | (refine Blw.after ?_ (by assumption)) | (refine Blw.set ?_ (by first | (dsimp only; omega) | (simp; done) | (simp; omega)) _))))) rfl
      · intro u w2 hH hd K hK
        have f21 : u 21 = (.slice (some ⟨g', 0, none⟩) l.length c') := hd 21 (by kernel_rfl)
        have f22 : u 22 = (.int .i64 k) := hd 22 (by kernel_rfl)
        simp only [setU, upd, List.map_cons, List.map_nil, List.contains_cons, List.contains_nil, Nat.reduceBEq, Nat.reduceAdd, Bool.or_false, Bool.false_or, Bool.or_true, Bool.true_or, Bool.false_eq_true, if_false, if_true, ite_true, ite_false, Nat.reduceEqDiff, beq_self_eq_true] at hK ⊢
        rw [f21, f22] at hK ⊢
        clear f21 f22
        go_wp2_with (fail)
        exact hK _ _ (by (first | ((repeat' with_reducible first | assumption | exact Below.refl _ _ | apply Blw.alloc | apply Blw.drew | apply Blw.drewN | (refine Blw.after ?_ (by assumption)) | (refine Blw.set ?_ (by first | (dsimp only; omega) | (simp; omega)) _)); done) | (repeat' (first | assumption | exact Below.refl _ _ | apply Blw.alloc | apply Blw.drew | apply Blw.drewN | (refine Blw.after ?_ (by assumption)) | (refine Blw.set ?_ (by first | (dsimp only; omega) | (simp; done) | (simp; omega)) _))))) rfl
      · intro u w2 hH hd K hK
        have f23 : u 23 = (.pointer (some ⟨g', k, none⟩)) := hd 23 (by kernel_rfl)
        simp only [setU, upd, List.map_cons, List.map_nil, List.contains_cons, List.contains_nil, Nat.reduceBEq, Nat.reduceAdd, Bool.or_false, Bool.false_or, Bool.or_true, Bool.true_or, Bool.false_eq_true, if_false, if_true, ite_true, ite_false, Nat.reduceEqDiff, beq_self_eq_true] at hK ⊢
        rw [f23] at hK ⊢
        clear f23
        go_wp2_with (fail)
        exact hK _ _ (by (first | ((repeat' with_reducible first | assumption | exact Below.refl _ _ | apply Blw.alloc | apply Blw.drew | apply Blw.drewN | (refine Blw.after ?_ (by assumption)) | (refine Blw.set ?_ (by first | (dsimp only; omega) | (simp; omega)) _)); done) | (repeat' (first | assumption | exact Below.refl _ _ | apply Blw.alloc | apply Blw.drew | apply Blw.drewN | (refine Blw.after ?_ (by assumption)) | (refine Blw.set ?_ (by first | (dsimp only; omega) | (simp; done) | (simp; omega)) _))))) rfl
      · intro u w2 hH hd K hK
        have f20 : u 20 = (.string s) := hd 20 (by kernel_rfl)
        have f24 : u 24 = (.string s) := hd 24 (by kernel_rfl)
        simp only [setU, upd, List.map_cons, List.map_nil, List.contains_cons, List.contains_nil, Nat.reduceBEq, Nat.reduceAdd, Bool.or_false, Bool.false_or, Bool.or_true, Bool.true_or, Bool.false_eq_true, if_false, if_true, ite_true, ite_false, Nat.reduceEqDiff, beq_self_eq_true] at hK ⊢
        rw [f20, f24] at hK ⊢
        clear f20 f24
        go_wp2_with (fail)
        exact hK _ _ (by (first | ((repeat' with_reducible first | assumption | exact Below.refl _ _ | apply Blw.alloc | apply Blw.drew | apply Blw.drewN | (refine Blw.after ?_ (by assumption)) | (refine Blw.set ?_ (by first | (dsimp only; omega) | (simp; omega)) _)); done) | (repeat' (first | assumption | exact Below.refl _ _ | apply Blw.alloc | apply Blw.drew | apply Blw.drewN | (refine Blw.after ?_ (by assumption)) | (refine Blw.set ?_ (by first | (dsimp only; omega) | (simp; done) | (simp; omega)) _))))) rfl
      intro u w2 hH hF hne
      have hH1 := hH.1
      have hH2 := hH.2.2.2
      simp only [allFacts, SlotFact.h] at hF
      obtain ⟨f17, f18, f19, f20, f21, f22, f23, f24, f25, -⟩ := hF
      simp only [setU, upd, List.map_cons, List.map_nil, List.contains_cons, List.contains_nil, Nat.reduceBEq, Nat.reduceAdd, Bool.or_false, Bool.false_or, Bool.or_true, Bool.true_or, Bool.false_eq_true, if_false, if_true, ite_true, ite_false, Nat.reduceEqDiff, beq_self_eq_true]
      rw [f17, f18, f19, f20, f21, f22, f23, f24, f25]
      clear f17 f18 f19 f20 f21 f22 f23 f24 f25 hne
      refine wpListS_true ?_
      go_wp2
      go_roundg (gk - 1)
      case measure => omega
      case rel => exact ⟨k + 1, by omega, by go_num, by (first | ((repeat' with_reducible first | assumption | exact Below.refl _ _ | apply Blw.alloc | apply Blw.drew | apply Blw.drewN | (refine Blw.after ?_ (by assumption)) | (refine Blw.set ?_ (by first | (dsimp only; omega) | (simp; omega)) _)); done) | (repeat' (first | assumption | exact Below.refl _ _ | apply Blw.alloc | apply Blw.drew | apply Blw.drewN | (refine Blw.after ?_ (by assumption)) | (refine Blw.set ?_ (by first | (dsimp only; omega) | (simp; done) | (simp; omega)) _))))⟩
    · go_wp2
      go_ret
      exact ⟨rfl, hB⟩

/-- the signs # of the first signs of a row, and of the first rows -/
def cntR (n : Nat) (y : Int) : Nat → Nat
  | 0 => 0
  | k + 1 => cntR n y k + (if cellT n ((loT n).1 + (k : Nat)) y = 35 then 1 else 0)
def cntH (n : Nat) : Nat → Nat
  | 0 => 0
  | k + 1 => cntH n k + cntR n ((hiT n).2 - (k : Nat)) (widT n)
theorem cnt_all : ∀ n ∈ List.range 9, cntH n (heiT n) = 2 ^ n := by decide +kernel
theorem cntR_le (n : Nat) (y : Int) (k : Nat) : cntR n y k ≤ k := by
  induction k with
  | zero => exact Nat.le_refl _
  | succ k ih => unfold cntR; split <;> omega
theorem cntH_le (n : Nat) (k : Nat) : cntH n k ≤ k * widT n := by
  induction k with
  | zero => simp [cntH]
  | succ k ih =>
    have := cntR_le n ((hiT n).2 - (k : Nat)) (widT n)
    rw [Nat.succ_mul]
    unfold cntH
    omega
theorem wid_le {n : Nat} (h : n ≤ 8) : widT n ≤ 201 ∧ heiT n ≤ 201 ∧ (widT n : Int) = (hiT n).1 - (loT n).1 + 1 ∧ (heiT n : Int) = (hiT n).2 - (loT n).2 + 1 := by
  obtain ⟨x1, x2, x3, x4, x5, x6, x7, x8⟩ := box8 n (by simp; omega)
  unfold widT heiT
  omega
def ShoRel (n : Nat) (w : World) (m : Nat) (v i : Value) (wr : World) : Prop :=
  ∃ k : Nat, k + m = heiT n ∧ i = .int .i64 k ∧ v = .int .i64 (cntH n k : Nat) ∧ Below w.heap.size w wr
def ShiRel (n c : Nat) (y : Int) (w : World) (m : Nat) (v i : Value) (wr : World) : Prop :=
  ∃ k : Nat, k + m = widT n ∧ i = .int .i64 k ∧ v = .int .i64 (c + cntR n y k : Nat) ∧ wr = w
set_option maxRecDepth 100000 in
set_option maxHeartbeats 8000000 in
theorem lawShape_c (a : Option Addr) (len cap : Nat) (w : World) (hc : len ≤ 1048576 → Code (.slice a len cap) w) (hT : Two w) : Calls Tryd.prog 7 #[.slice a len cap] w fun e w' => e = .returned (.bool true) ∧ Below w.heap.size w w' := by
  have HT := Lib.hid hT
  have hpos := hT.pos
  clear hT
  by_cases hl : 1048576 < len
  · go_enter Tryd.func7, Tryd.ntmps7
    go_wp2
    go_ret
    exact ⟨rfl, by (first | ((repeat' with_reducible first | assumption | exact Below.refl _ _ | apply Blw.alloc | apply Blw.drew | apply Blw.drewN | (refine Blw.after ?_ (by assumption)) | (refine Blw.set ?_ (by first | (dsimp only; omega) | (simp; omega)) _)); done) | (repeat' (first | assumption | exact Below.refl _ _ | apply Blw.alloc | apply Blw.drew | apply Blw.drewN | (refine Blw.after ?_ (by assumption)) | (refine Blw.set ?_ (by first | (dsimp only; omega) | (simp; done) | (simp; omega)) _))))⟩
  · go_enter Tryd.func7, Tryd.ntmps7
    go_wp2_with fail
    refine (drawTileShape_c _ w (hc (by omega))).mono ?_
    rintro e W1 ⟨k, rfl, hk, hB⟩
    clear hc
    have HB1 := Lib.hid hB
    have HT1 := Lib.hid (HT.out.keep hpos hB)
    have hpos1 : 5 < W1.heap.size := Nat.lt_of_lt_of_le hpos hB.size
    have hN0 := shpA_len k
    have hN : (shpA k).length ≤ 1000 := by omega
    clear hB hN0
    go_wp2_with fail
    refine (iTileShape_c k W1 HT1.out hpos1).mono ?_
    rintro e w1 ⟨v0, rfl, ⟨a0, c0, rfl, hg0, -⟩, hb1⟩
    have HG0 := Lib.hid hg0
    have HB2 := Lib.hid (Blw.after HB1.out hb1)
    clear hg0 hb1
    go_wp2_with fail
    refine (sTileShape_c k w1).mono ?_
    rintro e w2 ⟨v1, rfl, ⟨a1, c1, rfl, hg1, -⟩, hb2⟩
    have HG1 := Lib.hid hg1
    have HG02 := Lib.hid (HG0.out.keep hb2)
    have HB3 := Lib.hid (Blw.after HB2.out hb2)
    clear hg1 hb2
    rcases Bool.eq_false_or_eq_true (inR 0 8 k) with hr | hr
    · have H1 := inR_le hr
      have HX := Lib.hid (fun w => iTileBox_c k w)
      rw [boxV_yes (by simp only [inR, Bool.and_eq_true, decide_eq_true_eq]; omega)] at HX
      have HL := Lib.hid (show shpA k = shpT k.toNat (heiT k.toNat) by unfold shpA; rw [if_pos hr])
      obtain ⟨n, rfl⟩ : ∃ n : Nat, k = (n : Int) := ⟨k.toNat, by omega⟩
      rw [Int.toNat_natCast] at HL HX
      have hn : n ≤ 8 := by omega
      have p8 := pow8 hn
      obtain ⟨q1, q2, q3, q4⟩ := wid_le hn
      obtain ⟨x1, x2, x3, x4, x5, x6, x7, x8⟩ := box8 n (by simp; omega)
      have HCA := Lib.hid (cnt_all n (by simp; omega))
      have pw : wrap64 (2 ^ n) = ((2 ^ n : Nat) : Int) := by
        have e : (2 : Int) ^ n = ((2 ^ n : Nat) : Int) := by push_cast; rfl
        rw [e]
        generalize 2 ^ n = P at *
        unfold wrap64
        omega
      have hLl : (shpA n).length = heiT n := by rw [HL.out, shpT_len]
      have HLl := Lib.hid hLl
      have HGet := Lib.hid (fun i (hi : i < heiT n) => show (shpA n)[i]? = some (bs (rowT n ((hiT n).2 - (i : Nat)) (widT n))) by
        rw [HL.out]; unfold shpT; rw [List.getElem?_map, List.getElem?_range hi]; rfl)
      rw [hr]
      rw [hLl] at hN
      clear hr hLl HL
      generalize shpA (n : Int) = L at *
      go_wp2_with fail
      refine (sameTexts_c a0 a1 c0 c1 L w2 (by rw [HLl.out]; exact hN) HG02.out HG1.out).mono ?_
      rintro e w3 ⟨rfl, hb3⟩
      have HG03 := Lib.hid (HG02.out.keep hb3)
      have HB4 := Lib.hid (Blw.after HB3.out hb3)
      clear hb3
      go_wp2_with fail
      refine (HX.out _).mono ?_
      rintro e w4 ⟨rfl, hb4⟩
      have HG04 := Lib.hid (HG03.out.keep hb4)
      have HB5 := Lib.hid (Blw.after HB4.out hb4)
      clear hb4
      obtain ⟨N, hN2⟩ : ∃ N : Nat, heiT n = N := ⟨_, rfl⟩
      have HNN := Lib.hid hN2
      have HQ3 := Lib.hid q3
      have HQ4 := Lib.hid q4
      clear hN2 q3 q4
      go_wp2_with fail
      generalize hW : World.alloc _ _ = W5
      have o0 : Own2 W5 w4.heap.size (loT n).1 (loT n).2 := by rw [← hW]; exact (Own2.fresh w4 _ _ _).alloc _
      have o1 : Own2 W5 (w4.heap.size + 1) (hiT n).1 (hiT n).2 := by
        rw [← hW]
        have h := Own2.fresh (w4.alloc (.cells #[.int .i64 (loT n).1, .int .i64 (loT n).2] 24)) (hiT n).1 (hiT n).2 24
        rw [alloc_size] at h
        exact h
      have HB6 := Lib.hid (show Below w.heap.size w W5 by rw [← hW]; have := HB5.out; (first | ((repeat' with_reducible first | assumption | exact Below.refl _ _ | apply Blw.alloc | apply Blw.drew | apply Blw.drewN | (refine Blw.after ?_ (by assumption)) | (refine Blw.set ?_ (by first | (dsimp only; omega) | (simp; omega)) _)); done) | (repeat' (first | assumption | exact Below.refl _ _ | apply Blw.alloc | apply Blw.drew | apply Blw.drewN | (refine Blw.after ?_ (by assumption)) | (refine Blw.set ?_ (by first | (dsimp only; omega) | (simp; done) | (simp; omega)) _)))))
      have HG05 := Lib.hid (show SSl a0 L W5 from HG04.out.keep (by rw [← hW]; (first | ((repeat' with_reducible first | assumption | exact Below.refl _ _ | apply Blw.alloc | apply Blw.drew | apply Blw.drewN | (refine Blw.after ?_ (by assumption)) | (refine Blw.set ?_ (by first | (dsimp only; omega) | (simp; omega)) _)); done) | (repeat' (first | assumption | exact Below.refl _ _ | apply Blw.alloc | apply Blw.drew | apply Blw.drewN | (refine Blw.after ?_ (by assumption)) | (refine Blw.set ?_ (by first | (dsimp only; omega) | (simp; done) | (simp; omega)) _))))))
      clear hW
      have HOO := Lib.hid (And.intro o0 o1)
      clear o0 o1
      have hLN : L.length = N := by rw [HLl.out, HNN.out]
      rw [hLN]
      have HLN := Lib.hid hLN
      clear hLN
      go_loopg [11, 12] N (fun m v i wr => ShoRel n W5 m v i wr)
      case atStart => exact ⟨0, by rw [HNN.out]; omega, rfl, rfl, Below.refl _ _⟩
      case round =>
        obtain ⟨j, hj, rfl, rfl, hBr⟩ := hrel
        obtain ⟨gk0, hgk0⟩ : ∃ gk0, gk0 = gk := ⟨_, rfl⟩
        have HGK := Lib.hid hgk0
        have HJ := Lib.hid hj
        rw [HNN.out] at hj
        have HJN := Lib.hid hj
        have HBr := Lib.hid hBr
        obtain ⟨p0, p1⟩ := HOO.out
        obtain ⟨d0, d1, -, -⟩ := p0.below hBr p0.lt
        obtain ⟨e0, e1, -, -⟩ := p1.below hBr p1.lt
        have Lp := p1.lt
        have LW : W5.heap.size ≤ wr.heap.size := hBr.size
        have hcs := cntH_le n j
        clear hgk0 p0 p1
        by_cases hlt : j < N
        · have HGZ := Lib.hid (show j + 1 + (gk0 - 1) = N ∧ gk0 - 1 < gk by have := HJN.out; have := HGK.out; omega)
          have hjb : j ≤ 300 := by have := HNN.out; omega
          have hgt := HGet.out j (by rw [HNN.out]; exact hlt)
          have hsz : (bs (rowT n ((hiT n).2 - (j : Nat)) (widT n))).size = widT n := by rw [bs_sz, rowT_len]
          have HSC := Lib.hid (show cntH n (j + 1) = cntH n j + cntR n ((hiT n).2 - (j : Nat)) (widT n) from rfl)
          have HAt := Lib.hid (fun i (hi : i < (bs (rowT n ((hiT n).2 - (j : Nat)) (widT n))).size) => show (bs (rowT n ((hiT n).2 - (j : Nat)) (widT n)))[i] = cellT n ((loT n).1 + (i : Nat)) ((hiT n).2 - (j : Nat)) by
            have h1 := toL_get (bs (rowT n ((hiT n).2 - (j : Nat)) (widT n))) i hi
            rw [toL_bs] at h1
            unfold rowT at h1
            rw [hsz] at hi
            rw [List.getElem?_map, List.getElem?_range hi] at h1
            exact (Option.some.inj h1).symm)
          rcases HG05.out.keep hBr with h0 | ⟨g, rfl, hg⟩
          · subst h0; have := HLN.out; simp at this; omega
          have g0 := hg j _ hgt
          have Lg : g < wr.heap.size := World.block_lt_of_cell? wr _ g0
          have hwb : (widT n : Int) = (hiT n).1 - (loT n).1 + 1 := HQ3.out
          have hmul : cntH n j ≤ 50000 := by
            have h2 : j * widT n ≤ 201 * 201 := Nat.mul_le_mul (by have := HNN.out; omega) q1
            omega
          have HSZ := Lib.hid hsz
          clear hgt hg hBr hj hcs
          generalize hyy : (hiT n).2 - ((j : Nat) : Int) = y at *
          clear hyy
          generalize hss : bs (rowT n y (widT n)) = s at *
          clear hss
          generalize hcc : cntH n j = cj at *
          clear hcc
          generalize hw1 : widT n = W at *
          have HWW := Lib.hid hw1
          clear hw1
          have hsW : (s.size : Int) = (hiT n).1 - (loT n).1 + 1 := by rw [hsz]; exact hwb
          generalize (hiT n).1 = h1 at *
          generalize hl1 : (loT n).1 = l1 at *
          have HL1 := Lib.hid hl1
          clear hl1
          have Lq1 : w4.heap.size + 1 < wr.heap.size := by omega
          have Lq0 : w4.heap.size < wr.heap.size := by omega
          clear hsz hwb
          go_wp2_with fail
          refine region_slots (fun _ => True) [] [(62, .is (.slice (some ⟨g, 0, none⟩) N c0)), (63, .is (.int .i64 j)), (64, .is (.pointer (some ⟨g, j, none⟩))), (65, .is (.string s)), (66, .is (.int .i64 (h1 - l1 + 1))), (67, .is (.pointer (some ⟨w4.heap.size + 1, 0, none⟩))), (68, .is (.int .i64 h1)), (69, .is (.pointer (some ⟨w4.heap.size, 0, none⟩))), (70, .is (.int .i64 l1)), (71, .is (.int .i64 (h1 - l1))), (72, .is (.int .i64 (h1 - l1 + 1))), (73, .is (.bool false))] (by kernel_rfl) (by kernel_rfl) (by kernel_rfl) (fun _ _ => trivial) (fun _ _ _ _ _ _ h => h) ?_
          simp only [Steps, List.contains_cons, List.contains_nil, Nat.reduceBEq, Nat.reduceAdd, Bool.or_false, Bool.false_or, Bool.or_true, Bool.true_or, Bool.false_eq_true, if_false, if_true]
          refine ⟨?_, ?_, ?_, ?_, ?_, ?_, ?_, ?_, ?_, ?_, ?_, ?_, ?_⟩
          · intro u w2 hH hd K hK
            simp only [setU, upd, List.map_cons, List.map_nil, List.contains_cons, List.contains_nil, Nat.reduceBEq, Nat.reduceAdd, Bool.or_false, Bool.false_or, Bool.or_true, Bool.true_or, Bool.false_eq_true, if_false, if_true, ite_true, ite_false, Nat.reduceEqDiff, beq_self_eq_true] at hK ⊢
            go_wp2_with (fail)
            exact hK _ _ (by (first | ((repeat' with_reducible first | assumption | exact Below.refl _ _ | apply Blw.alloc | apply Blw.drew | apply Blw.drewN | (refine Blw.after ?_ (by assumption)) | (refine Blw.set ?_ (by first | (dsimp only; omega) | (simp; omega)) _)); done) | (repeat' (first | assumption | exact Below.refl _ _ | apply Blw.alloc | apply Blw.drew | apply Blw.drewN | (refine Blw.after ?_ (by assumption)) | (refine Blw.set ?_ (by first | (dsimp only; omega) | (simp; done) | (simp; omega)) _))))) rfl
          · intro u w2 hH hd K hK
            simp only [setU, upd, List.map_cons, List.map_nil, List.contains_cons, List.contains_nil, Nat.reduceBEq, Nat.reduceAdd, Bool.or_false, Bool.false_or, Bool.or_true, Bool.true_or, Bool.false_eq_true, if_false, if_true, ite_true, ite_false, Nat.reduceEqDiff, beq_self_eq_true] at hK ⊢
            go_wp2_with (fail)
            exact hK _ _ (by (first | ((repeat' with_reducible first | assumption | exact Below.refl _ _ | apply Blw.alloc | apply Blw.drew | apply Blw.drewN | (refine Blw.after ?_ (by assumption)) | (refine Blw.set ?_ (by first | (dsimp only; omega) | (simp; omega)) _)); done) | (repeat' (first | assumption | exact Below.refl _ _ | apply Blw.alloc | apply Blw.drew | apply Blw.drewN | (refine Blw.after ?_ (by assumption)) | (refine Blw.set ?_ (by first | (dsimp only; omega) | (simp; done) | (simp; omega)) _))))) rfl
          · intro u w2 hH hd K hK
            have f62 : u 62 = (.slice (some ⟨g, 0, none⟩) N c0) := hd 62 (by kernel_rfl)
            have f63 : u 63 = (.int .i64 j) := hd 63 (by kernel_rfl)
            simp only [setU, upd, List.map_cons, List.map_nil, List.contains_cons, List.contains_nil, Nat.reduceBEq, Nat.reduceAdd, Bool.or_false, Bool.false_or, Bool.or_true, Bool.true_or, Bool.false_eq_true, if_false, if_true, ite_true, ite_false, Nat.reduceEqDiff, beq_self_eq_true] at hK ⊢
            rw [f62, f63] at hK ⊢
            clear f62 f63
            go_wp2_with (fail)
            exact hK _ _ (by (first | ((repeat' with_reducible first | assumption | exact Below.refl _ _ | apply Blw.alloc | apply Blw.drew | apply Blw.drewN | (refine Blw.after ?_ (by assumption)) | (refine Blw.set ?_ (by first | (dsimp only; omega) | (simp; omega)) _)); done) | (repeat' (first | assumption | exact Below.refl _ _ | apply Blw.alloc | apply Blw.drew | apply Blw.drewN | (refine Blw.after ?_ (by assumption)) | (refine Blw.set ?_ (by first | (dsimp only; omega) | (simp; done) | (simp; omega)) _))))) rfl
          · intro u w2 hH hd K hK
            have f64 : u 64 = (.pointer (some ⟨g, j, none⟩)) := hd 64 (by kernel_rfl)
            simp only [setU, upd, List.map_cons, List.map_nil, List.contains_cons, List.contains_nil, Nat.reduceBEq, Nat.reduceAdd, Bool.or_false, Bool.false_or, Bool.or_true, Bool.true_or, Bool.false_eq_true, if_false, if_true, ite_true, ite_false, Nat.reduceEqDiff, beq_self_eq_true] at hK ⊢
            rw [f64] at hK ⊢
            clear f64
            go_wp2_with (fail)
            exact hK _ _ (by (first | ((repeat' with_reducible first | assumption | exact Below.refl _ _ | apply Blw.alloc | apply Blw.drew | apply Blw.drewN | (refine Blw.after ?_ (by assumption)) | (refine Blw.set ?_ (by first | (dsimp only; omega) | (simp; omega)) _)); done) | (repeat' (first | assumption | exact Below.refl _ _ | apply Blw.alloc | apply Blw.drew | apply Blw.drewN | (refine Blw.after ?_ (by assumption)) | (refine Blw.set ?_ (by first | (dsimp only; omega) | (simp; done) | (simp; omega)) _))))) rfl
          · intro u w2 hH hd K hK
            have f65 : u 65 = (.string s) := hd 65 (by kernel_rfl)
            simp only [setU, upd, List.map_cons, List.map_nil, List.contains_cons, List.contains_nil, Nat.reduceBEq, Nat.reduceAdd, Bool.or_false, Bool.false_or, Bool.or_true, Bool.true_or, Bool.false_eq_true, if_false, if_true, ite_true, ite_false, Nat.reduceEqDiff, beq_self_eq_true] at hK ⊢
            rw [f65] at hK ⊢
            clear f65
            go_wp2_with (fail)
            exact hK _ _ (by (first | ((repeat' with_reducible first | assumption | exact Below.refl _ _ | apply Blw.alloc | apply Blw.drew | apply Blw.drewN | (refine Blw.after ?_ (by assumption)) | (refine Blw.set ?_ (by first | (dsimp only; omega) | (simp; omega)) _)); done) | (repeat' (first | assumption | exact Below.refl _ _ | apply Blw.alloc | apply Blw.drew | apply Blw.drewN | (refine Blw.after ?_ (by assumption)) | (refine Blw.set ?_ (by first | (dsimp only; omega) | (simp; done) | (simp; omega)) _))))) rfl
          · intro u w2 hH hd K hK
            simp only [setU, upd, List.map_cons, List.map_nil, List.contains_cons, List.contains_nil, Nat.reduceBEq, Nat.reduceAdd, Bool.or_false, Bool.false_or, Bool.or_true, Bool.true_or, Bool.false_eq_true, if_false, if_true, ite_true, ite_false, Nat.reduceEqDiff, beq_self_eq_true] at hK ⊢
            go_wp2_with (fail)
            exact hK _ _ (by (first | ((repeat' with_reducible first | assumption | exact Below.refl _ _ | apply Blw.alloc | apply Blw.drew | apply Blw.drewN | (refine Blw.after ?_ (by assumption)) | (refine Blw.set ?_ (by first | (dsimp only; omega) | (simp; omega)) _)); done) | (repeat' (first | assumption | exact Below.refl _ _ | apply Blw.alloc | apply Blw.drew | apply Blw.drewN | (refine Blw.after ?_ (by assumption)) | (refine Blw.set ?_ (by first | (dsimp only; omega) | (simp; done) | (simp; omega)) _))))) rfl
          · intro u w2 hH hd K hK
            have f67 : u 67 = (.pointer (some ⟨w4.heap.size + 1, 0, none⟩)) := hd 67 (by kernel_rfl)
            simp only [setU, upd, List.map_cons, List.map_nil, List.contains_cons, List.contains_nil, Nat.reduceBEq, Nat.reduceAdd, Bool.or_false, Bool.false_or, Bool.or_true, Bool.true_or, Bool.false_eq_true, if_false, if_true, ite_true, ite_false, Nat.reduceEqDiff, beq_self_eq_true] at hK ⊢
            rw [f67] at hK ⊢
            clear f67
            go_wp2_with (fail)
            exact hK _ _ (by (first | ((repeat' with_reducible first | assumption | exact Below.refl _ _ | apply Blw.alloc | apply Blw.drew | apply Blw.drewN | (refine Blw.after ?_ (by assumption)) | (refine Blw.set ?_ (by first | (dsimp only; omega) | (simp; omega)) _)); done) | (repeat' (first | assumption | exact Below.refl _ _ | apply Blw.alloc | apply Blw.drew | apply Blw.drewN | (refine Blw.after ?_ (by assumption)) | (refine Blw.set ?_ (by first | (dsimp only; omega) | (simp; done) | (simp; omega)) _))))) rfl
          · intro u w2 hH hd K hK
            simp only [setU, upd, List.map_cons, List.map_nil, List.contains_cons, List.contains_nil, Nat.reduceBEq, Nat.reduceAdd, Bool.or_false, Bool.false_or, Bool.or_true, Bool.true_or, Bool.false_eq_true, if_false, if_true, ite_true, ite_false, Nat.reduceEqDiff, beq_self_eq_true] at hK ⊢
            go_wp2_with (fail)
            exact hK _ _ (by (first | ((repeat' with_reducible first | assumption | exact Below.refl _ _ | apply Blw.alloc | apply Blw.drew | apply Blw.drewN | (refine Blw.after ?_ (by assumption)) | (refine Blw.set ?_ (by first | (dsimp only; omega) | (simp; omega)) _)); done) | (repeat' (first | assumption | exact Below.refl _ _ | apply Blw.alloc | apply Blw.drew | apply Blw.drewN | (refine Blw.after ?_ (by assumption)) | (refine Blw.set ?_ (by first | (dsimp only; omega) | (simp; done) | (simp; omega)) _))))) rfl
          · intro u w2 hH hd K hK
            have f69 : u 69 = (.pointer (some ⟨w4.heap.size, 0, none⟩)) := hd 69 (by kernel_rfl)
            simp only [setU, upd, List.map_cons, List.map_nil, List.contains_cons, List.contains_nil, Nat.reduceBEq, Nat.reduceAdd, Bool.or_false, Bool.false_or, Bool.or_true, Bool.true_or, Bool.false_eq_true, if_false, if_true, ite_true, ite_false, Nat.reduceEqDiff, beq_self_eq_true] at hK ⊢
            rw [f69] at hK ⊢
            clear f69
            go_wp2_with (fail)
            exact hK _ _ (by (first | ((repeat' with_reducible first | assumption | exact Below.refl _ _ | apply Blw.alloc | apply Blw.drew | apply Blw.drewN | (refine Blw.after ?_ (by assumption)) | (refine Blw.set ?_ (by first | (dsimp only; omega) | (simp; omega)) _)); done) | (repeat' (first | assumption | exact Below.refl _ _ | apply Blw.alloc | apply Blw.drew | apply Blw.drewN | (refine Blw.after ?_ (by assumption)) | (refine Blw.set ?_ (by first | (dsimp only; omega) | (simp; done) | (simp; omega)) _))))) rfl
          · intro u w2 hH hd K hK
            have f68 : u 68 = (.int .i64 h1) := hd 68 (by kernel_rfl)
            have f70 : u 70 = (.int .i64 l1) := hd 70 (by kernel_rfl)
            simp only [setU, upd, List.map_cons, List.map_nil, List.contains_cons, List.contains_nil, Nat.reduceBEq, Nat.reduceAdd, Bool.or_false, Bool.false_or, Bool.or_true, Bool.true_or, Bool.false_eq_true, if_false, if_true, ite_true, ite_false, Nat.reduceEqDiff, beq_self_eq_true] at hK ⊢
            rw [f68, f70] at hK ⊢
            clear f68 f70
            go_wp2_with (fail)
            exact hK _ _ (by (first | ((repeat' with_reducible first | assumption | exact Below.refl _ _ | apply Blw.alloc | apply Blw.drew | apply Blw.drewN | (refine Blw.after ?_ (by assumption)) | (refine Blw.set ?_ (by first | (dsimp only; omega) | (simp; omega)) _)); done) | (repeat' (first | assumption | exact Below.refl _ _ | apply Blw.alloc | apply Blw.drew | apply Blw.drewN | (refine Blw.after ?_ (by assumption)) | (refine Blw.set ?_ (by first | (dsimp only; omega) | (simp; done) | (simp; omega)) _))))) rfl
          · intro u w2 hH hd K hK
            have f71 : u 71 = (.int .i64 (h1 - l1)) := hd 71 (by kernel_rfl)
            simp only [setU, upd, List.map_cons, List.map_nil, List.contains_cons, List.contains_nil, Nat.reduceBEq, Nat.reduceAdd, Bool.or_false, Bool.false_or, Bool.or_true, Bool.true_or, Bool.false_eq_true, if_false, if_true, ite_true, ite_false, Nat.reduceEqDiff, beq_self_eq_true] at hK ⊢
            rw [f71] at hK ⊢
            clear f71
            go_wp2_with (fail)
            exact hK _ _ (by (first | ((repeat' with_reducible first | assumption | exact Below.refl _ _ | apply Blw.alloc | apply Blw.drew | apply Blw.drewN | (refine Blw.after ?_ (by assumption)) | (refine Blw.set ?_ (by first | (dsimp only; omega) | (simp; omega)) _)); done) | (repeat' (first | assumption | exact Below.refl _ _ | apply Blw.alloc | apply Blw.drew | apply Blw.drewN | (refine Blw.after ?_ (by assumption)) | (refine Blw.set ?_ (by first | (dsimp only; omega) | (simp; done) | (simp; omega)) _))))) rfl
          · intro u w2 hH hd K hK
            have f66 : u 66 = (.int .i64 (h1 - l1 + 1)) := hd 66 (by kernel_rfl)
            have f72 : u 72 = (.int .i64 (h1 - l1 + 1)) := hd 72 (by kernel_rfl)
            simp only [setU, upd, List.map_cons, List.map_nil, List.contains_cons, List.contains_nil, Nat.reduceBEq, Nat.reduceAdd, Bool.or_false, Bool.false_or, Bool.or_true, Bool.true_or, Bool.false_eq_true, if_false, if_true, ite_true, ite_false, Nat.reduceEqDiff, beq_self_eq_true] at hK ⊢
            rw [f66, f72] at hK ⊢
            clear f66 f72
            go_wp2_with (fail)
            exact hK _ _ (by (first | ((repeat' with_reducible first | assumption | exact Below.refl _ _ | apply Blw.alloc | apply Blw.drew | apply Blw.drewN | (refine Blw.after ?_ (by assumption)) | (refine Blw.set ?_ (by first | (dsimp only; omega) | (simp; omega)) _)); done) | (repeat' (first | assumption | exact Below.refl _ _ | apply Blw.alloc | apply Blw.drew | apply Blw.drewN | (refine Blw.after ?_ (by assumption)) | (refine Blw.set ?_ (by first | (dsimp only; omega) | (simp; done) | (simp; omega)) _))))) rfl
          intro u w2 hH hF hne
          have hH1 := hH.1
          have hH2 := hH.2.2.2
          simp only [allFacts, SlotFact.h] at hF
          obtain ⟨f62, f63, f64, f65, f66, f67, f68, f69, f70, f71, f72, f73, -⟩ := hF
          simp only [setU, upd, List.map_cons, List.map_nil, List.contains_cons, List.contains_nil, Nat.reduceBEq, Nat.reduceAdd, Bool.or_false, Bool.false_or, Bool.or_true, Bool.true_or, Bool.false_eq_true, if_false, if_true, ite_true, ite_false, Nat.reduceEqDiff, beq_self_eq_true]
          rw [f62, f63, f64, f65, f66, f67, f68, f69, f70, f71, f72, f73]
          clear f62 f63 f64 f65 f66 f67 f68 f69 f70 f71 f72 f73 hne
          refine wpListS_true ?_
          have HB6w := Lib.hid (Blw.after HBr.out hH1)
          have g1 := keepcell hH1 g0
          have Lg1 : g < w2.heap.size := World.block_lt_of_cell? w2 _ g1
          clear hH hH1 hH2 g0 d0 d1 e0 e1
          go_wp2_with fail
          obtain ⟨w6, hw6⟩ : ∃ w6, w6 = w2 := ⟨_, rfl⟩
          rw [← hw6]
          rw [← hw6] at g1 Lg1 HB6w
          clear hw6
          have hW2 : s.size ≤ 300 := by omega
          have hW3 : s.size = W := by have := HSZ.out; omega
          have HW3 := Lib.hid hW3
          have S1 := Lib.hid (show ShiRel n cj y w6 W (.int .i64 (cj : Nat)) (.int .i64 0) w6 from ⟨0, by rw [HWW.out]; omega, rfl, rfl, rfl⟩)
          clear hW3
          go_loopg [11, 13] W (fun m v i wr => ShiRel n cj y w6 m v i wr)
          case atStart => exact S1.out
          case round =>
            clear S1
            obtain ⟨q, hq, rfl, rfl, rfl⟩ := hrel
            rw [HWW.out] at hq
            have HQ := Lib.hid hq
            have hcl := cntR_le n y q
            by_cases hlt2 : q < s.size
            · have hb := HAt.out q hlt2
              have hql : q ≤ 300 := by omega
              have hcl2 : cntR n y q ≤ 300 := by omega
              have HG1 := Lib.hid (show q + 1 + (gk - 1) = W ∧ gk - 1 < gk by have := HW3.out; omega)
              by_cases hcell : cellT n (l1 + (q : Nat)) y = 35
              · have a1 : ((s[q].toNat : Int) == 35) = true := by rw [hb, hcell]; rfl
                have HCR := Lib.hid (show cntR n y (q + 1) = cntR n y q + 1 by show cntR n y q + (if cellT n ((loT n).1 + (q : Nat)) y = 35 then 1 else 0) = _; rw [HL1.out, if_pos hcell])
                clear hb hcell hq hcl
                generalize cntR n y q = cq at *
                go_wp2_with fail
                go_roundg (gk - 1)
                case measure => exact HG1.out.2
                case rel => exact ⟨q + 1, by rw [HWW.out]; exact HG1.out.1, by go_num, by rw [HCR.out]; go_num, rfl⟩
              · have a1 : ((s[q].toNat : Int) == 35) = false := by
                  rw [hb]
                  have : (cellT n (l1 + (q : Nat)) y).toNat ≠ 35 := fun e => hcell (UInt8.toNat_inj.1 (by rw [e]; rfl))
                  simp; omega
                have HCR := Lib.hid (show cntR n y (q + 1) = cntR n y q by show cntR n y q + (if cellT n ((loT n).1 + (q : Nat)) y = 35 then 1 else 0) = _; rw [HL1.out, if_neg hcell, Nat.add_zero])
                clear hb hcell hq hcl
                generalize cntR n y q = cq at *
                go_wp2_with fail
                go_roundg (gk - 1)
                case measure => exact HG1.out.2
                case rel => exact ⟨q + 1, by rw [HWW.out]; exact HG1.out.1, by go_num, by rw [HCR.out], rfl⟩
            · have HQW := Lib.hid (show q = W by have := HW3.out; omega)
              have hcl2 : cntR n y q ≤ 300 := by have := HW3.out; omega
              clear hq hcl
              generalize hcq : cntR n y q = cq at *
              have HCQ := Lib.hid hcq
              clear hcq
              go_wp2_with fail
              go_roundg (gk0 - 1)
              case measure => exact HGZ.out.2
              case rel => exact ⟨j + 1, by rw [HNN.out]; exact HGZ.out.1, by go_num, by rw [HSC.out, ← HQW.out, HCQ.out], HB6w.out⟩
        · have hjN : j = N := by omega
          have HP := Lib.hid (show cntH n j = 2 ^ n by rw [hjN, ← HNN.out]; exact HCA.out)
          rw [HP.out]
          have hq4 : (N : Int) = (hiT n).2 - (loT n).2 + 1 := by rw [← HNN.out]; exact HQ4.out
          have HBz := Lib.hid (Blw.after HB6.out hBr)
          clear hBr hj hcs HP HCA
          subst hjN
          obtain ⟨P, hP⟩ : ∃ P : Nat, 2 ^ n = P := ⟨_, rfl⟩
          rw [hP] at pw p8
          rw [hP]
          clear hP
          go_wp2_with fail
          go_ret
          exact ⟨by simp [*], HBz.out⟩
    · rw [hr]
      clear hr
      generalize shpA k = L at *
      go_wp2_with fail
      refine (sameTexts_c a0 a1 c0 c1 L w2 hN HG02.out HG1.out).mono ?_
      rintro e w3 ⟨rfl, hb3⟩
      have HB4 := Lib.hid (Blw.after HB3.out hb3)
      have HG03 := Lib.hid (HG02.out.keep hb3)
      have HG13 := Lib.hid (HG1.out.keep hb3)
      clear hb3
      go_wp2_with fail
      refine (sameTexts_c a0 a1 c0 c1 L w3 hN HG03.out HG13.out).mono ?_
      rintro e w4 ⟨rfl, hb4⟩
      have HB5 := Lib.hid (Blw.after HB4.out hb4)
      clear hb4
      go_wp2_with fail
      go_ret
      exact ⟨rfl, HB5.out⟩

namespace lawFnShape
set_option maxRecDepth 100000 in
theorem lifted (os : Os) (started : os.Started) (H : Type) (enc : TypeId × Value → H) :
    ReturnsInHanded {} Tryd.checked os 7 .any (fun w args => (Rows.fnShapeSpec.pre enc Tryd.prog Tryd.f7 Rows.fnShapeRow.domain false w args ∧ laidMetH Tryd.prog Rows.fnShapeRow.laid w) ∧ sizedMet enc Tryd.prog Tryd.f7 (OpenSpec.ofChange Rows.fnShapeSpec) false w args)
      (Rows.fnShapeSpec.post enc Tryd.prog Tryd.f7 false true false false) := by
  refine returnsInHanded_of_change_and (C := Tryd.checked) (X := fun w _ => laidMetH Tryd.prog Rows.fnShapeRow.laid w) (fun _ _ _ hh h => h.of_heap hh) own started (by kernel_rfl) Tryd.func7
    (ChangeSpec.witness_shaped (enc := enc) (C := Tryd.checked) (os := os) (X := fun w _ => laidMetH Tryd.prog Rows.fnShapeRow.laid w) false (World.laidAll Tryd.prog os Rows.fnShapeRow.laid) #[.slice none 0 0] 8 (World.laidAll_os _ _ _)
      (World.shaped_of_ZipB (by kernel_rfl) (by kernel_rfl)) (by kernel_rfl) (by kernel_rfl) (by kernel_rfl)
      (by rw [MakeChecks.laidMetH_plain _ _ _ (by kernel_rfl)]; exact laidMet_laidAll _ (by kernel_rfl) (by kernel_rfl))) ?_
  intro W base args ds gs before hval0 hW hc0 _ hL _
  have hval : ∀ (j : Nat) t v, Tryd.f7.params[j]? = some t → args[j]? = some v → Value.okWide Tryd.prog W .any base t v := hval0
  have hW' := hW
  obtain ⟨p, q, hA0, hV, rfl, _, _⟩ := hW
  have hA : DataW.TrodAll enc Tryd.prog W 0 (fun _ => true) true Tryd.f7.params.toList args.toList ds p := hA0
  rw [Tryd.params7] at hA hval
  obtain ⟨v0, vs0, d0, ds0, p0, q0, hargs, rfl, rfl, h0, r0⟩ := trodAll_cons hA
  obtain ⟨rfl, rfl, rfl⟩ := trodAll_nil r0
  obtain rfl : args = #[v0] := by cases args; simp_all
  obtain ⟨rfl, rfl⟩ := trodVars_none hV
  obtain ⟨a, len, cap, rfl⟩ := okWide_slice Tryd.underlying22 (hval 0 22 v0 rfl rfl)
  clear hA0 hval0
  simp only [List.append_nil] at hW'
  have hlt : ∀ x ∈ p0, x.block < W.heap.size := fun x hx => by simpa using hW'.lt x hx
  refine (lawShape_c a len cap W (code_of h0) (two_second hL (fun _ => MakeChecks.laidMetH_plain _ _ _ (by kernel_rfl)))).mono fun e W' ⟨he, hg⟩ => ?_
  subst he
  have harg := Below.trod laidOut (by kernel_rfl) (of_decide_eq_true (by kernel_rfl)) h0 hg hlt
  refine ⟨_, rfl, _, _, _, [], p0, [], hW', ?_, ?_, ?_, hg.frame _, fun h => by cases h⟩
  · exact trodAll_cons_mk (shut_bool Tryd.underlying4 _) trodAll_mk0
  · exact trodAll_mk1 harg
  · rfl

theorem holds : Rows.FnShapeSaid :=
  OpenClaim.holds_of_wide 7 Tryd.f7 rfl rfl rfl rfl rfl rfl rfl ⟨rfl, rfl, rfl, rfl, rfl⟩ rfl rfl rfl rfl rfl (by kernel_rfl) Tryd.func7 (by kernel_rfl)
    (of_decide_eq_true (by kernel_rfl)) (by unfold Func.isWrapper; first | (rw [if_pos (by decide +kernel)]; kernel_rfl) | (rw [if_neg (by decide +kernel)]; exact ⟨rfl, rfl⟩))
    (fun os started H enc _ => lifted os started H enc)
theorem proved : Rows.FnShapeCardSaid :=
  Claim7.holds_tied_plain_at .later [] [.data, .data, .data] true (true, "40e37c0d82d1a1fb0c632a6cbbca785942b217e333014797603bce4089056b42") true holds (fun _ h => by cases h) (by kernel_rfl) (fun _ h => by cases h) fnShape_row_tie rfl ⟨rfl, rfl⟩ (by kernel_rfl) rfl
    (fun f fn hf hfn => by
      obtain rfl : f = 7 := Option.some.inj ((show Tryd.prog.funcNamed "loop.example/dragonnumbers/laws.FnShape" = some 7 by kernel_rfl).symm.trans hf) |>.symm
      obtain rfl : fn = Tryd.f7 := (Option.some.inj (Tryd.func7.symm.trans hfn)).symm
      exact ⟨by kernel_rfl, fun j t ht => by
        rw [Tryd.params7] at ht
        have hm : t ∈ [22] := by simpa using Array.mem_of_getElem? ht
        have hall : ([22].all fun u => !Tryd.prog.wantsStandIn u) = true := by kernel_rfl
        exact (show Tryd.prog.wantsStandIn t = false by simpa using List.all_eq_true.1 hall t hm)⟩)
    (by kernel_rfl)
end lawFnShape
end Go.Proofs.YtaleeoghifcadaaDoor

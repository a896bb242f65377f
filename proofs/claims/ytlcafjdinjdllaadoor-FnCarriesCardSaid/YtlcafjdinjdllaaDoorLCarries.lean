/- FnCarries: whatever the code draws, the carries of both sides are the same, they are few and small, and the last one is 0; the listed variables are as the program's text lays them. -/
import Derived.Test.YtlcafjdinjdllaaDoorDq
import Derived.Test.YtlcafjdinjdllaaDoorDrawX
import Derived.Test.YtlcafjdinjdllaaDoorTab
import Derived.Test.YtlcafjdinjdllaaDoorBaseP
import Derived.Test.YtlcafjdinjdllaaDoorTie
import Derived.Test.YtlcafjdinjdllaaDoorCards
import Derived.OpenShut
import Derived.LaidMore
import Derived.Lay
import Derived.SevenTiedAt
import Derived.Stop.Joined
import Derived.Stop.LaidErr
import Derived.ChangeVars
import Derived.ChangeStays
namespace Go.Proofs.YtlcafjdinjdllaaDoor
set_option linter.unusedSimpArgs false
set_option linter.unusedVariables false
open Go.ChangeShapes Go.WideShapes Go.ChangeAt Go.RowKit Go.Joins

theorem carA_get {a b : ByteArray} : ∀ n k, k < n → (carA a b n)[k]? = some (rowX (stA a b (k + 1)), rowY (stA a b (k + 1))) := by
  intro n
  induction n with
  | zero => intro k h; omega
  | succ n ih =>
    intro k h
    show (carA a b n ++ [(rowX (stA a b (n + 1)), rowY (stA a b (n + 1)))])[k]? = _
    by_cases hk : k < n
    · rw [List.getElem?_append_left (by rw [carA_len]; exact hk), ih k hk]
    · obtain rfl : k = n := by omega
      rw [List.getElem?_append_right (by rw [carA_len]; omega), carA_len]
      simp
def SmRel (l : List (Int × Int)) (w : World) (m : Nat) (i : Value) (wr : World) : Prop := ∃ k : Nat, k + m = l.length ∧ i = .int .i64 k ∧ wr = w
def EqGRel (l : List (Int × Int)) (w : World) (m : Nat) (i : Value) (wr : World) : Prop := ∃ k : Nat, k + m = l.length ∧ i = .int .i64 k ∧ Below w.heap.size w wr
set_option maxRecDepth 100000 in
set_option maxHeartbeats 4000000 in
theorem sameGauss_c (a a' : Option Addr) (c c' : Nat) (l : List (Int × Int)) (w : World) (hl : l.length ≤ 1000) (h : GSl a l w) (h' : GSl a' l w) : Calls Tryd.prog 27 #[.slice a l.length c, .slice a' l.length c'] w fun e w' => e = .returned (.bool true) ∧ Below w.heap.size w w' := by
  have H1 := Lib.hid h
  have H2 := Lib.hid h'
  clear h h'
  go_enter Tryd.func27, Tryd.ntmps27
  go_wp2_with fail
  go_loopg [5] l.length (fun m i wr => EqGRel l w m i wr)
  case atStart => exact ⟨0, by omega, rfl, Below.refl _ _⟩
  case round =>
    obtain ⟨k, hk, rfl, hB⟩ := hrel
    by_cases hlt : k < l.length
    · obtain ⟨x, y, hxy⟩ : ∃ x y, l[k]? = some (x, y) := ⟨l[k].1, l[k].2, by rw [List.getElem?_eq_getElem hlt]⟩
      have HG1 := H1.out.keep hB
      have HG2 := H2.out.keep hB
      rcases HG1 with h0 | ⟨g, rfl, hg⟩
      · subst h0; simp at hlt
      rcases HG2 with h0 | ⟨g', rfl, hg'⟩
      · subst h0; simp at hlt
      obtain ⟨c0, c1⟩ := hg k x y hxy
      obtain ⟨d0, d1⟩ := hg' k x y hxy
      have Lg : g < wr.heap.size := World.block_lt_of_cell? wr _ c0
      have Lg' : g' < wr.heap.size := World.block_lt_of_cell? wr _ d0
      clear hg hg' hxy
      go_wp2_with fail
      refine region_slots (fun _ => True) [] [(17, .is (.slice (some ⟨g, 0, none⟩) l.length c)), (18, .is (.int .i64 k)), (19, .is (.pointer (some ⟨g, k * 2, none⟩))), (20, .is (pr x y)), (21, .is (.slice (some ⟨g', 0, none⟩) l.length c')), (22, .is (.int .i64 k)), (23, .is (.pointer (some ⟨g', k * 2, none⟩))), (24, .is (pr x y)), (25, .is (.bool false))] (by kernel_rfl) (by kernel_rfl) (by kernel_rfl) (fun _ _ => trivial) (fun _ _ _ _ _ _ h => h) ?_
      simp only [Steps, List.contains_cons, List.contains_nil, Nat.reduceBEq, Nat.reduceAdd, Bool.or_false, Bool.false_or, Bool.or_true, Bool.true_or, Bool.false_eq_true, if_false, if_true]
      refine ⟨?_, ?_, ?_, ?_, ?_, ?_, ?_, ?_, ?_, ?_⟩
      · intro u w2 hH hd K hK
        simp only [setU, upd, List.map_cons, List.map_nil, List.contains_cons, List.contains_nil, Nat.reduceBEq, Nat.reduceAdd, Bool.or_false, Bool.false_or, Bool.or_true, Bool.true_or, Bool.false_eq_true, if_false, if_true, ite_true, ite_false, Nat.reduceEqDiff, beq_self_eq_true] at hK ⊢
        go_wp2_with (fail)
        exact hK _ _ (by (repeat' (first | assumption | exact Below.refl _ _ | apply Blw.alloc | apply Blw.drew | apply Blw.drewN | (refine Blw.after ?_ (by assumption)) | (refine Blw.set ?_ (by first | (dsimp only; omega) | (simp; done) | (simp; omega)) _)))) rfl
      · intro u w2 hH hd K hK
        simp only [setU, upd, List.map_cons, List.map_nil, List.contains_cons, List.contains_nil, Nat.reduceBEq, Nat.reduceAdd, Bool.or_false, Bool.false_or, Bool.or_true, Bool.true_or, Bool.false_eq_true, if_false, if_true, ite_true, ite_false, Nat.reduceEqDiff, beq_self_eq_true] at hK ⊢
        go_wp2_with (fail)
        exact hK _ _ (by (repeat' (first | assumption | exact Below.refl _ _ | apply Blw.alloc | apply Blw.drew | apply Blw.drewN | (refine Blw.after ?_ (by assumption)) | (refine Blw.set ?_ (by first | (dsimp only; omega) | (simp; done) | (simp; omega)) _)))) rfl
      · intro u w2 hH hd K hK
        have f17 : u 17 = (.slice (some ⟨g, 0, none⟩) l.length c) := hd 17 (by kernel_rfl)
        have f18 : u 18 = (.int .i64 k) := hd 18 (by kernel_rfl)
        simp only [setU, upd, List.map_cons, List.map_nil, List.contains_cons, List.contains_nil, Nat.reduceBEq, Nat.reduceAdd, Bool.or_false, Bool.false_or, Bool.or_true, Bool.true_or, Bool.false_eq_true, if_false, if_true, ite_true, ite_false, Nat.reduceEqDiff, beq_self_eq_true] at hK ⊢
        rw [f17, f18] at hK ⊢
        clear f17 f18
        go_wp2_with (fail)
        exact hK _ _ (by (repeat' (first | assumption | exact Below.refl _ _ | apply Blw.alloc | apply Blw.drew | apply Blw.drewN | (refine Blw.after ?_ (by assumption)) | (refine Blw.set ?_ (by first | (dsimp only; omega) | (simp; done) | (simp; omega)) _)))) rfl
      · intro u w2 hH hd K hK
        have f19 : u 19 = (.pointer (some ⟨g, k * 2, none⟩)) := hd 19 (by kernel_rfl)
        simp only [setU, upd, List.map_cons, List.map_nil, List.contains_cons, List.contains_nil, Nat.reduceBEq, Nat.reduceAdd, Bool.or_false, Bool.false_or, Bool.or_true, Bool.true_or, Bool.false_eq_true, if_false, if_true, ite_true, ite_false, Nat.reduceEqDiff, beq_self_eq_true] at hK ⊢
        rw [f19] at hK ⊢
        clear f19
        go_wp2_with (fail)
        exact hK _ _ (by (repeat' (first | assumption | exact Below.refl _ _ | apply Blw.alloc | apply Blw.drew | apply Blw.drewN | (refine Blw.after ?_ (by assumption)) | (refine Blw.set ?_ (by first | (dsimp only; omega) | (simp; done) | (simp; omega)) _)))) rfl
      · intro u w2 hH hd K hK
        simp only [setU, upd, List.map_cons, List.map_nil, List.contains_cons, List.contains_nil, Nat.reduceBEq, Nat.reduceAdd, Bool.or_false, Bool.false_or, Bool.or_true, Bool.true_or, Bool.false_eq_true, if_false, if_true, ite_true, ite_false, Nat.reduceEqDiff, beq_self_eq_true] at hK ⊢
        go_wp2_with (fail)
        exact hK _ _ (by (repeat' (first | assumption | exact Below.refl _ _ | apply Blw.alloc | apply Blw.drew | apply Blw.drewN | (refine Blw.after ?_ (by assumption)) | (refine Blw.set ?_ (by first | (dsimp only; omega) | (simp; done) | (simp; omega)) _)))) rfl
      · intro u w2 hH hd K hK
        simp only [setU, upd, List.map_cons, List.map_nil, List.contains_cons, List.contains_nil, Nat.reduceBEq, Nat.reduceAdd, Bool.or_false, Bool.false_or, Bool.or_true, Bool.true_or, Bool.false_eq_true, if_false, if_true, ite_true, ite_false, Nat.reduceEqDiff, beq_self_eq_true] at hK ⊢
        go_wp2_with (fail)
        exact hK _ _ (by (repeat' (first | assumption | exact Below.refl _ _ | apply Blw.alloc | apply Blw.drew | apply Blw.drewN | (refine Blw.after ?_ (by assumption)) | (refine Blw.set ?_ (by first | (dsimp only; omega) | (simp; done) | (simp; omega)) _)))) rfl
      · intro u w2 hH hd K hK
        have f21 : u 21 = (.slice (some ⟨g', 0, none⟩) l.length c') := hd 21 (by kernel_rfl)
        have f22 : u 22 = (.int .i64 k) := hd 22 (by kernel_rfl)
        simp only [setU, upd, List.map_cons, List.map_nil, List.contains_cons, List.contains_nil, Nat.reduceBEq, Nat.reduceAdd, Bool.or_false, Bool.false_or, Bool.or_true, Bool.true_or, Bool.false_eq_true, if_false, if_true, ite_true, ite_false, Nat.reduceEqDiff, beq_self_eq_true] at hK ⊢
        rw [f21, f22] at hK ⊢
        clear f21 f22
        go_wp2_with (fail)
        exact hK _ _ (by (repeat' (first | assumption | exact Below.refl _ _ | apply Blw.alloc | apply Blw.drew | apply Blw.drewN | (refine Blw.after ?_ (by assumption)) | (refine Blw.set ?_ (by first | (dsimp only; omega) | (simp; done) | (simp; omega)) _)))) rfl
      · intro u w2 hH hd K hK
        have f23 : u 23 = (.pointer (some ⟨g', k * 2, none⟩)) := hd 23 (by kernel_rfl)
        simp only [setU, upd, List.map_cons, List.map_nil, List.contains_cons, List.contains_nil, Nat.reduceBEq, Nat.reduceAdd, Bool.or_false, Bool.false_or, Bool.or_true, Bool.true_or, Bool.false_eq_true, if_false, if_true, ite_true, ite_false, Nat.reduceEqDiff, beq_self_eq_true] at hK ⊢
        rw [f23] at hK ⊢
        clear f23
        go_wp2_with (fail)
        exact hK _ _ (by (repeat' (first | assumption | exact Below.refl _ _ | apply Blw.alloc | apply Blw.drew | apply Blw.drewN | (refine Blw.after ?_ (by assumption)) | (refine Blw.set ?_ (by first | (dsimp only; omega) | (simp; done) | (simp; omega)) _)))) rfl
      · intro u w2 hH hd K hK
        have f20 : u 20 = (pr x y) := hd 20 (by kernel_rfl)
        have f24 : u 24 = (pr x y) := hd 24 (by kernel_rfl)
        simp only [setU, upd, List.map_cons, List.map_nil, List.contains_cons, List.contains_nil, Nat.reduceBEq, Nat.reduceAdd, Bool.or_false, Bool.false_or, Bool.or_true, Bool.true_or, Bool.false_eq_true, if_false, if_true, ite_true, ite_false, Nat.reduceEqDiff, beq_self_eq_true] at hK ⊢
        rw [f20, f24] at hK ⊢
        clear f20 f24
        go_wp2_with (fail)
        exact hK _ _ (by (repeat' (first | assumption | exact Below.refl _ _ | apply Blw.alloc | apply Blw.drew | apply Blw.drewN | (refine Blw.after ?_ (by assumption)) | (refine Blw.set ?_ (by first | (dsimp only; omega) | (simp; done) | (simp; omega)) _)))) rfl
      intro u w2 hH hF hne
      have hH1 := hH.1
      have hH2 := hH.2.2.2
      simp only [allFacts, SlotFact.h] at hF
      obtain ⟨f17, f18, f19, f20, f21, f22, f23, f24, f25, -⟩ := hF
      simp only [setU, upd, List.map_cons, List.map_nil, List.contains_cons, List.contains_nil, Nat.reduceBEq, Nat.reduceAdd, Bool.or_false, Bool.false_or, Bool.or_true, Bool.true_or, Bool.false_eq_true, if_false, if_true, ite_true, ite_false, Nat.reduceEqDiff, beq_self_eq_true]
      rw [f17, f18, f19, f20, f21, f22, f23, f24, f25]
      clear f17 f18 f19 f20 f21 f22 f23 f24 f25 hne
      refine wpListS_true ?_
      go_wp2
      go_roundg (gk - 1)
      case measure => omega
      case rel => exact ⟨k + 1, by omega, by go_num, by (repeat' (first | assumption | exact Below.refl _ _ | apply Blw.alloc | apply Blw.drew | apply Blw.drewN | (refine Blw.after ?_ (by assumption)) | (refine Blw.set ?_ (by first | (dsimp only; omega) | (simp; done) | (simp; omega)) _)))⟩
    · go_wp2
      go_ret
      exact ⟨rfl, hB⟩
/-- all carries of a sum are small, and the last one is 0 -/
theorem car_small {a b : ByteArray} (ha : vldB a = true) (hb : vldB b = true) {k : Nat} (hk : k < (carL a b true).length) : ∃ x y, (carL a b true)[k]? = some (x, y) ∧ (-2 ≤ x ∧ x ≤ 2) ∧ (-2 ≤ y ∧ y ≤ 2) := by
  unfold carL at hk ⊢
  rw [if_pos rfl] at hk ⊢
  rw [carA_len] at hk
  exact ⟨_, _, carA_get _ k hk, (row_in (stA_lt ha hb (k + 1))).1, (row_in (stA_lt ha hb (k + 1))).2⟩
theorem car_last {a b : ByteArray} (ha : vldB a = true) (hb : vldB b = true) : 1 ≤ (carL a b true).length ∧ a.size ≤ (carL a b true).length ∧ b.size ≤ (carL a b true).length ∧ (carL a b true)[(carL a b true).length - 1]? = some (0, 0) := by
  obtain ⟨d1, d2⟩ := done_zero ha hb
  obtain ⟨s1, s2⟩ := steps_le ha hb
  unfold carL
  rw [if_pos rfl, carA_len]
  refine ⟨s1, Nat.le_trans (Nat.le_max_left _ _) d2, Nat.le_trans (Nat.le_max_right _ _) d2, ?_⟩
  rw [carA_get _ _ (by omega), show stepsA a b - 1 + 1 = stepsA a b by omega, d1]
  rfl
theorem carL_le (a b : ByteArray) (ok : Bool) (h : ok = true → vldB a = true ∧ vldB b = true) : (carL a b ok).length ≤ 1000 := by
  unfold carL
  split
  · have := steps_le (h ‹_›).1 (h ‹_›).2; rw [carA_len]; omega
  · simp
set_option maxRecDepth 100000 in
set_option maxHeartbeats 8000000 in
theorem lawCarries_c (a : Option Addr) (len cap : Nat) (w : World) (hc : len ≤ 1048576 → Code (.slice a len cap) w) (hT : Tab w) : Calls Tryd.prog 7 #[.slice a len cap] w fun e w' => e = .returned (.bool true) ∧ Below w.heap.size w w' := by
  have HT := Lib.hid hT
  have hpos := hT.1
  clear hT
  by_cases hl : 1048576 < len
  · go_enter Tryd.func7, Tryd.ntmps7
    go_wp2_with fail
    go_ret
    exact ⟨rfl, by (repeat' (first | assumption | exact Below.refl _ _ | apply Blw.alloc | apply Blw.drew | apply Blw.drewN | (refine Blw.after ?_ (by assumption)) | (refine Blw.set ?_ (by first | (dsimp only; omega) | (simp; done) | (simp; omega)) _)))⟩
  · have hc' := hc (by omega)
    clear hc
    go_enter Tryd.func7, Tryd.ntmps7
    go_wp2_with fail
    refine (drawDigitsCarries_c _ w hc').mono ?_
    rintro e W0 ⟨s, t, rfl, hs, ht, hb0⟩
    clear hc'
    have HT0 := Lib.hid (HT.out.keep hpos hb0)
    go_wp2_with fail
    refine (iDigitsCarries_c s t W0 HT0.out).mono ?_
    rintro e w1 ⟨v0, s0, ok, rfl, hs0, ho0, hb1⟩
    have HV := Lib.hid hs0
    have hN := carL_le s t ok (by rintro rfl; exact addV_ok HV.out)
    obtain ⟨a0, c0, rfl, hg0, hf0⟩ := own_slice ho0 rfl
    have HG0 := Lib.hid hg0
    have hB1 := Blw.after hb0 hb1
    clear hs0 ho0 hg0 hf0
    go_wp2_with fail
    refine (sDigitsCarries_c s t w1).mono ?_
    rintro e w2 ⟨v1, s1, ok1, rfl, hs1, ho1, hb2⟩
    obtain ⟨rfl, rfl⟩ : s0 = s1 ∧ ok = ok1 := by have := HV.out.symm.trans hs1; simpa using this
    obtain ⟨a1, c1, rfl, hg1, hf1⟩ := own_slice ho1 rfl
    have HG1 := Lib.hid hg1
    have HG02 := Lib.hid (HG0.out.keep hb2)
    have hB2 := Blw.after hB1 hb2
    clear hs1 ho1 hg1 hf1 hb0 hb1 hb2 hB1
    cases ok with
    | false =>
      generalize carL s t false = L at *
      go_wp2_with fail
      refine (sameGauss_c a0 a1 c0 c1 L w2 hN HG02.out HG1.out).mono ?_
      rintro e w3 ⟨rfl, hb3⟩
      have HG03 := Lib.hid (HG02.out.keep hb3)
      have HG13 := Lib.hid (HG1.out.keep hb3)
      have hB3 := Blw.after hB2 hb3
      go_wp2_with fail
      refine (sameGauss_c a0 a1 c0 c1 L w3 hN HG03.out HG13.out).mono ?_
      rintro e w4 ⟨rfl, hb4⟩
      have hB4 := Blw.after hB3 hb4
      go_wp2_with fail
      go_ret
      exact ⟨rfl, hB4⟩
    | true =>
      obtain ⟨hvs, hvt⟩ := addV_ok HV.out
      have HS := Lib.hid (fun k hk => car_small hvs hvt (k := k) hk)
      obtain ⟨n1, n2, n3, hlast⟩ := car_last hvs hvt
      have HLast := Lib.hid hlast
      clear hvs hvt hlast
      generalize carL s t true = L at *
      go_wp2_with fail
      refine (sameGauss_c a0 a1 c0 c1 L w2 hN HG02.out HG1.out).mono ?_
      rintro e w3 ⟨rfl, hb3⟩
      have hg3 := HG02.out.keep hb3
      have hB3 := Blw.after hB2 hb3
      clear hb3 hB2 HG0 HG1 HG02
      rcases hg3 with h0 | ⟨g, rfl, hg⟩
      · subst h0; simp at n1
      have HGG := Lib.hid hg
      clear hg
      go_wp2_with fail
      go_loopg [9] L.length (fun m i wr => SmRel L w3 m i wr)
      case atStart => exact ⟨0, by omega, rfl, rfl⟩
      case round =>
        obtain ⟨k, hk, rfl, rfl⟩ := hrel
        by_cases hlt : k < L.length
        · obtain ⟨x, y, hxy, ⟨x1, x2⟩, y1, y2⟩ := HS.out k hlt
          obtain ⟨d0, d1⟩ := HGG.out k x y hxy
          have Lg : g < wr.heap.size := World.block_lt_of_cell? wr _ d0
          clear hxy
          go_wp2_with fail
          go_roundg (gk - 1)
          case measure => omega
          case rel => exact ⟨k + 1, by omega, by go_num, rfl⟩
        · obtain ⟨d0, d1⟩ := HGG.out (L.length - 1) 0 0 HLast.out
          have Lg : g < wr.heap.size := World.block_lt_of_cell? wr _ d0
          have e1 : ((L.length : Int) - 1).toNat = L.length - 1 := by omega
          by_cases hm : s.size < t.size
          · go_wp2_with fail
            go_ret
            exact ⟨rfl, hB3⟩
          · go_wp2_with fail
            go_ret
            exact ⟨rfl, hB3⟩

namespace lawFnCarries
set_option maxRecDepth 100000 in
theorem lifted (os : Os) (started : os.Started) (H : Type) (enc : TypeId × Value → H) :
    ReturnsInHanded {} Tryd.checked os 7 .any (fun w args => (Rows.fnCarriesSpec.pre enc Tryd.prog Tryd.f7 Rows.fnCarriesRow.domain false w args ∧ laidMetH Tryd.prog Rows.fnCarriesRow.laid w) ∧ sizedMet enc Tryd.prog Tryd.f7 (OpenSpec.ofChange Rows.fnCarriesSpec) false w args)
      (Rows.fnCarriesSpec.post enc Tryd.prog Tryd.f7 false true false false) := by
  refine returnsInHanded_of_change_and (C := Tryd.checked) (X := fun w _ => laidMetH Tryd.prog Rows.fnCarriesRow.laid w) (fun _ _ _ hh h => h.of_heap hh) own started (by kernel_rfl) Tryd.func7
    (ChangeSpec.witness_shaped (enc := enc) (C := Tryd.checked) (os := os) (X := fun w _ => laidMetH Tryd.prog Rows.fnCarriesRow.laid w) false (World.laidAll Tryd.prog os Rows.fnCarriesRow.laid) #[.slice none 0 0] 8 (World.laidAll_os _ _ _)
      (World.shaped_of_ZipB (by kernel_rfl) (by kernel_rfl)) (by kernel_rfl) (by kernel_rfl) (by kernel_rfl)
      (by rw [MakeChecks.laidMetH_plain _ _ _ (by kernel_rfl)]; exact laidMet_laidAll _ (by kernel_rfl) (by kernel_rfl))) ?_
  intro W base args ds gs before hval0 hW hc0 _ hL _
  have hval : ∀ (j : Nat) t v, Tryd.f7.params[j]? = some t → args[j]? = some v → Value.okWide Tryd.prog W .any base t v := hval0
  have hW' := hW
  obtain ⟨p, q, hA0, hV, rfl, _, _⟩ := hW
  have hA : DataW.TrodAll enc Tryd.prog W 0 (fun _ => true) true Tryd.f7.params.toList args.toList ds p := hA0
  rw [Tryd.params7] at hA hval
  obtain ⟨v0, vs0, d0, ds0, p0, q0, hargs, rfl, rfl, h0, r0⟩ := trodAll_cons hA
  obtain ⟨rfl, rfl, rfl⟩ := trodAll_nil r0
  obtain rfl : args = #[v0] := by cases args; simp_all
  obtain ⟨gG, tG, csG, fuelG, dG, pG, rfl, hgG, htG, hvG, hdG, rfl⟩ := trodVars_one hV
  obtain ⟨a, len, cap, rfl⟩ := okWide_slice Tryd.underlying22 (hval 0 22 v0 rfl rfl)
  clear hA0 hval0
  simp only [List.append_nil] at hW'
  have hlt : ∀ x ∈ p0, x.block < W.heap.size := fun x hx => hW'.lt x (by simp [hx])
  have hltG : ∀ x ∈ pG, x.block < W.heap.size := fun x hx => hW'.lt x (by simp [hx])
  have hTab : Tab W := tab_second hL (fun _ => MakeChecks.laidMetH_plain _ _ _ (by kernel_rfl))
  refine (lawCarries_c a len cap W (code_of h0) hTab).mono fun e W' ⟨he, hg⟩ => ?_
  subst he
  have harg := Below.trod laidOut (by kernel_rfl) (of_decide_eq_true (by kernel_rfl)) h0 hg hlt
  refine ⟨_, rfl, _, _, _, [], p0, MemPlace.row ⟨gG, 0, none⟩ csG.size ++ pG, hW', ?_, ?_, ?_, hg.frame _, fun h => by cases h⟩
  · exact trodAll_cons_mk (shut_bool Tryd.underlying4 _) trodAll_mk0
  · exact trodAll_mk1 harg
  · exact vars_shut hgG htG hvG hdG hltG hTab hg

theorem holds : Rows.FnCarriesSaid :=
  OpenClaim.holds_of_wide 7 Tryd.f7 rfl rfl rfl rfl rfl rfl rfl ⟨rfl, rfl, rfl, rfl, rfl⟩ rfl rfl rfl rfl rfl (by kernel_rfl) Tryd.func7 (by kernel_rfl)
    (of_decide_eq_true (by kernel_rfl)) (by unfold Func.isWrapper; first | (rw [if_pos (by decide +kernel)]; kernel_rfl) | (rw [if_neg (by decide +kernel)]; exact ⟨rfl, rfl⟩))
    (fun os started H enc _ => lifted os started H enc)
theorem proved : Rows.FnCarriesCardSaid :=
  Claim7.holds_tied_plain_at .later [] [.data, .data, .pinned] true (true, "ae5a7e1e5273026bef1a235bdfcbe898f8817563e717396bf1d72361ce9333b6") false holds (fun _ h => by cases h) (by kernel_rfl) (fun _ h => by cases h) fnCarries_row_tie rfl ⟨rfl, rfl⟩ (by kernel_rfl) rfl
    (fun f fn hf hfn => by
      obtain rfl : f = 7 := Option.some.inj ((show Tryd.prog.funcNamed "loop.example/dragonnumbers/laws.FnCarries" = some 7 by kernel_rfl).symm.trans hf) |>.symm
      obtain rfl : fn = Tryd.f7 := (Option.some.inj (Tryd.func7.symm.trans hfn)).symm
      exact ⟨by kernel_rfl, fun j t ht => by
        rw [Tryd.params7] at ht
        have hm : t ∈ [22] := by simpa using Array.mem_of_getElem? ht
        have hall : ([22].all fun u => !Tryd.prog.wantsStandIn u) = true := by kernel_rfl
        exact (show Tryd.prog.wantsStandIn t = false by simpa using List.all_eq_true.1 hall t hm)⟩)
    (by kernel_rfl)
end lawFnCarries
end Go.Proofs.YtlcafjdinjdllaaDoor

/- Chapter 7: the curve of an entry, moved, and entries made and checked, the program's. No law is stated here. -/
import Derived.Test.YtmdnfamjdogogaaDoorZf
import Derived.Test.YtmdnfamjdogogaaDoorWe
import Derived.Laws.StructEq
namespace Go.Proofs.YtmdnfamjdogogaaDoor
set_option linter.unusedSimpArgs false
set_option linter.unusedVariables false
open Go.RowKit Ieee

theorem hasNaN_c (p : Nat × Nat) (w : World) : Calls Tryd.prog 38 #[encW p] w fun e w' => e = .returned (.bool (!eqW p p)) ∧ w = w' := by
  have f1 := fun w t => run_wne (P := Tryd.prog) w t p p
  go_enter Tryd.func38, Tryd.ntmps38
  go_wp2
  go_ret
  exact ⟨rfl, rfl⟩
theorem turns_wd {s : ByteArray} (h : wdB 10 s = true) : wdB 1023 (twS s) = true := by
  have e : twS s = bs (turnsL (toL s)) := by unfold twS selW; rw [h]; rfl
  have hl := turnsL_len (toL s)
  have h10 := wdB_len h
  rw [toL_len] at hl
  have hp : 2 ^ s.size ≤ 2 ^ 10 := Nat.pow_le_pow_right (by omega) h10
  have e10 : (2 : Nat) ^ 10 = 1024 := by decide
  rw [e, wdB_of (by rw [← toL_len, toL_bs]; omega)]
  unfold onlyW
  rw [toL_bs, List.all_eq_true]
  exact turnsL_wd _ (wdB_all h)
def ptsI (s : ByteArray) (p : Nat × Nat) : List (Nat × Nat) := if okE s p then ptsE s p else []
theorem ptsI_t {s : ByteArray} {p : Nat × Nat} (h : okE s p = true) : ptsI s p = ptsE s p := by unfold ptsI; rw [h]; rfl
theorem ptsI_f {s : ByteArray} {p : Nat × Nat} (h : okE s p = false) : ptsI s p = [] := by unfold ptsI; rw [h]; rfl
def MvPostI (s : ByteArray) (p : Nat × Nat) (w : World) (e : Ending) (w' : World) : Prop :=
  ∃ v, e = .returned (.tuple #[v, .bool (okE s p)]) ∧ w'.ownsRow w.heap.size 28 1 v (ptsI s p).length ((ptsI s p).map encW) ∧ Below w.heap.size w w'
theorem mvI_no {s : ByteArray} {p : Nat × Nat} {w w' : World} (h : okE s p = false) (hb : Below w.heap.size w w') : MvPostI s p w (.returned (.tuple #[.slice none 0 0, .bool false])) w' := by
  refine ⟨_, by rw [h], ?_, hb⟩
  rw [ptsI_f h]
  exact World.ownsRow_nil _ _ _ _
/-- moved in place so far -/
def mvI (Z : List (Int × Int)) (p : Nat × Nat) (k : Nat) : List Value := mvE Z p k ++ (Z.drop k).map encP
theorem mvE_len {Z : List (Int × Int)} {p : Nat × Nat} {k : Nat} (h : k ≤ Z.length) : (mvE Z p k).length = k := by unfold mvE; rw [List.length_map, List.length_take]; omega
theorem mvI_zero (Z : List (Int × Int)) (p : Nat × Nat) : mvI Z p 0 = Z.map encP := by simp [mvI, mvE]
theorem mvI_get (Z : List (Int × Int)) (p : Nat × Nat) {k : Nat} (h : k < Z.length) : (mvI Z p k)[k]? = some (encP Z[k]) := by
  unfold mvI
  rw [List.getElem?_append_right (by rw [mvE_len (by omega)]; exact Nat.le_refl _), mvE_len (by omega), Nat.sub_self, List.getElem?_map, List.getElem?_drop, Nat.add_zero, List.getElem?_eq_getElem h]; rfl
theorem mvI_set (Z : List (Int × Int)) (p : Nat × Nat) {k : Nat} (h : k < Z.length) : (mvI Z p k).set k (encW (aW p Z[k])) = mvI Z p (k + 1) := by
  unfold mvI
  rw [List.set_append_right _ _ (by rw [mvE_len (by omega)]; exact Nat.le_refl _), mvE_len (by omega), Nat.sub_self, List.drop_eq_getElem_cons h, List.map_cons, List.set_cons_zero, mv_snoc p h, List.append_assoc]
  rfl
theorem mvI_all (Z : List (Int × Int)) (p : Nat × Nat) : mvI Z p Z.length = (Z.map (aW p)).map encW := by unfold mvI; rw [List.drop_length, List.map_nil, List.append_nil, mvE_all]
def MvRelI (Z : List (Int × Int)) (p : Nat × Nat) (g c : Nat) (w : World) (m : Nat) (i : Value) (wr : World) : Prop :=
  ∃ k : Nat, k + m = Z.length ∧ i = .int .i64 k ∧ wr.ownsRow w.heap.size 28 1 (.slice (some ⟨g, 0, none⟩) Z.length c) Z.length (mvI Z p k) ∧ Below w.heap.size w wr
theorem ownZ_some {w : World} {B n : Nat} {v : Value} {l : List Value} (h : w.ownsRow B 28 1 v n l) (hn : 0 < n) : ∃ g c, v = .slice (some ⟨g, 0, none⟩) n c ∧ B ≤ g ∧ g < w.heap.size := by
  rcases h.2 with ⟨rfl, h0⟩ | ⟨g, cap, cur, rfl, hg, hgg, -⟩
  · omega
  · exact ⟨g, cap, rfl, hg, (Array.getElem?_eq_some_iff.1 hgg).1⟩
set_option maxRecDepth 100000 in
set_option maxHeartbeats 8000000 in
theorem movedCurve_c (s : ByteArray) (p : Nat × Nat) (w : World) (hp : W32 p) (hT : Tz w) : Calls Tryd.prog 25 #[.string s, encW p] w (MvPostI s p w) := by
  have fst := fun W a x y m => run_store Tryd.prog W a (.complex .f32 x y) m rfl
  go_enter Tryd.func25, Tryd.ntmps25
  go_wp2_with fail
  refine (iTurnWord_c s w hT).mono ?_
  rintro e W1 ⟨rfl, hb1⟩
  rw [show twV s = .tuple #[.string (twS s), .bool (wdB 10 s)] by rfl]
  clear hT
  rcases Bool.eq_false_or_eq_true (wdB 10 s) with hw | hw
  · by_cases h0 : s.size = 0
    · have FIN := Lib.hid (mvI_no (okE_0 p h0) hb1)
      obtain rfl := nil_sz h0
      clear h0
      rw [hw]
      go_wp2_with fail
      go_ret2
      exact FIN.out
    · have hne : s.toList.isEmpty = false := by
        rw [toList_toL]
        cases hh : toL s with
        | nil => exact absurd (by rw [← toL_len, hh]; rfl) h0
        | cons a l => rfl
      rcases Bool.eq_false_or_eq_true (eqW p p) with he | he
      · have hn := nn_of_eq hp he
        have hok := okE_t hw h0 he
        have htw := turns_wd hw
        have HV := Lib.hid (ptsI_t hok)
        have HO := Lib.hid hok
        have HPE := Lib.hid (show ptsE s p = (crvA (twS s)).map (aW p) from rfl)
        have hH := fun w => hasNaN_c p w
        rw [he] at hH
        rw [hw]
        clear h0 hok he hw
        generalize twS s = T at *
        go_wp2_with (first | (go_at_call 38; refine (hH _).mono ?_; rintro e w1 ⟨rfl, rfl⟩))
        refine (iCurveOf_c T W1).mono ?_
        rintro e W2 ⟨v, rfl, ho, hb2⟩
        rw [htw]
        have hlen : 0 < (crvA T).length := by rw [crvA_len htw]; omega
        obtain ⟨g, c, rfl, hg, hgl⟩ := ownZ_some ho hlen
        have HSM := Lib.hid (crvA_sm (t := T))
        have hle := crvA_le T
        have HB2 := Lib.hid (Blw.after hb1 hb2)
        have hzb := hb1.size
        have HOW := Lib.hid (ownsRow_low hzb ho)
        generalize crvA T = Z at *
        have S0 := Lib.hid (show MvRelI Z p g c w Z.length (.int .i64 0) W2 from ⟨0, by omega, rfl, by rw [mvI_zero]; exact HOW.out, HB2.out⟩)
        clear ho hb1 hb2 htw hH
        go_wp2_with fail
        go_loopg [9, 10, 33] Z.length (fun m a b i wr => MvRelI Z p g c w m i wr)
        case atStart => exact S0.out
        case round =>
          clear S0
          obtain ⟨k, hk, rfl, hown, hB⟩ := hrel
          have HX := Lib.hid hown
          have HB := Lib.hid hB
          by_cases hlt : k < Z.length
          · have cV : wr.cell? ⟨g, k, none⟩ = some (encP Z[k]) := by rw [hown.cellAt k (by omega), mvI_get Z p hlt]
            have fV : wr.frozen? ⟨g, k, none⟩ = false := hown.frozenAt k
            have Lg : g < wr.heap.size := World.block_lt_of_cell? wr _ cV
            have hz := HSM.out Z[k] (List.getElem_mem hlt)
            have f1 := fun w t => run_wadd (P := Tryd.prog) w t hn hz
            have HST := Lib.hid (hown.stored k (encW (aW p Z[k]))).1
            have HSL := Lib.hid (mvI_set Z p hlt)
            have hgw : w.heap.size ≤ g := by omega
            have HS2 := Lib.hid (show Below w.heap.size w (wr.setCell ⟨g, k, none⟩ (encW (aW p Z[k]))) from Blw.set hB hgw _)
            clear hz hown hB HX HB
            generalize Z[k] = z at *
            generalize aW p z = q at *
            go_wp2_with fail
            go_roundg (gk - 1)
            case measure => omega
            case rel => exact ⟨k + 1, by omega, by go_num, by rw [← HSL.out]; exact HST.out, HS2.out⟩
          · obtain rfl : k = Z.length := by omega
            have FIN := Lib.hid (show MvPostI s p w (.returned (.tuple #[.slice (some ⟨g, 0, none⟩) Z.length c, .bool true])) wr from by
              refine ⟨_, by rw [HO.out], ?_, hB⟩
              rw [mvI_all] at hown
              rw [HV.out, HPE.out, List.length_map]
              exact hown)
            clear hown hB
            go_wp2_with fail
            go_ret2
            exact FIN.out
      · have FIN := Lib.hid (mvI_no (okE_n (s := s) he) hb1)
        have hH := fun w => hasNaN_c p w
        rw [he] at hH
        rw [hw]
        clear h0 he
        go_wp2_with (first | (go_at_call 38; refine (hH _).mono ?_; rintro e w1 ⟨rfl, rfl⟩))
        go_ret2
        exact FIN.out
  · have FIN := Lib.hid (mvI_no (okE_w p hw) hb1)
    rw [hw]
    go_wp2_with fail
    go_ret2
    exact FIN.out
end Go.Proofs.YtmdnfamjdogogaaDoor

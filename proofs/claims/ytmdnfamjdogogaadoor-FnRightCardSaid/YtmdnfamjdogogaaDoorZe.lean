/- Chapter 7: entries, the specification's. No law is stated here. -/
import Derived.Test.YtmdnfamjdogogaaDoorZb
import Derived.Test.YtmdnfamjdogogaaDoorZd
import Derived.Test.YtmdnfamjdogogaaDoorCa
namespace Go.Proofs.YtmdnfamjdogogaaDoor
set_option linter.unusedSimpArgs false
set_option linter.unusedVariables false
open Go.RowKit Ieee

abbrev encE (s : ByteArray) (p : Nat × Nat) (n : Nat) : Value := .agg #[.string s, encW p, .int .u32 (n : Nat)]
/-- the word of turns of creases -/
def twS (s : ByteArray) : ByteArray := selW (wdB 10 s) (turnsL (toL s))
/-- the points of an entry's curve, moved -/
def ptsE (s : ByteArray) (p : Nat × Nat) : List (Nat × Nat) := (crvA (twS s)).map (aW p)
def okE (s : ByteArray) (p : Nat × Nat) : Bool := wdB 10 s && (decide (s.size ≠ 0) && eqW p p)
theorem crvA_le (t : ByteArray) : (crvA t).length ≤ 1025 := by
  rcases Bool.eq_false_or_eq_true (wdB 1023 t) with h | h
  · rw [crvA_len h]; have := wdB_len h; omega
  · rw [crvA_f h]; simp
theorem crvA_sm {t : ByteArray} : ∀ z ∈ crvA t, Sm z := by
  rcases Bool.eq_false_or_eq_true (wdB 1023 t) with h | h
  · rw [crvA_t h]
    intro z hz
    have h1 := crvL_in _ z hz
    have h2 := wdB_len h
    rw [toL_len] at h1
    unfold Sm; omega
  · rw [crvA_f h]; intro z hz; cases hz
theorem ptsE_len (s : ByteArray) (p : Nat × Nat) : (ptsE s p).length = (crvA (twS s)).length := by unfold ptsE; rw [List.length_map]
theorem ptsE_le (s : ByteArray) (p : Nat × Nat) : (ptsE s p).length ≤ 1025 := by rw [ptsE_len]; exact crvA_le _
theorem ptsE_nn {s : ByteArray} {p : Nat × Nat} (h : Nn2 p) : ∀ q ∈ ptsE s p, Nn2 q := by
  intro q hq
  obtain ⟨z, hz, rfl⟩ := List.mem_map.1 hq
  exact aW_nn h (crvA_sm z hz)
def mvE (Z : List (Int × Int)) (p : Nat × Nat) (k : Nat) : List Value := (Z.take k).map fun z => encW (aW p z)
theorem mvE_all (Z : List (Int × Int)) (p : Nat × Nat) : mvE Z p Z.length = (Z.map (aW p)).map encW := by unfold mvE; rw [List.take_length, List.map_map]; rfl
def MvRelE (Z : List (Int × Int)) (p : Nat × Nat) (w : World) (m : Nat) (v i : Value) (wr : World) : Prop :=
  ∃ k : Nat, k + m = Z.length ∧ i = .int .i64 k ∧ wr.ownsRow w.heap.size 28 1 v k (mvE Z p k) ∧ Below w.heap.size w wr
theorem mv_snoc {Z : List (Int × Int)} (p : Nat × Nat) {k : Nat} (h : k < Z.length) : mvE Z p (k + 1) = mvE Z p k ++ [encW (aW p Z[k])] := by
  unfold mvE
  rw [List.take_add_one, List.getElem?_eq_getElem h, List.map_append]; rfl
def PtPost (s : ByteArray) (p : Nat × Nat) (w : World) (e : Ending) (w' : World) : Prop :=
  ∃ v, e = .returned v ∧ w'.ownsRow w.heap.size 28 1 v (ptsE s p).length ((ptsE s p).map encW) ∧ Below w.heap.size w w'
set_option maxRecDepth 100000 in
set_option maxHeartbeats 4000000 in
theorem sl7Moved_c (s : ByteArray) (p : Nat × Nat) (w : World) (hp : Nn2 p) : Calls Tryd.prog 29 #[.string s, encW p] w (PtPost s p w) := by
  obtain ⟨i0, hi, hz0, hz1, hz2⟩ := info_parts infoC
  go_enter Tryd.func29, Tryd.ntmps29
  go_wp2_with fail
  refine (sTurnWord_c s w).mono ?_
  rintro e W1 ⟨rfl, hb1⟩
  rw [show twV s = .tuple #[.string (twS s), .bool (wdB 10 s)] by rfl]
  have HPE := Lib.hid (show ptsE s p = (crvA (twS s)).map (aW p) from rfl)
  generalize twS s = T at *
  generalize wdB 10 s = ok at *
  go_wp2_with fail
  refine (sCurveOf_c T W1).mono ?_
  rintro e W2 ⟨v, rfl, ho, hb2⟩
  obtain ⟨a1, c1, rfl, hcs, -⟩ := own_csl ho
  rw [List.length_map]
  have HSM := Lib.hid (crvA_sm (t := T))
  have hle := crvA_le T
  have HC := Lib.hid hcs
  have HB2 := Lib.hid (Blw.after hb1 hb2)
  generalize wdB 1023 T = ok2 at *
  generalize crvA T = Z at *
  clear ho hcs hb1 hb2
  have S0 := Lib.hid (show MvRelE Z p W2 Z.length (.slice (some ⟨W2.heap.size, 0, none⟩) 0 0) (.int .i64 0) (W2.alloc (.cells #[] 28)) from
    ⟨0, by omega, rfl, World.ownsRow_lit W2 #[] 0 (Nat.le_refl _) (by unfold maxLen; omega) rfl, by (first | ((repeat' with_reducible first | assumption | exact Below.refl _ _ | apply Blw.alloc | apply Blw.drew | apply Blw.drewN | (refine Blw.after ?_ (by assumption)) | (refine Blw.set ?_ (by first | (dsimp only; omega) | (simp; omega)) _)); done) | (repeat' (first | assumption | exact Below.refl _ _ | apply Blw.alloc | apply Blw.drew | apply Blw.drewN | (refine Blw.after ?_ (by assumption)) | (refine Blw.set ?_ (by first | (dsimp only; omega) | (simp; done) | (simp; omega)) _))))⟩)
  go_wp2_with fail
  go_loopg [9, 10] Z.length (fun m v i wr => MvRelE Z p W2 m v i wr)
  case atStart => exact S0.out
  case round =>
    clear S0
    obtain ⟨k, hk, rfl, hown, hB⟩ := hrel
    have HO := Lib.hid hown
    clear hown
    by_cases hlt : k < Z.length
    · obtain ⟨g, o, rfl, cV⟩ := (HC.out.keep hB).at (k := k) (by rw [List.length_map]; exact hlt)
      rw [List.getElem_map] at cV
      have Lg : g < wr.heap.size := World.block_lt_of_cell? wr _ cV
      have hz := HSM.out Z[k] (List.getElem_mem hlt)
      have HT := Lib.hid (mv_snoc p hlt)
      generalize Z[k] = z at *
      have f1 := fun w t => run_wadd (P := Tryd.prog) w t hp hz
      clear hz
      generalize aW p z = q at *
      go_wp2_with (at_builtin; refine wpList_append_own _ rfl _ _ 47 rfl W2.heap.size 28 i0 (.complex .f32 0 0) 1 8 Tryd.underlying47 hi hz0 hz1 hz2 rfl (by decide) _ _ _ rfl (HO.out.alloc _) ⟨wr.heap.size, 0, none⟩ 1 1 [encW q] rfl rfl (cells1 _ _ _) (one1 _ rfl) (by unfold maxLen; omega) (by omega) (by have := hB.size; simp; omega) ?_)
      intro v' W3 hown' hgrow _
      have hB3 : Below W2.heap.size W2 W3 := Below.grown (by (first | ((repeat' with_reducible first | assumption | exact Below.refl _ _ | apply Blw.alloc | apply Blw.drew | apply Blw.drewN | (refine Blw.after ?_ (by assumption)) | (refine Blw.set ?_ (by first | (dsimp only; omega) | (simp; omega)) _)); done) | (repeat' (first | assumption | exact Below.refl _ _ | apply Blw.alloc | apply Blw.drew | apply Blw.drewN | (refine Blw.after ?_ (by assumption)) | (refine Blw.set ?_ (by first | (dsimp only; omega) | (simp; done) | (simp; omega)) _))))) hgrow (by have := hB.size; simp; omega) (fun k hk => (HO.out.lt k hk).1)
      have HO3 := Lib.hid hown'
      clear hgrow hown' HO
      go_wp2_with fail
      go_roundg (gk - 1)
      case measure => omega
      case rel => exact ⟨k + 1, by omega, by go_num, by rw [HT.out]; exact HO3.out, hB3⟩
    · obtain rfl : k = Z.length := by omega
      have FIN := Lib.hid (show PtPost s p w (.returned u9) wr from by
        refine ⟨u9, rfl, ?_, Blw.after HB2.out hB⟩
        have h1 := ownsRow_low HB2.out.size HO.out
        rw [mvE_all, ← HPE.out] at h1
        rw [HPE.out, List.length_map, ← HPE.out]; exact h1)
      go_wp2_with fail
      go_ret
      exact FIN.out
end Go.Proofs.YtmdnfamjdogogaaDoor

/- Chapter 2, the program's side: adding by the table. -/
import Derived.Test.YtlcafjdinjdllaaDoorDk
import Derived.Test.YtlcafjdinjdllaaDoorDh
import Derived.Test.YtlcafjdinjdllaaDoorDi2
namespace Go.Proofs.YtlcafjdinjdllaaDoor
set_option linter.unusedSimpArgs false
set_option linter.unusedVariables false
open Go.RowKit

/-- the table in its block -/
def Tab (w : World) : Prop := 0 < w.heap.size ∧ ∀ r, r < 15 → w.cell? ⟨0, r * 6, none⟩ = some (.int .i64 (rowX r)) ∧ w.cell? ⟨0, r * 6 + 1, none⟩ = some (.int .i64 (rowY r)) ∧ w.cell? ⟨0, r * 6 + 2, none⟩ = some (.string (bs (rowS r))) ∧ ∀ b, b < 3 → w.cell? ⟨0, r * 6 + 3 + b, none⟩ = some (.int .i64 (rowN r b : Nat))
theorem Tab.keep {w w' : World} (h : Tab w) {B : Nat} (hB : 0 < B) (hb : Below B w w') : Tab w' := by
  have e : ∀ o, w'.cell? ⟨0, o, none⟩ = w.cell? ⟨0, o, none⟩ := fun o => hb.cell (p := ⟨0, o, none⟩) hB
  refine ⟨Nat.lt_of_lt_of_le h.1 hb.size, fun r hr => ?_⟩
  obtain ⟨h1, h2, h3, h4⟩ := h.2 r hr
  exact ⟨(e _).trans h1, (e _).trans h2, (e _).trans h3, fun b hb => (e _).trans (h4 b hb)⟩
/-- what is owned of one type stands while a row of another type grows -/
theorem own_other {w w1 : World} {B B' e e' sz sz' n n' : Nat} {v v' : Value} {xs xs' : List Value} (h : w.ownsRow B e sz v n xs) (k : w.ownsRow B' e' sz' v' n' xs') (hne : e ≠ e') (hg : w.grownBy w1 v.ownBlock) : w1.ownsRow B' e' sz' v' n' xs' := by
  refine ⟨k.1, k.2.imp id ?_⟩
  rintro ⟨g, cap, cur, h1, h2, h3, h4⟩
  refine ⟨g, cap, cur, h1, h2, (hg.block g (Array.getElem?_eq_some_iff.1 h3).1 ?_).trans h3, h4⟩
  rcases h.2 with ⟨rfl, _⟩ | ⟨g', cap', cur', rfl, _, h3', _⟩
  · simp [Value.ownBlock]
  · simp only [Value.ownBlock, ne_eq, Option.some.injEq]
    rintro rfl
    rw [h3] at h3'
    simp only [Option.some.injEq, Obj.cells.injEq] at h3'
    exact hne h3'.2.1.symm

def IAddRel (a b : ByteArray) (w w1 : World) (sums : Value) (m : Nat) (up ca i row : Value) (wr : World) : Prop :=
  ∃ k : Nat, k + m = stepsA a b ∧ i = .int .i64 k ∧ row = .int .i64 (stA a b k : Nat) ∧ wr.ownsRow w1.heap.size 5 1 up k ((outA a b k).map encB) ∧ wr.ownsRow w1.heap.size 29 2 ca k (gcells (carA a b k)) ∧ wr.ownsRow w1.heap.size 3 1 sums (wide a b) (rowL (wide a b) fun k => (sm a b k : Nat)) ∧ Below w.heap.size w wr ∧ w1.heap.size ≤ wr.heap.size
theorem exV_false {l : List UInt8} {s : ByteArray} (h : exV l = .tuple #[.string s, .bool false]) : s = ⟨#[]⟩ := by
  unfold exV at h
  generalize (if l = [] then [48] else l.reverse) = r at h
  unfold resD at h
  simp only [Value.tuple.injEq, Array.mk.injEq, List.cons.injEq, Value.string.injEq, Value.bool.injEq, and_true] at h
  rw [← h.1, h.2]; rfl
/-- what the adding leaves: the sum, its carries, and whether it is short enough -/
def IAddPost (a b : ByteArray) (w : World) (e : Ending) (w' : World) : Prop :=
  ∃ (s : ByteArray) (ok : Bool) (v : Value), exV (outA a b (stepsA a b)) = .tuple #[.string s, .bool ok] ∧ e = .returned (.tuple #[.string s, v, .bool ok]) ∧ (ok = true → w'.ownsRow w.heap.size 29 2 v (stepsA a b) (gcells (carA a b (stepsA a b)))) ∧ (ok = false → v = .slice none 0 0) ∧ Below w.heap.size w w'
theorem rowS_size (r : Nat) : (bs (rowS r)).size = 3 := rfl
theorem rowS_at (r b : Nat) (hb : b < 3) (h : b < (bs (rowS r)).size) : ((bs (rowS r))[b].toNat : Int) = ((rowD r b).toNat : Nat) := by
  match b, hb with
  | 0, _ => rfl
  | 1, _ => rfl
  | 2, _ => rfl
set_option maxRecDepth 100000 in
set_option maxHeartbeats 8000000 in
theorem addDigits_yes (a b : ByteArray) (w : World) (hT : Tab w) (ha : vldB a = true) (hvb : vldB b = true) : Calls Tryd.prog 41 #[.string a, .string b] w (IAddPost a b w) := by
  obtain ⟨i0, hi, hz0, hz1, hz2⟩ := info_parts infoG
  obtain ⟨j0, hj, hy0, hy1, hy2⟩ := info_parts infoB
  have HA := Lib.hid ha
  have HB := Lib.hid hvb
  obtain ⟨ha1, ha50⟩ := vldB_len ha
  obtain ⟨hb1, hb50⟩ := vldB_len hvb
  go_enter Tryd.func41, Tryd.ntmps41
  go_wp2_with (first | (go_at_call 12; refine (iDigitsValid_c _ _).mono ?_; rintro e w1 ⟨rfl, hb⟩; obtain ⟨hc, hf⟩ := bcell hb; have hz := bsize hb; have hs := hb.size; try simp at hs))
  have hB1 := Lib.hid (show Below w.heap.size w w1 by (repeat' (first | assumption | exact Below.refl _ _ | apply Blw.alloc | apply Blw.drew | apply Blw.drewN | (refine Blw.after ?_ (by assumption)) | (refine Blw.set ?_ (by first | (dsimp only; omega) | (simp; done) | (simp; omega)) _))))
  have hs1 : w.heap.size ≤ w1.heap.size := hB1.out.size
  refine (digitSums_c a b w1 HA.out HB.out).mono ?_
  rintro e w2 ⟨g, rfl, hsum, hb2⟩
  clear ha hvb hb hc hf hz
  have HSU := Lib.hid hsum
  have hB2 := Lib.hid (hB1.out.trans (hb2.mono hs1))
  have S0 := Lib.hid (show IAddRel a b w w1 (.slice (some ⟨g, 0, none⟩) (wide a b) (wide a b)) (stepsA a b) (.slice none 0 0) (.slice none 0 0) (.int .i64 0) (.int .i64 0) w2 from
    ⟨0, by omega, rfl, rfl, World.ownsRow_nil _ _ _ _, World.ownsRow_nil _ _ _ _, HSU.out, hB2.out, hb2.size⟩)
  have HT := Lib.hid hT
  have hpos := hT.1
  clear hsum hT
  go_wp2_with fail
  go_loopg [8, 9, 10, 11] (stepsA a b) (fun m up ca i row wr => IAddRel a b w w1 (.slice (some ⟨g, 0, none⟩) (wide a b) (wide a b)) m up ca i row wr)
  case atStart => exact S0.out
  case round =>
    clear S0 HSU hB2 hb2
    obtain ⟨k, hk, rfl, rfl, hup, hca, hsu, hB, hs2⟩ := hrel
    have hst := steps_le HA.out HB.out
    have hk58 : k ≤ 58 := by omega
    have HUP := Lib.hid hup
    have HCA := Lib.hid hca
    have HSU := Lib.hid hsu
    have hr := stA_lt HA.out HB.out k
    have hs3 := sm_lt HA.out HB.out k
    have HG := Lib.hid (goes_on HA.out HB.out (k := k) (by omega))
    have hrs := (row_step hr hs3).1
    have HTr := Lib.hid (HT.out.keep hpos hB)
    have hw50 : wide a b ≤ 50 := by unfold wide; omega
    clear hup hca hsu hst
    by_cases hgo : k < stepsA a b
    · have hgo' := HG.out.2 hgo
      have HTc := Lib.hid (HTr.out.2 _ hr)
      obtain ⟨t1, t2, t3, t4⟩ := HTc.out
      obtain ⟨u1, u2, u3, u4⟩ := HTr.out.2 _ hrs
      clear u3 u4
      have hsz := rowS_size (stA a b k)
      have HREL := Lib.hid (show ∀ (v1 v2 : Value) (u : Int) (W2 : World) (row : Value), row = .int .i64 (rowN (stA a b k) (sm a b k) : Nat) → u = ((rowD (stA a b k) (sm a b k)).toNat : Nat) → W2.ownsRow w1.heap.size 5 1 v1 (k + 1) ((outA a b k).map encB ++ [.int .u8 u]) →
          W2.ownsRow w1.heap.size 29 2 v2 (k + 1) (gcells (carA a b k) ++ [.int .i64 (rowX (rowN (stA a b k) (sm a b k))), .int .i64 (rowY (rowN (stA a b k) (sm a b k)))]) → W2.ownsRow w1.heap.size 3 1 (.slice (some ⟨g, 0, none⟩) (wide a b) (wide a b)) (wide a b) (rowL (wide a b) fun k => (sm a b k : Nat)) → Below w.heap.size w W2 → w1.heap.size ≤ W2.heap.size →
          IAddRel a b w w1 (.slice (some ⟨g, 0, none⟩) (wide a b) (wide a b)) (gk - 1) v1 v2 (.int .i64 (k + 1 : Nat)) row W2 from by
        intro v1 v2 u W2 row h0 hu h1 h2 h3 h4 h5
        refine ⟨k + 1, by omega, rfl, h0, ?_, ?_, h3, h4, h5⟩
        · rw [show outA a b (k + 1) = outA a b k ++ [rowD (stA a b k) (sm a b k)] from rfl, List.map_append]
          rw [hu] at h1; exact h1
        · rw [show carA a b (k + 1) = carA a b k ++ [(rowX (stA a b (k + 1)), rowY (stA a b (k + 1)))] from rfl, gcells_snoc]
          exact h2)
      by_cases hkw : k < wide a b
      · have cS : wr.cell? ⟨g, k, none⟩ = some (.int .i64 (sm a b k : Nat)) := by
          rw [HSU.out.cellAt _ (by omega), rowL_get _ hkw]
        clear hgo'
        have t4' := t4 (sm a b k) (hs3)
        clear t4
        go_wp2_with (first
          | (at_builtin; refine wpList_append_own _ rfl _ _ 22 rfl w1.heap.size 5 j0 (.int .u8 0) 1 1 Tryd.underlying22 hj hy0 hy1 hy2 rfl (by decide) _ _ _ rfl (HUP.out.alloc _) ⟨wr.heap.size, 0, none⟩ 1 1 [_] rfl rfl (cells1 _ _ _) (one1 _ rfl) (by unfold maxLen; omega) (by omega) (by simp; omega) ?_))
        intro v1 W1 o1 hgrow _
        have HO1 := Lib.hid o1
        have HCA1 := Lib.hid (own_other (HUP.out.alloc _) (HCA.out.alloc _) (by decide) hgrow)
        have HSU1 := Lib.hid (own_other (HUP.out.alloc _) (HSU.out.alloc _) (by decide) hgrow)
        have hBW1 : Below w.heap.size w W1 := Below.grown (by (repeat' (first | assumption | exact Below.refl _ _ | apply Blw.alloc | apply Blw.drew | apply Blw.drewN | (refine Blw.after ?_ (by assumption)) | (refine Blw.set ?_ (by first | (dsimp only; omega) | (simp; done) | (simp; omega)) _)))) hgrow (by simp; omega) (fun k hk => by have := (HUP.out.lt k hk).1; omega)
        have hsW1 : w1.heap.size ≤ W1.heap.size := by have := hgrow.size; simp at this; omega
        have HT1 := Lib.hid (HT.out.keep hpos hBW1)
        obtain ⟨p1, p2, p3, p4⟩ := HT1.out.2 _ hr
        obtain ⟨q1, q2, q3, q4⟩ := HT1.out.2 _ hrs
        have p4' := p4 (sm a b k) (hs3)
        clear p4 q3 q4 p1 p2 p3 t1 t2 t3 t4' u1 u2 o1 hgrow HUP HCA HSU HTr hB hs2
        go_wp2_with (first
          | (at_builtin; refine wpList_append_own _ rfl _ _ 36 rfl w1.heap.size 29 i0 (.agg #[.int .i64 0, .int .i64 0]) 2 16 Tryd.underlying36 hi hz0 hz1 hz2 rfl (by decide) _ _ _ rfl (HCA1.out.alloc _) ⟨W1.heap.size, 0, none⟩ 1 1 [.int .i64 (rowX (rowN (stA a b k) (sm a b k))), .int .i64 (rowY (rowN (stA a b k) (sm a b k)))] rfl rfl (cells2 _ _ _ _) (two1 _ _ rfl rfl) (by unfold maxLen; omega) (by omega) (by simp; omega) ?_))
        intro v2 W2 o2 hgrow _
        have HO2 := Lib.hid (own_other (HCA1.out.alloc _) (HO1.out.alloc _) (by decide) hgrow)
        have HSU2 := Lib.hid (own_other (HCA1.out.alloc _) (HSU1.out.alloc _) (by decide) hgrow)
        have hBW2 : Below w.heap.size w W2 := Below.grown (by (repeat' (first | assumption | exact Below.refl _ _ | apply Blw.alloc | apply Blw.drew | apply Blw.drewN | (refine Blw.after ?_ (by assumption)) | (refine Blw.set ?_ (by first | (dsimp only; omega) | (simp; done) | (simp; omega)) _)))) hgrow (by simp; omega) (fun k hk => by have := (HCA1.out.lt k hk).1; omega)
        have hsW2 : w1.heap.size ≤ W2.heap.size := by have := hgrow.size; simp at this; omega
        have HC2 := Lib.hid o2
        clear o2 hgrow p4' q1 q2
        go_wp2
        go_roundg (gk - 1)
        case measure => omega
        case rel => exact HREL.out _ _ _ _ _ rfl (by rw [rowS_at _ _ (by omega)]) HO2.out HC2.out HSU2.out hBW2 hsW2
      · have hn0 := hgo'.resolve_left hkw
        have n1 : (((stA a b k : Nat) : Int) == 0) = false := by simp; omega
        have n2 : (((stA a b k : Nat) : Int) != 0) = true := by simp; omega
        have e0 := sm_beyond (a := a) (b := b) (k := k) (by omega)
        rw [e0] at HREL hrs u1 u2
        clear hgo' hn0 e0 hs3
        have t4' := t4 (0) (by omega)
        clear t4
        go_wp2_with (first
          | (at_builtin; refine wpList_append_own _ rfl _ _ 22 rfl w1.heap.size 5 j0 (.int .u8 0) 1 1 Tryd.underlying22 hj hy0 hy1 hy2 rfl (by decide) _ _ _ rfl (HUP.out.alloc _) ⟨wr.heap.size, 0, none⟩ 1 1 [_] rfl rfl (cells1 _ _ _) (one1 _ rfl) (by unfold maxLen; omega) (by omega) (by simp; omega) ?_))
        intro v1 W1 o1 hgrow _
        have HO1 := Lib.hid o1
        have HCA1 := Lib.hid (own_other (HUP.out.alloc _) (HCA.out.alloc _) (by decide) hgrow)
        have HSU1 := Lib.hid (own_other (HUP.out.alloc _) (HSU.out.alloc _) (by decide) hgrow)
        have hBW1 : Below w.heap.size w W1 := Below.grown (by (repeat' (first | assumption | exact Below.refl _ _ | apply Blw.alloc | apply Blw.drew | apply Blw.drewN | (refine Blw.after ?_ (by assumption)) | (refine Blw.set ?_ (by first | (dsimp only; omega) | (simp; done) | (simp; omega)) _)))) hgrow (by simp; omega) (fun k hk => by have := (HUP.out.lt k hk).1; omega)
        have hsW1 : w1.heap.size ≤ W1.heap.size := by have := hgrow.size; simp at this; omega
        have HT1 := Lib.hid (HT.out.keep hpos hBW1)
        obtain ⟨p1, p2, p3, p4⟩ := HT1.out.2 _ hr
        obtain ⟨q1, q2, q3, q4⟩ := HT1.out.2 _ hrs
        have p4' := p4 (0) (by omega)
        clear p4 q3 q4 p1 p2 p3 t1 t2 t3 t4' u1 u2 o1 hgrow HUP HCA HSU HTr hB hs2
        go_wp2_with (first
          | (at_builtin; refine wpList_append_own _ rfl _ _ 36 rfl w1.heap.size 29 i0 (.agg #[.int .i64 0, .int .i64 0]) 2 16 Tryd.underlying36 hi hz0 hz1 hz2 rfl (by decide) _ _ _ rfl (HCA1.out.alloc _) ⟨W1.heap.size, 0, none⟩ 1 1 [.int .i64 (rowX (rowN (stA a b k) (0))), .int .i64 (rowY (rowN (stA a b k) (0)))] rfl rfl (cells2 _ _ _ _) (two1 _ _ rfl rfl) (by unfold maxLen; omega) (by omega) (by simp; omega) ?_))
        intro v2 W2 o2 hgrow _
        have HO2 := Lib.hid (own_other (HCA1.out.alloc _) (HO1.out.alloc _) (by decide) hgrow)
        have HSU2 := Lib.hid (own_other (HCA1.out.alloc _) (HSU1.out.alloc _) (by decide) hgrow)
        have hBW2 : Below w.heap.size w W2 := Below.grown (by (repeat' (first | assumption | exact Below.refl _ _ | apply Blw.alloc | apply Blw.drew | apply Blw.drewN | (refine Blw.after ?_ (by assumption)) | (refine Blw.set ?_ (by first | (dsimp only; omega) | (simp; done) | (simp; omega)) _)))) hgrow (by simp; omega) (fun k hk => by have := (HCA1.out.lt k hk).1; omega)
        have hsW2 : w1.heap.size ≤ W2.heap.size := by have := hgrow.size; simp at this; omega
        have HC2 := Lib.hid o2
        clear o2 hgrow p4' q1 q2
        go_wp2
        go_roundg (gk - 1)
        case measure => omega
        case rel => exact HREL.out _ _ _ _ _ rfl (by rw [rowS_at _ _ (by omega)]) HO2.out HC2.out HSU2.out hBW2 hsW2
    · obtain rfl : k = stepsA a b := by omega
      obtain ⟨e0, e1⟩ := done_zero HA.out HB.out
      have l1 : ¬ stepsA a b < wide a b := by omega
      have HL := Lib.hid (show (outA a b (stepsA a b)).length ≤ 4000000000000 by rw [outA_len]; omega)
      have HU := Lib.hid (show wr.ownsRow w1.heap.size 5 1 u8 (outA a b (stepsA a b)).length ((outA a b (stepsA a b)).map encB) by rw [outA_len]; exact HUP.out)
      rw [e0]
      clear HG hr hrs HTr e1 hs3 HUP HSU
      have HE0 := Lib.hid e0
      clear e0
      go_wp2_with fail
      refine (expansion_c (outA a b (stepsA a b)) _ wr w1.heap.size (outA_bits _) HU.out HL.out).mono ?_
      rintro e w3 ⟨rfl, hg3⟩
      have hb3 := Lib.hid (show Below w.heap.size w w3 from Below.grown hB hg3 (by omega) (fun k hk => by have := (HU.out.lt k hk).1; omega))
      have HC3 := Lib.hid (own_other HU.out HCA.out (by decide) hg3)
      clear hg3
      obtain ⟨s, ok, hab⟩ := exV_shape (outA a b (stepsA a b))
      have HX := Lib.hid hab
      rw [hab]
      clear hab
      cases ok with
      | true =>
        go_wp2
        go_ret3
        exact ⟨s, true, _, HX.out, rfl, fun _ => ownsRow_low hs1 HC3.out, (fun h => by cases h), hb3.out⟩
      | false =>
        obtain rfl := exV_false HX.out
        go_wp2
        go_ret3
        exact ⟨_, false, _, HX.out, rfl, (fun h => by cases h), (fun _ => rfl), hb3.out⟩
end Go.Proofs.YtlcafjdinjdllaaDoor

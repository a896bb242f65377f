/- FnTileBox (P52): at every code the law answers true: what the program's TileBox gives is what the model gives, and for a level of at most 8 it is the box of TilePoints' numbers; the listed variables are as the program's text lays them. -/
import Derived.StillTailTactics
import Derived.Deep.Cut
import Derived.Test.YtaleeoghifcadaaDoorZ5
namespace Go.Proofs.YtaleeoghifcadaaDoor
set_option linter.unusedSimpArgs false
set_option linter.unusedVariables false
open Go.ChangeShapes Go.WideShapes Go.ChangeAt Go.RowKit Go.Joins

/-- the least and the greatest parts of the first numbers -/
def lowF (L : List ZZ) : Nat → ZZ
  | 0 => L.getD 0 (0, 0)
  | k + 1 => (min (lowF L k).1 (L.getD k (0, 0)).1, min (lowF L k).2 (L.getD k (0, 0)).2)
def higF (L : List ZZ) : Nat → ZZ
  | 0 => L.getD 0 (0, 0)
  | k + 1 => (max (higF L k).1 (L.getD k (0, 0)).1, max (higF L k).2 (L.getD k (0, 0)).2)
theorem box_all : ∀ n ∈ List.range 9, lowF (allT n) (allT n).length = loT n ∧ higF (allT n) (allT n).length = hiT n := by decide +kernel
def BxRel (L : List ZZ) (w : World) (m : Nat) (i : Value) (wr : World) : Prop :=
  ∃ k : Nat, k + m = L.length ∧ i = .int .i64 k ∧ Own2 wr w.heap.size (lowF L k).1 (lowF L k).2 ∧ Own2 wr (w.heap.size + 1) (higF L k).1 (higF L k).2 ∧ Below w.heap.size w wr
set_option maxRecDepth 100000 in
set_option maxHeartbeats 8000000 in
theorem lawTileBoxP_c (a : Option Addr) (len cap : Nat) (w : World) (hc : len ≤ 1048576 → Code (.slice a len cap) w) (hT : Two w) : Calls Tryd.prog 8 #[.slice a len cap] w fun e w' => e = .returned (.bool true) ∧ Below w.heap.size w w' := by
  have HT := Lib.hid hT
  have hpos := hT.pos
  clear hT
  by_cases hl : 1048576 < len
  · go_enter Tryd.func8, Tryd.ntmps8
    go_wp2
    go_ret
    exact ⟨rfl, by (first | ((repeat' with_reducible first | assumption | exact Below.refl _ _ | apply Blw.alloc | apply Blw.drew | apply Blw.drewN | (refine Blw.after ?_ (by assumption)) | (refine Blw.set ?_ (by first | (dsimp only; omega) | (simp; omega)) _)); done) | (repeat' (first | assumption | exact Below.refl _ _ | apply Blw.alloc | apply Blw.drew | apply Blw.drewN | (refine Blw.after ?_ (by assumption)) | (refine Blw.set ?_ (by first | (dsimp only; omega) | (simp; done) | (simp; omega)) _))))⟩
  · go_enter Tryd.func8, Tryd.ntmps8
    go_wp2_with fail
    refine (drawTileBox_c _ w (hc (by omega))).mono ?_
    rintro e W1 ⟨k, rfl, hk, hB⟩
    clear hc
    have HS := Lib.hid (fun w => sTileBox_c k w)
    have HI := Lib.hid (fun w => iTileBox_c k w)
    have HB1 := Lib.hid hB
    clear hB
    rcases Bool.eq_false_or_eq_true (inR 0 12 k) with hr | hr
    · rw [boxV_yes hr] at HS HI
      have H1 := inR_leB hr
      obtain ⟨n, rfl⟩ : ∃ n : Nat, k = (n : Int) := ⟨k.toNat, by omega⟩
      rw [Int.toNat_natCast] at HS HI
      have HE := Lib.hid (fun h : n ≤ 8 => box_all n (by simp; omega))
      generalize loT n = lo at *
      generalize hiT n = hg at *
      obtain ⟨q1, q2⟩ := lo
      obtain ⟨r1, r2⟩ := hg
      dsimp only at *
      clear hr
      go_wp2_with fail
      refine (HI.out _).mono ?_
      rintro e wA ⟨rfl, hbA⟩
      have HBA := Lib.hid (Blw.after HB1.out hbA)
      clear hbA
      go_wp2_with fail
      generalize hW : World.alloc _ _ = W2
      have o4 : Own2 W2 wA.heap.size q1 q2 := by rw [← hW]; exact (Own2.fresh wA q1 q2 _).alloc _
      have o5 : Own2 W2 (wA.heap.size + 1) r1 r2 := by
        rw [← hW]
        have h := Own2.fresh (wA.alloc (.cells #[.int .i64 q1, .int .i64 q2] 24)) r1 r2 24
        rw [alloc_size] at h
        exact h
      have HB2 := Lib.hid (show Below w.heap.size w W2 by rw [← hW]; have := HBA.out; (first | ((repeat' with_reducible first | assumption | exact Below.refl _ _ | apply Blw.alloc | apply Blw.drew | apply Blw.drewN | (refine Blw.after ?_ (by assumption)) | (refine Blw.set ?_ (by first | (dsimp only; omega) | (simp; omega)) _)); done) | (repeat' (first | assumption | exact Below.refl _ _ | apply Blw.alloc | apply Blw.drew | apply Blw.drewN | (refine Blw.after ?_ (by assumption)) | (refine Blw.set ?_ (by first | (dsimp only; omega) | (simp; done) | (simp; omega)) _)))))
      clear hW
      go_wp2_with fail
      refine (HS.out _).mono ?_
      rintro e wB ⟨rfl, hbB⟩
      replace o4 := o4.below hbB o4.lt
      replace o5 := o5.below hbB o5.lt
      have HB3 := Lib.hid (Blw.after HB2.out hbB)
      clear hbB
      have HOB := Lib.hid (And.intro o4 o5)
      have LA0 := o4.lt
      have LA1 := o5.lt
      obtain ⟨a0, a1, -, -⟩ := o4
      obtain ⟨b0, b1, -, -⟩ := o5
      go_wp2_with fail
      generalize hW : World.alloc _ _ = W3
      have o4 : Own2 W3 wA.heap.size q1 q2 := by rw [← hW]; exact (HOB.out.1.alloc _).alloc _
      have o5 : Own2 W3 (wA.heap.size + 1) r1 r2 := by rw [← hW]; exact (HOB.out.2.alloc _).alloc _
      have HB4 := Lib.hid (show Below w.heap.size w W3 by rw [← hW]; have := HB3.out; (first | ((repeat' with_reducible first | assumption | exact Below.refl _ _ | apply Blw.alloc | apply Blw.drew | apply Blw.drewN | (refine Blw.after ?_ (by assumption)) | (refine Blw.set ?_ (by first | (dsimp only; omega) | (simp; omega)) _)); done) | (repeat' (first | assumption | exact Below.refl _ _ | apply Blw.alloc | apply Blw.drew | apply Blw.drewN | (refine Blw.after ?_ (by assumption)) | (refine Blw.set ?_ (by first | (dsimp only; omega) | (simp; done) | (simp; omega)) _)))))
      have HO := Lib.hid (And.intro o4 o5)
      have HT3 := Lib.hid (HT.out.keep hpos HB4.out)
      have hpos3 : 5 < W3.heap.size := Nat.lt_of_lt_of_le hpos HB4.out.size
      clear hW a0 a1 b0 b1 o4 o5 HOB
      refine (iTilePoints_c n W3 HT3.out hpos3).mono ?_
      rintro e wC ⟨v, rfl, ⟨a0', c0', rfl, hgl, -⟩, hbC⟩
      obtain ⟨o4, o5⟩ := HO.out
      have HO2 := Lib.hid (And.intro (o4.below hbC o4.lt) (o5.below hbC o5.lt))
      have HB5 := Lib.hid (Blw.after HB4.out hbC)
      have LC := hbC.size
      have LA := o5.lt
      have HG := Lib.hid hgl
      clear o4 o5 hgl hbC HO
      rcases Bool.eq_false_or_eq_true (inR 0 8 (n : Int)) with h8 | h8
      · have H8 := inR_leB h8
        have hn8 : n ≤ 8 := by omega
        have HL := Lib.hid (show ptsT n = allT n by unfold ptsT; rw [if_pos h8, Int.toNat_natCast])
        have hLl : 1 ≤ (allT n).length ∧ (allT n).length ≤ 256 := by rw [allT_len]; exact ⟨Nat.one_le_two_pow, pow8 hn8⟩
        have HLI := Lib.hid (allT_in hn8)
        have HEQ := HE.out hn8
        have HEq := Lib.hid HEQ
        rw [h8]
        rw [HL.out] at HG
        rw [HL.out]
        clear HEQ h8 HL HE
        generalize allT n = L at *
        rcases HG.out with h0 | ⟨g, rfl, hg⟩
        · subst h0; simp at hLl
        have HGC := Lib.hid (fun j (hj : j < L.length) => show wC.cell? ⟨g, j * 2, none⟩ = some (.int .i64 (L.getD j (0, 0)).1) ∧ wC.cell? ⟨g, j * 2 + 1, none⟩ = some (.int .i64 (L.getD j (0, 0)).2) from by
          have e : L.getD j (0, 0) = L[j] := by rw [List.getD, List.getElem?_eq_getElem hj]; rfl
          rw [e]
          exact hg j L[j].1 L[j].2 (List.getElem?_eq_getElem hj))
        have z0 := (HGC.out 0 (by omega)).1
        have z1 := (HGC.out 0 (by omega)).2
        rw [Nat.zero_mul] at z0 z1
        rw [Nat.zero_add] at z1
        have HZ := Lib.hid (show lowF L 0 = L.getD 0 (0, 0) ∧ higF L 0 = L.getD 0 (0, 0) from ⟨rfl, rfl⟩)
        have HGD := Lib.hid (fun j (hj : j < L.length) => show (L.getD j (0, 0)).1.natAbs ≤ 200 ∧ (L.getD j (0, 0)).2.natAbs ≤ 200 from by
          have e : L.getD j (0, 0) = L[j] := by rw [List.getD, List.getElem?_eq_getElem hj]; rfl
          rw [e]; exact HLI.out _ (List.getElem_mem hj))
        have Lg : g < wC.heap.size := World.block_lt_of_cell? wC _ z0
        clear hg HG HLI
        generalize L.getD 0 (0, 0) = z at *
        obtain ⟨X, Y⟩ := z
        dsimp only at *
        go_wp2_with fail
        generalize hW : World.alloc _ _ = W4
        have p0 : Own2 W4 wC.heap.size X Y := by rw [← hW]; exact (Own2.fresh wC X Y _).alloc _
        have p1 : Own2 W4 (wC.heap.size + 1) X Y := by
          rw [← hW]
          have h := Own2.fresh (wC.alloc (.cells #[.int .i64 X, .int .i64 Y] 24)) X Y 24
          rw [alloc_size] at h
          exact h
        have HB6 := Lib.hid (show Below wC.heap.size wC W4 by rw [← hW]; (first | ((repeat' with_reducible first | assumption | exact Below.refl _ _ | apply Blw.alloc | apply Blw.drew | apply Blw.drewN | (refine Blw.after ?_ (by assumption)) | (refine Blw.set ?_ (by first | (dsimp only; omega) | (simp; omega)) _)); done) | (repeat' (first | assumption | exact Below.refl _ _ | apply Blw.alloc | apply Blw.drew | apply Blw.drewN | (refine Blw.after ?_ (by assumption)) | (refine Blw.set ?_ (by first | (dsimp only; omega) | (simp; done) | (simp; omega)) _)))))
        clear hW z0 z1
        have S0 := Lib.hid (show BxRel L wC L.length (.int .i64 0) W4 from ⟨0, by omega, rfl, by rw [HZ.out.1]; exact p0, by rw [HZ.out.2]; exact p1, HB6.out⟩)
        clear p0 p1
        go_loopg [14] L.length (fun m i wr => BxRel L wC m i wr)
        case atStart => exact S0.out
        case round =>
          clear S0
          obtain ⟨j, hj, rfl, p0, p1, hBr⟩ := hrel
          have Lp := p1.lt
          have HBr := Lib.hid hBr
          have HP := Lib.hid (And.intro p0 p1)
          by_cases hlt : j < L.length
          · have g0 := keepcell hBr (HGC.out j hlt).1
            have g1 := keepcell hBr (HGC.out j hlt).2
            have HLO := Lib.hid (show lowF L (j + 1) = (min (lowF L j).1 (L.getD j (0, 0)).1, min (lowF L j).2 (L.getD j (0, 0)).2) ∧ higF L (j + 1) = (max (higF L j).1 (L.getD j (0, 0)).1, max (higF L j).2 (L.getD j (0, 0)).2) from ⟨rfl, rfl⟩)
            have HJ := Lib.hid hj
            have Lgr : g < wr.heap.size := World.block_lt_of_cell? wr _ g0
            obtain ⟨a0, a1, e0, e1⟩ := p0
            obtain ⟨b0, b1, f0, f1⟩ := p1
            clear hj hBr
            generalize (lowF L j).1 = A at *
            generalize (lowF L j).2 = B at *
            generalize (higF L j).1 = C at *
            generalize (higF L j).2 = D at *
            generalize (L.getD j (0, 0)).1 = X2 at *
            generalize (L.getD j (0, 0)).2 = Y2 at *
            have n1 : g ≠ wC.heap.size := by omega
            have n2 : g ≠ wC.heap.size + 1 := by omega
            go_wp2_with fail
            go_still_tail 17, (by kernel_rfl)
            go_upto_region 17 with fail
            obtain ⟨P0, P1⟩ := HP.out
            generalize hW : World.drew _ = W5
            have Q0 : Own2 W5 wC.heap.size (min A X2) (min B Y2) := by
              rw [← hW]
              have h : Own2 ((wr.setCell ⟨wC.heap.size, 0, none⟩ (.int .i64 (min A X2))).setCell ⟨wC.heap.size, 1, none⟩ (.int .i64 (min B Y2))) wC.heap.size (min A X2) (min B Y2) := P0.put
              exact ⟨h.c0, h.c1, h.f0, h.f1⟩
            have Q1 : Own2 W5 (wC.heap.size + 1) C D := by
              rw [← hW]
              have h : Own2 ((wr.setCell ⟨wC.heap.size, 0, none⟩ (.int .i64 (min A X2))).setCell ⟨wC.heap.size, 1, none⟩ (.int .i64 (min B Y2))) (wC.heap.size + 1) C D := (P1.set (by omega)).set (by omega)
              exact ⟨h.c0, h.c1, h.f0, h.f1⟩
            have k0 : W5.cell? ⟨g, j * 2, none⟩ = some (.int .i64 X2) := by
              rw [← hW]; exact (cell_set_other n1).trans ((cell_set_other n1).trans g0)
            have k1 : W5.cell? ⟨g, j * 2 + 1, none⟩ = some (.int .i64 Y2) := by
              rw [← hW]; exact (cell_set_other n1).trans ((cell_set_other n1).trans g1)
            have HB8 := Lib.hid (show Below wC.heap.size wC W5 by rw [← hW]; have := HBr.out; (first | ((repeat' with_reducible first | assumption | exact Below.refl _ _ | apply Blw.alloc | apply Blw.drew | apply Blw.drewN | (refine Blw.after ?_ (by assumption)) | (refine Blw.set ?_ (by first | (dsimp only; omega) | (simp; omega)) _)); done) | (repeat' (first | assumption | exact Below.refl _ _ | apply Blw.alloc | apply Blw.drew | apply Blw.drewN | (refine Blw.after ?_ (by assumption)) | (refine Blw.set ?_ (by first | (dsimp only; omega) | (simp; done) | (simp; omega)) _)))))
            have HQ := Lib.hid (And.intro Q0 Q1)
            have L5 := Q1.lt
            have L50 := Q0.lt
            have L5g : g < W5.heap.size := World.block_lt_of_cell? W5 _ k0
            clear hW a0 a1 e0 e1 b0 b1 f0 f1 g0 g1 P0 P1
            obtain ⟨b0, b1, f0, f1⟩ := Q1
            clear Q0
            go_wp2_with fail
            go_still_tail 17, (by kernel_rfl)
            go_wp2_with fail
            go_roundg (gk - 1)
            case measure => have := HJ.out; omega
            case rel =>
              obtain ⟨Q0, Q1⟩ := HQ.out
              refine ⟨j + 1, by have := HJ.out; omega, by go_num, ?_, ?_, ?_⟩
              · rw [HLO.out.1]; dsimp only
                have h : Own2 ((W5.setCell ⟨wC.heap.size + 1, 0, none⟩ (.int .i64 (max C X2))).setCell ⟨wC.heap.size + 1, 1, none⟩ (.int .i64 (max D Y2))) wC.heap.size (min A X2) (min B Y2) := (Q0.set (by omega)).set (by omega)
                exact ⟨h.c0, h.c1, h.f0, h.f1⟩
              · rw [HLO.out.2]; dsimp only
                have h := Own2.put (x' := max C X2) (y' := max D Y2) Q1
                exact ⟨h.c0, h.c1, h.f0, h.f1⟩
              · have := HB8.out; (first | ((repeat' with_reducible first | assumption | exact Below.refl _ _ | apply Blw.alloc | apply Blw.drew | apply Blw.drewN | (refine Blw.after ?_ (by assumption)) | (refine Blw.set ?_ (by first | (dsimp only; omega) | (simp; omega)) _)); done) | (repeat' (first | assumption | exact Below.refl _ _ | apply Blw.alloc | apply Blw.drew | apply Blw.drewN | (refine Blw.after ?_ (by assumption)) | (refine Blw.set ?_ (by first | (dsimp only; omega) | (simp; done) | (simp; omega)) _))))
          · obtain rfl : j = L.length := by omega
            obtain ⟨e1, e2⟩ := HEq.out
            rw [e1] at p0
            rw [e2] at p1
            obtain ⟨o4, o5⟩ := HO2.out
            have o4' := o4.below hBr o4.lt
            have o5' := o5.below hBr o5.lt
            have HB7 := Lib.hid (Blw.after HB5.out hBr)
            obtain ⟨a0, a1, -, -⟩ := p0
            obtain ⟨b0, b1, -, -⟩ := p1
            obtain ⟨c0, c1, -, -⟩ := o4'
            obtain ⟨d0, d1, -, -⟩ := o5'
            clear e1 e2 o4 o5 hBr hj
            dsimp only at *
            go_wp2_with fail
            go_ret
            exact ⟨by simp, HB7.out⟩
      · have hn8 : 8 < n := by
          simp only [inR, Bool.and_eq_false_iff, decide_eq_false_iff_not] at h8; omega
        rw [h8]
        clear h8
        have hd : decide ((8 : Int) < (n : Int)) = true := by simp; omega
        have hd2 : (8 : Int) < (n : Int) := by omega
        go_wp2_with fail
        go_ret
        exact ⟨by simp, HB5.out⟩
    · rw [boxV_no hr] at HS HI
      clear hr
      go_wp2_with fail
      refine (HI.out _).mono ?_
      rintro e wA ⟨rfl, hbA⟩
      have HBA := Lib.hid (Blw.after HB1.out hbA)
      clear hbA
      go_wp2_with fail
      generalize hW : World.alloc _ _ = W2
      have o4 : Own2 W2 wA.heap.size 0 0 := by rw [← hW]; exact (Own2.fresh wA 0 0 _).alloc _
      have o5 : Own2 W2 (wA.heap.size + 1) 0 0 := by
        rw [← hW]
        have h := Own2.fresh (wA.alloc (.cells #[.int .i64 0, .int .i64 0] 24)) 0 0 24
        rw [alloc_size] at h
        exact h
      have HB2 := Lib.hid (show Below w.heap.size w W2 by rw [← hW]; have := HBA.out; (first | ((repeat' with_reducible first | assumption | exact Below.refl _ _ | apply Blw.alloc | apply Blw.drew | apply Blw.drewN | (refine Blw.after ?_ (by assumption)) | (refine Blw.set ?_ (by first | (dsimp only; omega) | (simp; omega)) _)); done) | (repeat' (first | assumption | exact Below.refl _ _ | apply Blw.alloc | apply Blw.drew | apply Blw.drewN | (refine Blw.after ?_ (by assumption)) | (refine Blw.set ?_ (by first | (dsimp only; omega) | (simp; done) | (simp; omega)) _)))))
      clear hW
      go_wp2_with fail
      refine (HS.out _).mono ?_
      rintro e wB ⟨rfl, hbB⟩
      replace o4 := o4.below hbB o4.lt
      replace o5 := o5.below hbB o5.lt
      have HB3 := Lib.hid (Blw.after HB2.out hbB)
      have LA0 := o4.lt
      have LA1 := o5.lt
      obtain ⟨a0, a1, -, -⟩ := o4
      obtain ⟨b0, b1, -, -⟩ := o5
      clear hbB
      go_wp2_with fail
      go_ret
      exact ⟨by simp, by have := HB3.out; (first | ((repeat' with_reducible first | assumption | exact Below.refl _ _ | apply Blw.alloc | apply Blw.drew | apply Blw.drewN | (refine Blw.after ?_ (by assumption)) | (refine Blw.set ?_ (by first | (dsimp only; omega) | (simp; omega)) _)); done) | (repeat' (first | assumption | exact Below.refl _ _ | apply Blw.alloc | apply Blw.drew | apply Blw.drewN | (refine Blw.after ?_ (by assumption)) | (refine Blw.set ?_ (by first | (dsimp only; omega) | (simp; done) | (simp; omega)) _))))⟩

namespace lawFnTileBox
set_option maxRecDepth 100000 in
theorem lifted (os : Os) (started : os.Started) (H : Type) (enc : TypeId × Value → H) :
    ReturnsInHanded {} Tryd.checked os 8 .any (fun w args => (Rows.fnTileBoxSpec.pre enc Tryd.prog Tryd.f8 Rows.fnTileBoxRow.domain false w args ∧ laidMetH Tryd.prog Rows.fnTileBoxRow.laid w) ∧ sizedMet enc Tryd.prog Tryd.f8 (OpenSpec.ofChange Rows.fnTileBoxSpec) false w args)
      (Rows.fnTileBoxSpec.post enc Tryd.prog Tryd.f8 false true false false) := by
  refine returnsInHanded_of_change_and (C := Tryd.checked) (X := fun w _ => laidMetH Tryd.prog Rows.fnTileBoxRow.laid w) (fun _ _ _ hh h => h.of_heap hh) own started (by kernel_rfl) Tryd.func8
    (ChangeSpec.witness_shaped (enc := enc) (C := Tryd.checked) (os := os) (X := fun w _ => laidMetH Tryd.prog Rows.fnTileBoxRow.laid w) false (World.laidAll Tryd.prog os Rows.fnTileBoxRow.laid) #[.slice none 0 0] 8 (World.laidAll_os _ _ _)
      (World.shaped_of_ZipB (by kernel_rfl) (by kernel_rfl)) (by kernel_rfl) (by kernel_rfl) (by kernel_rfl)
      (by rw [MakeChecks.laidMetH_plain _ _ _ (by kernel_rfl)]; exact laidMet_laidAll _ (by kernel_rfl) (by kernel_rfl))) ?_
  intro W base args ds gs before hval0 hW hc0 _ hL _
  have hval : ∀ (j : Nat) t v, Tryd.f8.params[j]? = some t → args[j]? = some v → Value.okWide Tryd.prog W .any base t v := hval0
  have hW' := hW
  obtain ⟨p, q, hA0, hV, rfl, _, _⟩ := hW
  have hA : DataW.TrodAll enc Tryd.prog W 0 (fun _ => true) true Tryd.f8.params.toList args.toList ds p := hA0
  rw [Tryd.params8] at hA hval
  obtain ⟨v0, vs0, d0, ds0, p0, q0, hargs, rfl, rfl, h0, r0⟩ := trodAll_cons hA
  obtain ⟨rfl, rfl, rfl⟩ := trodAll_nil r0
  obtain rfl : args = #[v0] := by cases args; simp_all
  obtain ⟨rfl, rfl⟩ := trodVars_none hV
  obtain ⟨a, len, cap, rfl⟩ := okWide_slice Tryd.underlying22 (hval 0 22 v0 rfl rfl)
  clear hA0 hval0
  simp only [List.append_nil] at hW'
  have hlt : ∀ x ∈ p0, x.block < W.heap.size := fun x hx => by simpa using hW'.lt x hx
  refine (lawTileBoxP_c a len cap W (code_of h0) (two_second hL (fun _ => MakeChecks.laidMetH_plain _ _ _ (by kernel_rfl)))).mono fun e W' ⟨he, hg⟩ => ?_
  subst he
  have harg := Below.trod laidOut (by kernel_rfl) (of_decide_eq_true (by kernel_rfl)) h0 hg hlt
  refine ⟨_, rfl, _, _, _, [], p0, [], hW', ?_, ?_, ?_, hg.frame _, fun h => by cases h⟩
  · exact trodAll_cons_mk (shut_bool Tryd.underlying4 _) trodAll_mk0
  · exact trodAll_mk1 harg
  · rfl

theorem holds : Rows.FnTileBoxSaid :=
  OpenClaim.holds_of_wide 8 Tryd.f8 rfl rfl rfl rfl rfl rfl rfl ⟨rfl, rfl, rfl, rfl, rfl⟩ rfl rfl rfl rfl rfl (by kernel_rfl) Tryd.func8 (by kernel_rfl)
    (of_decide_eq_true (by kernel_rfl)) (by unfold Func.isWrapper; first | (rw [if_pos (by decide +kernel)]; kernel_rfl) | (rw [if_neg (by decide +kernel)]; exact ⟨rfl, rfl⟩))
    (fun os started H enc _ => lifted os started H enc)
theorem proved : Rows.FnTileBoxCardSaid :=
  Claim7.holds_tied_plain_at .later [] [.data, .data, .data] true (true, "40e37c0d82d1a1fb0c632a6cbbca785942b217e333014797603bce4089056b42") true holds (fun _ h => by cases h) (by kernel_rfl) (fun _ h => by cases h) fnTileBox_row_tie rfl ⟨rfl, rfl⟩ (by kernel_rfl) rfl
    (fun f fn hf hfn => by
      obtain rfl : f = 8 := Option.some.inj ((show Tryd.prog.funcNamed "loop.example/dragonnumbers/laws.FnTileBox" = some 8 by kernel_rfl).symm.trans hf) |>.symm
      obtain rfl : fn = Tryd.f8 := (Option.some.inj (Tryd.func8.symm.trans hfn)).symm
      exact ⟨by kernel_rfl, fun j t ht => by
        rw [Tryd.params8] at ht
        have hm : t ∈ [22] := by simpa using Array.mem_of_getElem? ht
        have hall : ([22].all fun u => !Tryd.prog.wantsStandIn u) = true := by kernel_rfl
        exact (show Tryd.prog.wantsStandIn t = false by simpa using List.all_eq_true.1 hall t hm)⟩)
    (by kernel_rfl)
end lawFnTileBox
end Go.Proofs.YtaleeoghifcadaaDoor

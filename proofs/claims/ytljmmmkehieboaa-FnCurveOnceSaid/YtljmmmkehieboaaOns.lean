/- Chapter 5: CurveOnce, the model's side. No law is stated here. -/
import Derived.Test.YtljmmmkehieboaaOn
import Derived.Test.YtljmmmkehieboaaReg
import Derived.Test.YtljmmmkehieboaaBq
namespace Go.Proofs.Ytljmmmkehieboaa
set_option linter.unusedSimpArgs false
set_option linter.unusedVariables false
open Go.RowKit Ieee

def OoRel (Z : List (Int × Int)) (w : World) (m : Nat) (i : Value) (wr : World) : Prop :=
  ∃ I0 I1 : Nat, I1 = I0 + 1 ∧ I1 + m = Z.length ∧ i = .int .i64 I1 ∧ (∀ i k, k < i → i < I0 → ¬ sameE Z k i) ∧ Below w.heap.size w wr
def OiRel (Z : List (Int × Int)) (w : World) (I0 m : Nat) (k : Value) (wr : World) : Prop :=
  ∃ K0 K1 : Nat, K1 = K0 + 1 ∧ K0 + m = I0 ∧ k = .int .i64 K1 ∧ (∀ k, k < K0 → ¬ sameE Z k I0) ∧ Below w.heap.size w wr
set_option maxRecDepth 100000 in
set_option maxHeartbeats 16000000 in
theorem sCurveOnce_c (a : Option Addr) (c : Nat) (L : List SZ) (w : World) (hl : L.length ≤ 1000000) (hS : ∀ q ∈ L, Bq 400 q) (h : CSl a (L.map encZ) w) : Calls Try.prog 23 #[.slice a L.length c] w fun e w' => e = .returned (.bool (onB L)) ∧ Below w.heap.size w w' := by
  have HP := Lib.hid (sCurvePath_c a c L w hl hS h)
  rcases Bool.eq_false_or_eq_true (pathZ L) with hp | hp
  · have HI := onB_iff hp
    have hP := pathZ_iff.1 hp
    have HZB := Lib.hid (val_map_bp hS)
    have hcz : CSl a ((L.map val).map encP) w := by rw [← enc_of hP]; exact h
    have hzl : (L.map val).length = L.length := by rw [List.length_map]
    have h1 := hP.1
    have h2 := hP.2.1
    rw [hp] at HP
    generalize L.map val = Z at *
    generalize onB L = ob at *
    have HIH := Lib.hid HI
    obtain ⟨g, o, rfl, hg, hcell⟩ := cs_at hcz (by omega)
    have HCL := Lib.hid hcell
    clear hP hp hcz hcell hS h HI
    go_enter Try.func23, Try.ntmps23
    go_wp2_with fail
    refine HP.out.mono ?_
    rintro e w1 ⟨rfl, hb⟩
    have HCL1 := Lib.hid (fun k hk => keepcell hb (HCL.out k hk))
    have HB1 := Lib.hid hb
    clear hb HP HCL
    go_wp2_with fail
    go_loopg [3, 4, 5, 6] (Z.length - 1) (fun m i x y z wr => OoRel Z w1 m i wr)
    case atStart => exact ⟨0, 1, rfl, by omega, rfl, fun i k h1 h2 => by omega, Below.refl _ _⟩
    case round =>
      obtain ⟨I0, I1, hI1, hi, rfl, hno0, hBo⟩ := hrel
      have HNO := Lib.hid hno0
      clear hno0
      by_cases hlt : I1 < Z.length
      · have HBO := Lib.hid hBo
        have hli : I1 < L.length := by omega
        have i0 : (I1 : Int) - 1 = (I0 : Nat) := by omega
        obtain ⟨g0, hg0⟩ : ∃ g0 : Nat, g0 = gk := ⟨_, rfl⟩
        have HG0 := Lib.hid hg0
        have HI1 := Lib.hid hI1
        have li0 : I0 < L.length := by omega
        have hiz : I0 < I1 := by omega
        clear hBo hg0 hI1
        have SI := Lib.hid (show OiRel Z w1 I0 I0 (.int .i64 1) wr from ⟨0, 1, rfl, by omega, rfl, fun k h => by omega, HBO.out⟩)
        go_wp2_with fail
        go_loopg [4, 5, 6] I0 (fun m k x y wr => OiRel Z w1 I0 m k wr)
        case atStart => exact SI.out
        case round =>
          clear SI HBO
          obtain ⟨K0, K1, hK1, hk, rfl, hno, hB⟩ := hrel
          by_cases hlk : K0 < I0
          · have z1 : K0 < Z.length := by omega
            have z2 : K1 < Z.length := by omega
            have z3 : I0 < Z.length := by omega
            have cK0 := keepcell hB (HCL1.out K0 z1)
            have cK1 := keepcell hB (HCL1.out K1 z2)
            have cI0 := keepcell hB (HCL1.out I0 z3)
            have cI1 := keepcell hB (HCL1.out I1 hlt)
            rw [← zg_get (by assumption)] at cK0 cK1 cI0 cI1
            have lk : K0 < L.length := by omega
            have lk1 : K1 < L.length := by omega
            have k0 : (K1 : Int) - 1 = (K0 : Nat) := by omega
            have hki : (K1 : Int) < (I1 : Nat) := by have := HI1.out; omega
            have hkb : K1 ≤ 1000000 := by omega
            have hib : I1 ≤ 1000000 := by omega
            have bb := fun k => show Bp 100000 (zg Z k) from ⟨Nat.le_trans (zg_in HZB.out k).1 (by omega), Nat.le_trans (zg_in HZB.out k).2 (by omega)⟩
            have q1 := fun w t => run_ceqP (P := Try.prog) w t (bb K0) (bb I0)
            have q2 := fun w t => run_ceqP (P := Try.prog) w t (bb K1) (bb I1)
            have q3 := fun w t => run_ceqP (P := Try.prog) w t (bb K0) (bb I1)
            have q4 := fun w t => run_ceqP (P := Try.prog) w t (bb K1) (bb I0)
            change ∀ w t, (binOp .eql t _ _).run _ w = Result.ok (.bool (eqP (zg Z K0) (zg Z I0))) w at q1
            change ∀ w t, (binOp .eql t _ _).run _ w = Result.ok (.bool (eqP (zg Z K1) (zg Z I1))) w at q2
            change ∀ w t, (binOp .eql t _ _).run _ w = Result.ok (.bool (eqP (zg Z K0) (zg Z I1))) w at q3
            change ∀ w t, (binOp .eql t _ _).run _ w = Result.ok (.bool (eqP (zg Z K1) (zg Z I0))) w at q4
            have HE := Lib.hid (show sameE Z K0 I0 ↔ ((eqP (zg Z K0) (zg Z I0) = true ∧ eqP (zg Z K1) (zg Z I1) = true) ∨ (eqP (zg Z K0) (zg Z I1) = true ∧ eqP (zg Z K1) (zg Z I0) = true)) from by
              rw [eqP_iff, eqP_iff, eqP_iff, eqP_iff, HI1.out, hK1]; rfl)
            have HR := Lib.hid (show sameE Z K0 I0 → ob = false from fun hs => by
              rw [← Bool.not_eq_true, HIH.out]; exact fun ho => ho I0 K0 hlk (by have := HI1.out; omega) hs)
            have HN := Lib.hid (show ¬ sameE Z K0 I0 → ∀ k, k < K0 + 1 → ¬ sameE Z k I0 from fun hs k hk => by
              rcases Nat.lt_or_eq_of_le (Nat.lt_succ_iff.1 hk) with h | h
              · exact hno k h
              · rw [h]; exact hs)
            have HK1 := Lib.hid hK1
            have Lg : g < wr.heap.size := World.block_lt_of_cell? wr _ cK0
            clear hno bb hK1 z1 z2 z3
            generalize eqP (zg Z K0) (zg Z I0) = e1 at *
            generalize eqP (zg Z K1) (zg Z I1) = e2 at *
            generalize eqP (zg Z K0) (zg Z I1) = f1 at *
            generalize eqP (zg Z K1) (zg Z I0) = f2 at *
            generalize zg Z K0 = zk0 at *
            generalize zg Z K1 = zk1 at *
            generalize zg Z I0 = zi0 at *
            generalize zg Z I1 = zi1 at *
            have hw1 : IntKind.i64.wrap (K0 : Int) = (K0 : Nat) := IntWalk.i64_in _ (by omega)
            have hw2 : IntKind.i64.wrap (I0 : Int) = (I0 : Nat) := IntWalk.i64_in _ (by omega)
            go_upto_region 9 with fail
            rcases Bool.eq_false_or_eq_true e1 with rfl | rfl
            · -- first pair: true
              have xcK0 := fun x : BelowW wr => keepcell x.kept cK0
              have xcK1 := fun x : BelowW wr => keepcell x.kept cK1
              have xcI0 := fun x : BelowW wr => keepcell x.kept cI0
              have xcI1 := fun x : BelowW wr => keepcell x.kept cI1
              have hNE : ∀ w, Nonempty (BelowW w) := BelowW.none
              refine wp_region_below (by kernel_rfl) (by kernel_rfl) ?_
              repeat
                (with_reducible refine wpQuiet_step ?_
                 intro K hK
                 go_simp
                 first
                   | (refine hK _ ?_; clear hK K)
                   | (apply Exists.intro
                      refine ⟨fun xW => ?_, hK _ ?_⟩
                      (fail)
                      clear hK K))
              with_reducible refine wpQuiet_nil ?_
              rintro _ ⟨⟨w2, hb2⟩, rfl⟩
              try dsimp only
              rename_i w2
              clear xcK0 xcK1 xcI0 xcI1
              have hb2' := hb2
              have dK0 : w2.cell? ⟨g, o + K0, none⟩ = some (encP zk0) := keepcell hb2 cK0
              have dK1 : w2.cell? ⟨g, o + K1, none⟩ = some (encP zk1) := keepcell hb2 cK1
              have dI0 : w2.cell? ⟨g, o + I0, none⟩ = some (encP zi0) := keepcell hb2 cI0
              have dI1 : w2.cell? ⟨g, o + I1, none⟩ = some (encP zi1) := keepcell hb2 cI1
              have HB2 := Lib.hid (Blw.after hB hb2)
              have Lg2 : g < w2.heap.size := World.block_lt_of_cell? w2 _ dK0
              clear cK0 cK1 cI0 cI1 hb2 hb2' hB Lg hNE
              generalize w2 = wx at *
              go_wp2_with fail
              rcases Bool.eq_false_or_eq_true f1 with rfl | rfl
              · -- second pair: true
                have xdK0 := fun x : BelowW wx => keepcell x.kept dK0
                have xdK1 := fun x : BelowW wx => keepcell x.kept dK1
                have xdI0 := fun x : BelowW wx => keepcell x.kept dI0
                have xdI1 := fun x : BelowW wx => keepcell x.kept dI1
                have hNE : ∀ w, Nonempty (BelowW w) := BelowW.none
                refine wp_region_below (by kernel_rfl) (by kernel_rfl) ?_
                repeat
                  (with_reducible refine wpQuiet_step ?_
                   intro K hK
                   go_simp
                   first
                     | (refine hK _ ?_; clear hK K)
                     | (apply Exists.intro
                        refine ⟨fun xW => ?_, hK _ ?_⟩
                        (fail)
                        clear hK K))
                with_reducible refine wpQuiet_nil ?_
                rintro _ ⟨⟨w2, hb2⟩, rfl⟩
                try dsimp only
                rename_i w2
                clear xdK0 xdK1 xdI0 xdI1
                have hb3 := hb2
                have HB3 := Lib.hid (Blw.after HB2.out hb3)
                have HBF := Lib.hid (Blw.after HB1.out HB3.out)
                clear dK0 dK1 dI0 dI1 hb3 hb2 HB2 Lg2 q1 q2 q3 q4 hNE
                rcases Bool.eq_false_or_eq_true e2 with rfl | rfl <;> rcases Bool.eq_false_or_eq_true f2 with rfl | rfl
                · have hon := HR.out (HE.out.2 (by simp))
                  clear HR HE HN
                  go_wp2_with fail
                  go_ret
                  exact ⟨by rw [hon]; rfl, HBF.out⟩
                · have hon := HR.out (HE.out.2 (by simp))
                  clear HR HE HN
                  go_wp2_with fail
                  go_ret
                  exact ⟨by rw [hon]; rfl, HBF.out⟩
                · have hon := HR.out (HE.out.2 (by simp))
                  clear HR HE HN
                  go_wp2_with fail
                  go_ret
                  exact ⟨by rw [hon]; rfl, HBF.out⟩
                · have hno := Lib.hid (HN.out (fun h => by have := HE.out.1 h; simp at this))
                  clear HR HE HN
                  go_wp2_with fail
                  go_roundg (gk - 1)
                  case measure => omega
                  case rel => exact ⟨K0 + 1, K1 + 1, by have := HK1.out; omega, by omega, by go_num, hno.out, HB3.out⟩
              · -- second pair: false
                have xdK0 := fun x : BelowW wx => keepcell x.kept dK0
                have xdK1 := fun x : BelowW wx => keepcell x.kept dK1
                have xdI0 := fun x : BelowW wx => keepcell x.kept dI0
                have xdI1 := fun x : BelowW wx => keepcell x.kept dI1
                have hNE : ∀ w, Nonempty (BelowW w) := BelowW.none
                refine wp_region_below (by kernel_rfl) (by kernel_rfl) ?_
                repeat
                  (with_reducible refine wpQuiet_step ?_
                   intro K hK
                   go_simp
                   first
                     | (refine hK _ ?_; clear hK K)
                     | (apply Exists.intro
                        refine ⟨fun xW => ?_, hK _ ?_⟩
                        (fail)
                        clear hK K))
                with_reducible refine wpQuiet_nil ?_
                rintro _ ⟨⟨w2, hb2⟩, rfl⟩
                try dsimp only
                rename_i w2
                clear xdK0 xdK1 xdI0 xdI1
                have hb3 := hb2
                have HB3 := Lib.hid (Blw.after HB2.out hb3)
                have HBF := Lib.hid (Blw.after HB1.out HB3.out)
                clear dK0 dK1 dI0 dI1 hb3 hb2 HB2 Lg2 q1 q2 q3 q4 hNE
                rcases Bool.eq_false_or_eq_true e2 with rfl | rfl <;> rcases Bool.eq_false_or_eq_true f2 with rfl | rfl
                · have hon := HR.out (HE.out.2 (by simp))
                  clear HR HE HN
                  go_wp2_with fail
                  go_ret
                  exact ⟨by rw [hon]; rfl, HBF.out⟩
                · have hon := HR.out (HE.out.2 (by simp))
                  clear HR HE HN
                  go_wp2_with fail
                  go_ret
                  exact ⟨by rw [hon]; rfl, HBF.out⟩
                · have hno := Lib.hid (HN.out (fun h => by have := HE.out.1 h; simp at this))
                  clear HR HE HN
                  go_wp2_with fail
                  go_roundg (gk - 1)
                  case measure => omega
                  case rel => exact ⟨K0 + 1, K1 + 1, by have := HK1.out; omega, by omega, by go_num, hno.out, HB3.out⟩
                · have hno := Lib.hid (HN.out (fun h => by have := HE.out.1 h; simp at this))
                  clear HR HE HN
                  go_wp2_with fail
                  go_roundg (gk - 1)
                  case measure => omega
                  case rel => exact ⟨K0 + 1, K1 + 1, by have := HK1.out; omega, by omega, by go_num, hno.out, HB3.out⟩
            · -- first pair: false
              have xcK0 := fun x : BelowW wr => keepcell x.kept cK0
              have xcK1 := fun x : BelowW wr => keepcell x.kept cK1
              have xcI0 := fun x : BelowW wr => keepcell x.kept cI0
              have xcI1 := fun x : BelowW wr => keepcell x.kept cI1
              have hNE : ∀ w, Nonempty (BelowW w) := BelowW.none
              refine wp_region_below (by kernel_rfl) (by kernel_rfl) ?_
              repeat
                (with_reducible refine wpQuiet_step ?_
                 intro K hK
                 go_simp
                 first
                   | (refine hK _ ?_; clear hK K)
                   | (apply Exists.intro
                      refine ⟨fun xW => ?_, hK _ ?_⟩
                      (fail)
                      clear hK K))
              with_reducible refine wpQuiet_nil ?_
              rintro _ ⟨⟨w2, hb2⟩, rfl⟩
              try dsimp only
              rename_i w2
              clear xcK0 xcK1 xcI0 xcI1
              have hb2' := hb2
              have dK0 : w2.cell? ⟨g, o + K0, none⟩ = some (encP zk0) := keepcell hb2 cK0
              have dK1 : w2.cell? ⟨g, o + K1, none⟩ = some (encP zk1) := keepcell hb2 cK1
              have dI0 : w2.cell? ⟨g, o + I0, none⟩ = some (encP zi0) := keepcell hb2 cI0
              have dI1 : w2.cell? ⟨g, o + I1, none⟩ = some (encP zi1) := keepcell hb2 cI1
              have HB2 := Lib.hid (Blw.after hB hb2)
              have Lg2 : g < w2.heap.size := World.block_lt_of_cell? w2 _ dK0
              clear cK0 cK1 cI0 cI1 hb2 hb2' hB Lg hNE
              generalize w2 = wx at *
              go_wp2_with fail
              rcases Bool.eq_false_or_eq_true f1 with rfl | rfl
              · -- second pair: true
                have xdK0 := fun x : BelowW wx => keepcell x.kept dK0
                have xdK1 := fun x : BelowW wx => keepcell x.kept dK1
                have xdI0 := fun x : BelowW wx => keepcell x.kept dI0
                have xdI1 := fun x : BelowW wx => keepcell x.kept dI1
                have hNE : ∀ w, Nonempty (BelowW w) := BelowW.none
                refine wp_region_below (by kernel_rfl) (by kernel_rfl) ?_
                repeat
                  (with_reducible refine wpQuiet_step ?_
                   intro K hK
                   go_simp
                   first
                     | (refine hK _ ?_; clear hK K)
                     | (apply Exists.intro
                        refine ⟨fun xW => ?_, hK _ ?_⟩
                        (fail)
                        clear hK K))
                with_reducible refine wpQuiet_nil ?_
                rintro _ ⟨⟨w2, hb2⟩, rfl⟩
                try dsimp only
                rename_i w2
                clear xdK0 xdK1 xdI0 xdI1
                have hb3 := hb2
                have HB3 := Lib.hid (Blw.after HB2.out hb3)
                have HBF := Lib.hid (Blw.after HB1.out HB3.out)
                clear dK0 dK1 dI0 dI1 hb3 hb2 HB2 Lg2 q1 q2 q3 q4 hNE
                rcases Bool.eq_false_or_eq_true e2 with rfl | rfl <;> rcases Bool.eq_false_or_eq_true f2 with rfl | rfl
                · have hon := HR.out (HE.out.2 (by simp))
                  clear HR HE HN
                  go_wp2_with fail
                  go_ret
                  exact ⟨by rw [hon]; rfl, HBF.out⟩
                · have hno := Lib.hid (HN.out (fun h => by have := HE.out.1 h; simp at this))
                  clear HR HE HN
                  go_wp2_with fail
                  go_roundg (gk - 1)
                  case measure => omega
                  case rel => exact ⟨K0 + 1, K1 + 1, by have := HK1.out; omega, by omega, by go_num, hno.out, HB3.out⟩
                · have hon := HR.out (HE.out.2 (by simp))
                  clear HR HE HN
                  go_wp2_with fail
                  go_ret
                  exact ⟨by rw [hon]; rfl, HBF.out⟩
                · have hno := Lib.hid (HN.out (fun h => by have := HE.out.1 h; simp at this))
                  clear HR HE HN
                  go_wp2_with fail
                  go_roundg (gk - 1)
                  case measure => omega
                  case rel => exact ⟨K0 + 1, K1 + 1, by have := HK1.out; omega, by omega, by go_num, hno.out, HB3.out⟩
              · -- second pair: false
                have xdK0 := fun x : BelowW wx => keepcell x.kept dK0
                have xdK1 := fun x : BelowW wx => keepcell x.kept dK1
                have xdI0 := fun x : BelowW wx => keepcell x.kept dI0
                have xdI1 := fun x : BelowW wx => keepcell x.kept dI1
                have hNE : ∀ w, Nonempty (BelowW w) := BelowW.none
                refine wp_region_below (by kernel_rfl) (by kernel_rfl) ?_
                repeat
                  (with_reducible refine wpQuiet_step ?_
                   intro K hK
                   go_simp
                   first
                     | (refine hK _ ?_; clear hK K)
                     | (apply Exists.intro
                        refine ⟨fun xW => ?_, hK _ ?_⟩
                        (fail)
                        clear hK K))
                with_reducible refine wpQuiet_nil ?_
                rintro _ ⟨⟨w2, hb2⟩, rfl⟩
                try dsimp only
                rename_i w2
                clear xdK0 xdK1 xdI0 xdI1
                have hb3 := hb2
                have HB3 := Lib.hid (Blw.after HB2.out hb3)
                have HBF := Lib.hid (Blw.after HB1.out HB3.out)
                clear dK0 dK1 dI0 dI1 hb3 hb2 HB2 Lg2 q1 q2 q3 q4 hNE
                rcases Bool.eq_false_or_eq_true e2 with rfl | rfl <;> rcases Bool.eq_false_or_eq_true f2 with rfl | rfl
                · have hno := Lib.hid (HN.out (fun h => by have := HE.out.1 h; simp at this))
                  clear HR HE HN
                  go_wp2_with fail
                  go_roundg (gk - 1)
                  case measure => omega
                  case rel => exact ⟨K0 + 1, K1 + 1, by have := HK1.out; omega, by omega, by go_num, hno.out, HB3.out⟩
                · have hno := Lib.hid (HN.out (fun h => by have := HE.out.1 h; simp at this))
                  clear HR HE HN
                  go_wp2_with fail
                  go_roundg (gk - 1)
                  case measure => omega
                  case rel => exact ⟨K0 + 1, K1 + 1, by have := HK1.out; omega, by omega, by go_num, hno.out, HB3.out⟩
                · have hno := Lib.hid (HN.out (fun h => by have := HE.out.1 h; simp at this))
                  clear HR HE HN
                  go_wp2_with fail
                  go_roundg (gk - 1)
                  case measure => omega
                  case rel => exact ⟨K0 + 1, K1 + 1, by have := HK1.out; omega, by omega, by go_num, hno.out, HB3.out⟩
                · have hno := Lib.hid (HN.out (fun h => by have := HE.out.1 h; simp at this))
                  clear HR HE HN
                  go_wp2_with fail
                  go_roundg (gk - 1)
                  case measure => omega
                  case rel => exact ⟨K0 + 1, K1 + 1, by have := HK1.out; omega, by omega, by go_num, hno.out, HB3.out⟩
          · obtain rfl : K0 = I0 := by omega
            have hki : ¬ (K1 : Int) < (I1 : Nat) := by have := HI1.out; omega
            have HB2 := Lib.hid hB
            have HNN := Lib.hid (show ∀ i k, k < i → i < K0 + 1 → ¬ sameE Z k i from fun i k h1 h2 => by
              rcases Nat.lt_or_eq_of_le (Nat.lt_succ_iff.1 h2) with h | h
              · exact HNO.out i k h1 h
              · rw [h]; rw [h] at h1; exact hno k h1)
            clear hB hno hK1
            go_wp2_with fail
            go_roundg (g0 - 1)
            case measure => have := HG0.out; omega
            case rel => exact ⟨K0 + 1, I1 + 1, by have := HI1.out; omega, by have := HG0.out; omega, by go_num, HNN.out, HB2.out⟩
      · have hon : ob = true := HIH.out.2 (fun i k h1 h2 => HNO.out i k h1 (by omega))
        have HB2 := Lib.hid (Blw.after HB1.out hBo)
        have hli : ¬ I1 < L.length := by omega
        clear hBo HNO HIH
        subst hon
        go_wp2_with fail
        go_ret
        exact ⟨rfl, HB2.out⟩
  · have hon : onB L = false := by unfold onB; rw [hp]; rfl
    rw [hp] at HP
    rw [hon]
    clear hS h
    go_enter Try.func23, Try.ntmps23
    go_wp2_with fail
    refine HP.out.mono ?_
    rintro e w1 ⟨rfl, hb⟩
    go_wp2_with fail
    go_ret
    exact ⟨rfl, hb⟩
end Go.Proofs.Ytljmmmkehieboaa

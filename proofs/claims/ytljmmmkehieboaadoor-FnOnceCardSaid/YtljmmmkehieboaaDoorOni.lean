/- Chapter 5: CurveOnce, the program's. No law is stated here. -/
import Derived.Test.YtljmmmkehieboaaDoorEd
namespace Go.Proofs.YtljmmmkehieboaaDoor
set_option linter.unusedSimpArgs false
set_option linter.unusedVariables false
open Go.RowKit Ieee

set_option maxRecDepth 100000 in
set_option maxHeartbeats 4000000 in
theorem iCurveOnce_c (a : Option Addr) (c : Nat) (L : List SZ) (w : World) (hl : L.length ≤ 1000000) (hS : ∀ q ∈ L, Bq 400 q) (h : CSl a (L.map encZ) w) : Calls Tryd.prog 15 #[.slice a L.length c] w fun e w' => e = .returned (.bool (onB L)) ∧ Below w.heap.size w w' := by
  have HP := Lib.hid (iCurvePath_c a c L w hl hS h)
  rcases Bool.eq_false_or_eq_true (pathZ L) with hp | hp
  · have H := Lib.hid (show onB L = decide (visM (edg (L.map val)) (edg (L.map val)).length ≤ 1) from by unfold onB; rw [hp]; rfl)
    have hP := pathZ_iff.1 hp
    have hzb := val_map_bp hS
    have hcz : CSl a ((L.map val).map encP) w := by rw [← enc_of hP]; exact h
    have hzl : (L.map val).length = L.length := by rw [List.length_map]
    have h1 := hP.1
    have h2 := hP.2.1
    rw [hp] at HP
    generalize L.map val = Z at *
    obtain ⟨g, o, rfl, hg, hcell⟩ := cs_at hcz (by omega)
    have HG := Lib.hid (fun W (hW : Below w.heap.size w W) => edges_c g o c Z W (by omega) (by omega) hzb (fun k hk => keepcell hW (hcell k hk)))
    have HV := Lib.hid (fun a' c' W (hW : CSl a' ((edg Z).map encP) W) => visits_c a' c' (edg Z) W (by rw [edg_len]; omega) (edg_bp hzb) hW)
    rw [hzl] at HG
    have hmb : visM (edg Z) (edg Z).length ≤ 1025 := Nat.le_trans (visM_le (edg Z) (edg Z).length (Nat.le_refl _)) (by rw [edg_len]; omega)
    clear hP hp hcz hS h hzb hcell
    generalize (visE (edg Z) (edg Z).length).length = nn at *
    generalize visM (edg Z) (edg Z).length = mm at *
    generalize (edg Z) = E at *
    go_enter Tryd.func15, Tryd.ntmps15
    go_wp2_with fail
    refine HP.out.mono ?_
    rintro e w1 ⟨rfl, hb⟩
    have HB1 := Lib.hid hb
    clear hb HP
    go_wp2_with fail
    refine (HG.out _ HB1.out).mono ?_
    rintro e w2 ⟨v, rfl, ho, hb2⟩
    have HB2 := Lib.hid (Blw.after HB1.out hb2)
    obtain ⟨a', c', rfl, hcs, -⟩ := own_csl ho
    have hml : (List.map encP E).length = E.length := List.length_map _
    rw [hml]
    have HX := Lib.hid (HV.out a' c' w2 hcs)
    clear hb2 ho hcs HG HV hml
    go_wp2_with fail
    refine HX.out.mono ?_
    rintro e w3 ⟨rfl, hb3⟩
    have HB3 := Lib.hid (Blw.after HB2.out hb3)
    clear hb3 HX
    have hd : decide ((mm : Int) ≤ 1) = decide (mm ≤ 1) := decide_eq_decide.2 (by omega)
    have HD := Lib.hid hd
    clear hd
    go_wp2_with fail
    go_ret
    exact ⟨by rw [H.out, ← HD.out]; rfl, HB3.out⟩
  · have hon : onB L = false := by unfold onB; rw [hp]; rfl
    rw [hp] at HP
    rw [hon]
    clear hS h
    go_enter Tryd.func15, Tryd.ntmps15
    go_wp2_with fail
    refine HP.out.mono ?_
    rintro e w1 ⟨rfl, hb⟩
    go_wp2_with fail
    go_ret
    exact ⟨rfl, hb⟩
end Go.Proofs.YtljmmmkehieboaaDoor

/- Chapter 5: CurveCorners, the program's side. No law is stated here. -/
import Derived.Test.YtljmmmkehieboaaDoorCrs
namespace Go.Proofs.YtljmmmkehieboaaDoor
set_option linter.unusedSimpArgs false
set_option linter.unusedVariables false
open Go.RowKit Ieee

set_option maxRecDepth 100000 in
set_option maxHeartbeats 4000000 in
theorem iCurveCorners_c (a : Option Addr) (c : Nat) (L : List SZ) (w : World) (hl : L.length ≤ 1000000) (hS : ∀ q ∈ L, Bq 400 q) (h : CSl a (L.map encZ) w) : Calls Tryd.prog 14 #[.slice a L.length c] w fun e w' => e = .returned (crV L) ∧ Below w.heap.size w w' := by
  have HP := Lib.hid (iCurvePath_c a c L w hl hS h)
  rcases Bool.eq_false_or_eq_true (pathZ L) with hp | hp
  · have H := Lib.hid (crV_t hp)
    have hP := pathZ_iff.1 hp
    have hzb := val_map_bp hS
    have hcz : CSl a ((L.map val).map encP) w := by rw [← enc_of hP]; exact h
    have hzl : (L.map val).length = L.length := by rw [List.length_map]
    have h2 := hP.2.1
    rw [hp] at HP
    generalize L.map val = Z at *
    have HV := Lib.hid (fun W (hW : Below w.heap.size w W) => visits_c a c Z W (by omega) (fun z hz => ⟨Nat.le_trans (hzb z hz).1 (by omega), Nat.le_trans (hzb z hz).2 (by omega)⟩) (hcz.keep hW))
    rw [hzl] at HV
    clear hP hp hcz hS h hzb
    generalize (visE Z L.length).length = nn at *
    generalize visM Z L.length = mm at *
    go_enter Tryd.func14, Tryd.ntmps14
    go_wp2_with fail
    refine HP.out.mono ?_
    rintro e w1 ⟨rfl, hb⟩
    have HB1 := Lib.hid hb
    clear hb HP
    go_wp2_with fail
    refine (HV.out _ HB1.out).mono ?_
    rintro e w2 ⟨rfl, hb2⟩
    have HB2 := Lib.hid (Blw.after HB1.out hb2)
    clear hb2
    go_wp2_with fail
    go_ret3
    exact ⟨by rw [H.out]; rfl, HB2.out⟩
  · have H := Lib.hid (crV_f hp)
    rw [hp] at HP
    clear hS h
    go_enter Tryd.func14, Tryd.ntmps14
    go_wp2_with fail
    refine HP.out.mono ?_
    rintro e w1 ⟨rfl, hb⟩
    go_wp2_with fail
    go_ret3
    exact ⟨by rw [H.out]; rfl, hb⟩
end Go.Proofs.YtljmmmkehieboaaDoor

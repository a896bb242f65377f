/- Chapter 5: CurveBox, of both sides. No law is stated here. -/
import Derived.Test.YtljmmmkehieboaaBx
import Derived.Deep.RegionHeld
import Derived.RegionCalls
import Derived.StillTailTactics
import Derived.Deep.DeepCutAuto
import Derived.Deep.Cut
namespace Go.Proofs.Ytljmmmkehieboaa
set_option linter.unusedSimpArgs false
set_option linter.unusedVariables false
open Go.RowKit Ieee

theorem box_facts {lo z : Int × Int} (hl : Bp 400 lo) (hz : Bp 400 z) :
    (∀ (w : World) ts t, (Builtin.min_ ts t #[.float .f32 (px lo), .float .f32 (px z)]).run Try.prog w = .ok (.float .f32 (px (loP lo z))) w) ∧
    (∀ (w : World) ts t, (Builtin.min_ ts t #[.float .f32 (py lo), .float .f32 (py z)]).run Try.prog w = .ok (.float .f32 (py (loP lo z))) w) ∧
    (∀ (w : World) ts t, (Builtin.max_ ts t #[.float .f32 (px lo), .float .f32 (px z)]).run Try.prog w = .ok (.float .f32 (px (hiP lo z))) w) ∧
    (∀ (w : World) ts t, (Builtin.max_ ts t #[.float .f32 (py lo), .float .f32 (py z)]).run Try.prog w = .ok (.float .f32 (py (hiP lo z))) w) :=
  ⟨fun w ts t => run_pmin w ts t (Nat.le_trans hl.1 (by omega)) (Nat.le_trans hz.1 (by omega)), fun w ts t => run_pmin w ts t (Nat.le_trans hl.2 (by omega)) (Nat.le_trans hz.2 (by omega)),
   fun w ts t => run_pmax w ts t (Nat.le_trans hl.1 (by omega)) (Nat.le_trans hz.1 (by omega)), fun w ts t => run_pmax w ts t (Nat.le_trans hl.2 (by omega)) (Nat.le_trans hz.2 (by omega))⟩
set_option maxRecDepth 100000 in
set_option maxHeartbeats 4000000 in
theorem sCurveBox_c (a : Option Addr) (c : Nat) (L : List SZ) (w : World) (hl : L.length ≤ 1000000) (hS : ∀ q ∈ L, Bq 400 q) (h : CSl a (L.map encZ) w) : Calls Try.prog 29 #[.slice a L.length c] w fun e w' => e = .returned (bxV L) ∧ Below w.heap.size w w' := by
  have HP := Lib.hid (sCurvePath_c a c L w hl hS h)
  rcases Bool.eq_false_or_eq_true (pathZ L) with hp | hp
  · have H := Lib.hid (bxV_t hp)
    have hP := pathZ_iff.1 hp
    have HZB := Lib.hid (val_map_bp hS)
    have hcz : CSl a ((L.map val).map encP) w := by rw [← enc_of hP]; exact h
    have hzl : (L.map val).length = L.length := by rw [List.length_map]
    have h1 := hP.1
    have h2 := hP.2.1
    rw [hp] at HP
    generalize L.map val = Z at *
    obtain ⟨g, o, rfl, hg, hcell⟩ := cs_at hcz (by omega)
    have HCL := Lib.hid hcell
    clear hP hp hcz hcell hS h
    go_enter Try.func29, Try.ntmps29
    go_wp2_with fail
    refine HP.out.mono ?_
    rintro e w1 ⟨rfl, hb⟩
    have HB1 := Lib.hid hb
    have c0 := keepcell hb (HCL.out 0 (by omega))
    rw [← zg_get (by omega), Nat.add_zero] at c0
    have HL1 := Lib.hid (lo_one Z)
    have HH1 := Lib.hid (hi_one Z)
    clear hb HP
    go_wp2_with fail
    go_loopg [5, 6, 7, 8] (Z.length - 1) (fun m x y i z wr => BxRel Z w1 1 m x y i wr)
    case atStart => exact ⟨1, by omega, by omega, rfl, by rw [HL1.out], by rw [HH1.out], rfl⟩
    case round =>
      obtain ⟨k, hk1, hk, rfl, rfl, rfl, rfl⟩ := hrel
      clear c0
      by_cases hlt : k < Z.length
      · have ck := keepcell HB1.out (HCL.out k hlt)
        rw [← zg_get hlt] at ck
        have lk : k < L.length := by omega
        have hz := zg_in HZB.out k
        obtain ⟨m1, m2, -, -⟩ := box_facts (loB_in HZB.out k) hz
        obtain ⟨-, -, m3, m4⟩ := box_facts (hiB_in HZB.out k) hz
        have HT1 := Lib.hid (show loB Z (k + 1) = loP (loB Z k) (zg Z k) from rfl)
        have HT2 := Lib.hid (show hiB Z (k + 1) = hiP (hiB Z k) (zg Z k) from rfl)
        clear hz
        generalize loB Z k = lo at *
        generalize hiB Z k = hi at *
        generalize zg Z k = z at *
        go_wp2_with fail
        go_roundg (gk - 1)
        case measure => omega
        case rel => exact ⟨k + 1, by omega, by omega, by go_num, by rw [HT1.out], by rw [HT2.out], rfl⟩
      · obtain rfl : k = Z.length := by omega
        rw [hzl]
        generalize loB Z L.length = lo at *
        generalize hiB Z L.length = hi at *
        go_wp2_with fail
        go_ret3
        exact ⟨by rw [H.out]; rfl, HB1.out⟩
  · have H := Lib.hid (bxV_f hp)
    rw [hp] at HP
    clear hS h
    go_enter Try.func29, Try.ntmps29
    go_wp2_with fail
    refine HP.out.mono ?_
    rintro e w1 ⟨rfl, hb⟩
    go_wp2_with fail
    go_ret3
    exact ⟨by rw [H.out]; rfl, hb⟩
set_option maxRecDepth 100000 in
set_option maxHeartbeats 4000000 in
theorem iCurveBox_c (a : Option Addr) (c : Nat) (L : List SZ) (w : World) (hl : L.length ≤ 1000000) (hS : ∀ q ∈ L, Bq 400 q) (h : CSl a (L.map encZ) w) : Calls Try.prog 28 #[.slice a L.length c] w fun e w' => e = .returned (bxV L) ∧ Below w.heap.size w w' := by
  have HP := Lib.hid (iCurvePath_c a c L w hl hS h)
  rcases Bool.eq_false_or_eq_true (pathZ L) with hp | hp
  · have H := Lib.hid (bxV_t hp)
    have hP := pathZ_iff.1 hp
    have HZB := Lib.hid (val_map_bp hS)
    have hcz : CSl a ((L.map val).map encP) w := by rw [← enc_of hP]; exact h
    have hzl : (L.map val).length = L.length := by rw [List.length_map]
    have h1 := hP.1
    have h2 := hP.2.1
    rw [hp] at HP
    generalize L.map val = Z at *
    obtain ⟨g, o, rfl, hg, hcell⟩ := cs_at hcz (by omega)
    have HCL := Lib.hid hcell
    clear hP hp hcz hcell hS h
    go_enter Try.func28, Try.ntmps28
    go_wp2_with fail
    refine HP.out.mono ?_
    rintro e w1 ⟨rfl, hb⟩
    have HB1 := Lib.hid hb
    have c0 := keepcell hb (HCL.out 0 (by omega))
    rw [← zg_get (by omega), Nat.add_zero] at c0
    have HL1 := Lib.hid (show loB Z 0 = zg Z 0 from rfl)
    have HH1 := Lib.hid (show hiB Z 0 = zg Z 0 from rfl)
    clear hb HP
    generalize zg Z 0 = z0 at *
    go_wp2_with fail
    have hd : Below w1.heap.size w1 w1.drew := (Below.refl _ _).drew
    refine wp_region_held_drew (S := fun w' => w'.cell? ⟨g, o, none⟩ = some (encP z0) ∧ Below w.heap.size w w') (by kernel_rfl) ⟨keepcell hd c0, Blw.after HB1.out hd⟩ ?_
    intro hS0
    generalize w1.drew = V0 at *
    have hne : ¬ L = [] := by intro e; rw [e] at h1; simp at h1
    clear hd c0 HB1
    refine wpAnyH_take (i := 0) (v := ?_) rfl (by kernel_rfl) (by kernel_rfl) (by kernel_rfl) (fun _ _ _ h => h) (Or.inl ⟨by rfl, ?_⟩) hS0 ?_
    case refine_1 => exact Value.slice (some ⟨g, o, none⟩) L.length c
    · intro wq hSw; go_simp
    refine wpAnyH_take (i := 1) (v := ?_) rfl (by kernel_rfl) (by kernel_rfl) (by kernel_rfl) (fun _ _ _ h => h) (Or.inl ⟨by rfl, ?_⟩) hS0 ?_
    case refine_1 => exact .pointer (some ⟨g, o, none⟩)
    · intro wq hSw; go_simp
    refine wpAnyH_take (i := 2) (v := ?_) rfl (by kernel_rfl) (by kernel_rfl) (by kernel_rfl) (fun _ _ _ h => h) (Or.inl ⟨by rfl, ?_⟩) hS0 ?_
    case refine_1 => exact encP z0
    · rintro wq ⟨hSw, _⟩; go_simp
    refine wpAnyH_take (i := 3) (v := ?_) rfl (by kernel_rfl) (by kernel_rfl) (by kernel_rfl) (fun _ _ _ h => h) (Or.inl ⟨by rfl, ?_⟩) hS0 ?_
    case refine_1 => exact Value.slice (some ⟨g, o, none⟩) L.length c
    · intro wq hSw; go_simp
    refine wpAnyH_take (i := 4) (v := ?_) rfl (by kernel_rfl) (by kernel_rfl) (by kernel_rfl) (fun _ _ _ h => h) (Or.inl ⟨by rfl, ?_⟩) hS0 ?_
    case refine_1 => exact .pointer (some ⟨g, o, none⟩)
    · intro wq hSw; go_simp
    refine wpAnyH_take (i := 5) (v := ?_) rfl (by kernel_rfl) (by kernel_rfl) (by kernel_rfl) (fun _ _ _ h => h) (Or.inl ⟨by rfl, ?_⟩) hS0 ?_
    case refine_1 => exact encP z0
    · rintro wq ⟨hSw, _⟩; go_simp
    refine wpAnyH_ready (rs := [6]) (by kernel_rfl) (by simp) ?_
    refine AllReadyH.cons rfl (fun K hK => ?_) AllReadyH.nil
    rw [if_pos ?hw]
    case hw => kernel_rfl
    go_simp
    refine hK.out _ _ hS0 ?_
    clear hK K
    intro _
    refine wpAnyH_ready (rs := [7]) (by kernel_rfl) (by simp) ?_
    refine AllReadyH.cons rfl (fun K hK => ?_) AllReadyH.nil
    rw [if_pos ?hw]
    case hw => kernel_rfl
    go_simp
    refine hK.out _ _ hS0 ?_
    clear hK K
    intro _
    refine wpAnyH_done (by kernel_rfl) ?_ _
    have HB1 := Lib.hid hS0.2
    clear hS0
    go_wp2_with fail
    go_loopg [5, 6, 8, 20] Z.length (fun m x y z i wr => BxRel Z V0 0 m x y i wr)
    case atStart => exact ⟨0, by omega, by omega, rfl, by rw [HL1.out], by rw [HH1.out], rfl⟩
    case round =>
      obtain ⟨k, hk1, hk, rfl, rfl, rfl, rfl⟩ := hrel
      by_cases hlt : k < Z.length
      · have ck := keepcell HB1.out (HCL.out k hlt)
        rw [← zg_get hlt] at ck
        have lk : k < L.length := by omega
        have hz := zg_in HZB.out k
        obtain ⟨m1, m2, -, -⟩ := box_facts (loB_in HZB.out k) hz
        obtain ⟨-, -, m3, m4⟩ := box_facts (hiB_in HZB.out k) hz
        have HT1 := Lib.hid (show loB Z (k + 1) = loP (loB Z k) (zg Z k) from rfl)
        have HT2 := Lib.hid (show hiB Z (k + 1) = hiP (hiB Z k) (zg Z k) from rfl)
        clear hz
        generalize loB Z k = lo at *
        generalize hiB Z k = hi at *
        generalize zg Z k = z at *
        go_wp2_with fail
        go_roundg (gk - 1)
        case measure => omega
        case rel => exact ⟨k + 1, by omega, by omega, by go_num, by rw [HT1.out], by rw [HT2.out], rfl⟩
      · obtain rfl : k = Z.length := by omega
        rw [hzl]
        generalize loB Z L.length = lo at *
        generalize hiB Z L.length = hi at *
        go_wp2_with fail
        go_ret3
        exact ⟨by rw [H.out]; rfl, HB1.out⟩
  · have H := Lib.hid (bxV_f hp)
    rw [hp] at HP
    clear hS h
    go_enter Try.func28, Try.ntmps28
    go_wp2_with fail
    refine HP.out.mono ?_
    rintro e w1 ⟨rfl, hb⟩
    go_wp2_with fail
    go_ret3
    exact ⟨by rw [H.out]; rfl, hb⟩
end Go.Proofs.Ytljmmmkehieboaa

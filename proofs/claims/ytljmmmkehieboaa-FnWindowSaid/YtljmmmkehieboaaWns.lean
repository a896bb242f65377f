/- Chapter 5: CurveWindow, the model's side. No law is stated here. -/
import Derived.Test.YtljmmmkehieboaaWni
namespace Go.Proofs.Ytljmmmkehieboaa
set_option linter.unusedSimpArgs false
set_option linter.unusedVariables false
open Go.RowKit Ieee

theorem inR_t {a b n : Int} (h : a ≤ n ∧ n ≤ b) : inR a b n = true := by unfold inR; simp [h]
theorem inR_f {a b n : Int} (h : ¬ (a ≤ n ∧ n ≤ b)) : inR a b n = false := by
  rw [← Bool.not_eq_true]; intro e; apply h; unfold inR at e; simpa using e
set_option maxRecDepth 100000 in
set_option maxHeartbeats 4000000 in
theorem sCurveWindow_c (a : Option Addr) (c : Nat) (L : List SZ) (f t : Int) (w : World) (hl : L.length ≤ 1000000) (hcap : L.length ≤ c) (hS : ∀ q ∈ L, Bq 400 q) (h : CSl a (L.map encZ) w) : Calls Try.prog 33 #[.slice a L.length c, .int .i64 f, .int .i64 t] w (WnPost L f t w) := by
  obtain ⟨i0, hi, hz0, hz1, hz2⟩ := info_parts infoC2
  have HP := Lib.hid (sCurvePath_c a c L w hl hS h)
  rcases Bool.eq_false_or_eq_true (wnB L f t) with hw | hw
  · obtain ⟨hp, w1, w2, w3⟩ := wnB_iff.1 hw
    have hP := pathZ_iff.1 hp
    have HZB := Lib.hid (val_map_bp hS)
    have hcz : CSl a ((L.map val).map encP) w := by rw [← enc_of hP]; exact h
    have hzl : (L.map val).length = L.length := by rw [List.length_map]
    have h1 := hP.1
    have h2 := hP.2.1
    rw [hp] at HP
    have HA := Lib.hid (wnA_t hw)
    have HW := Lib.hid hw
    generalize L.map val = Z at *
    obtain ⟨g, o, rfl, hg, hcell⟩ := cs_at hcz (by omega)
    have HCL := Lib.hid hcell
    obtain ⟨F, rfl⟩ : ∃ F : Nat, f = (F : Int) := ⟨f.toNat, by omega⟩
    obtain ⟨T, rfl⟩ : ∃ T : Nat, t = (T : Int) := ⟨t.toNat, by omega⟩
    have wF : F < T := by omega
    have wT : T ≤ L.length := by omega
    have wc : T ≤ c := by omega
    have wF2 : F ≤ T := by omega
    have r1 : inR 1 (L.length : Int) (T : Int) = true := inR_t (by omega)
    have r2 : inR 0 ((T : Int) - 1) (F : Int) = true := inR_t (by omega)
    clear hP hp hcz hcell hS h hw w1 w2 w3
    go_enter Try.func33, Try.ntmps33
    go_wp2_with fail
    refine HP.out.mono ?_
    rintro e w1 ⟨rfl, hb⟩
    have HB1 := Lib.hid hb
    have sz1 := hb.size
    clear hb HP
    go_wp2_with ((go_at_call 47; refine (l6In_c _ _ _ _).mono ?_; rintro e w1 ⟨rfl, rfl⟩))
    obtain ⟨W, hW⟩ : ∃ W, W = (Z.take T).drop F := ⟨_, rfl⟩
    have hWl : W.length = T - F := by rw [hW, List.length_drop, List.length_take]; omega
    have hWb : ∀ z ∈ W, Bp 400 z := by rw [hW]; exact fun z hz => HZB.out z (List.mem_of_mem_take (List.mem_of_mem_drop hz))
    have HCW := Lib.hid (show ∀ k, (hk : k < W.length) → w1.cell? ⟨g, o + F + k, none⟩ = some (encP W[k]) from fun k hk => by
      subst hW
      obtain ⟨e1, e2⟩ := win_cell (by omega) hk
      rw [e2, Nat.add_assoc]; exact keepcell HB1.out (HCL.out _ e1))
    have HAL := Lib.hid (show wnA L F T = lessL W from by rw [HA.out, hW]; unfold wnL; rw [Int.toNat_natCast, Int.toNat_natCast])
    have hW0 : 0 < W.length := by omega
    have hW1 : W.length ≤ 1025 := by omega
    have HWB := Lib.hid hWb
    have S0 := Lib.hid (show LsRel W w1 W.length (.slice (some ⟨w1.heap.size, 0, none⟩) 0 0) (.int .i64 0) (w1.alloc (.cells #[] 31)) from
      ⟨0, by omega, rfl, World.ownsRow_lit w1 #[] 0 (Nat.le_refl _) (by unfold maxLen; omega) rfl, by (repeat' (first | assumption | exact Below.refl _ _ | apply Blw.alloc | apply Blw.drew | apply Blw.drewN | (refine Blw.after ?_ (by assumption)) | (refine Blw.set ?_ (by first | (dsimp only; omega) | (simp; done) | (simp; omega)) _)))⟩)
    rw [← hWl]
    have hgw : g < w1.heap.size := Nat.lt_of_lt_of_le hg sz1
    clear hW HCL HA HZB hWl hWb wF wT wc wF2 r1 r2
    generalize o + F = O at *
    generalize c - F = C at *
    go_loopg [9, 10] W.length (fun m v i wr => LsRel W w1 m v i wr)
    case atStart => exact S0.out
    case round =>
      clear S0
      obtain ⟨k, hk, rfl, hown, hB⟩ := hrel
      have HO := Lib.hid hown
      have zr := hB.size
      clear hown
      by_cases hlt : k < W.length
      · have ck := keepcell hB (HCW.out k hlt)
        have c0 := keepcell hB (HCW.out 0 hW0)
        rw [← zg_get hlt] at ck
        rw [← zg_get hW0, Nat.add_zero] at c0
        have b0 := zg_in HWB.out 0
        have bk := zg_in HWB.out k
        have f1 := fun w t => run_psub (P := Try.prog) w t (p := zg W k) (q := zg W 0) ⟨Nat.le_trans bk.1 (by omega), Nat.le_trans bk.2 (by omega)⟩ ⟨Nat.le_trans b0.1 (by omega), Nat.le_trans b0.2 (by omega)⟩
        have HT := Lib.hid (less_snoc hlt)
        clear b0 bk
        generalize subP (zg W k) (zg W 0) = d at *
        generalize zg W k = z at *
        generalize zg W 0 = z0 at *
        go_upto_region 8 with fail
        have hd : Below wr.heap.size wr wr.drew := (Below.refl _ _).drew
        refine wp_region_held_drew (S := fun w' => w'.cell? ⟨g, O + k, none⟩ = some (encP z) ∧ w'.cell? ⟨g, O, none⟩ = some (encP z0)) (by kernel_rfl) ⟨keepcell hd ck, keepcell hd c0⟩ ?_
        intro hS0
        have HOd := Lib.hid (own_below HO.out hd)
        have hBd : Below w1.heap.size w1 wr.drew := Blw.after hB hd
        have zd : w1.heap.size ≤ wr.drew.heap.size := hBd.size
        generalize wr.drew = V0 at *
        clear hd ck c0 HO hB
        refine wpAnyH_take (i := 1) (v := ?_) rfl (by kernel_rfl) (by kernel_rfl) (by kernel_rfl) (fun _ _ _ h => h) (Or.inl ⟨by rfl, ?_⟩) hS0 ?_
        case refine_1 => exact Value.slice (some ⟨g, O, none⟩) W.length C
        · intro wq hSw; go_simp
        refine wpAnyH_take (i := 2) (v := ?_) rfl (by kernel_rfl) (by kernel_rfl) (by kernel_rfl) (fun _ _ _ h => h) (Or.inl ⟨by rfl, ?_⟩) hS0 ?_
        case refine_1 => exact .int .i64 (k : Nat)
        · intro wq hSw; go_simp
        refine wpAnyH_take (i := 3) (v := ?_) rfl (by kernel_rfl) (by kernel_rfl) (by kernel_rfl) (fun _ _ _ h => h) (Or.inl ⟨by rfl, ?_⟩) hS0 ?_
        case refine_1 => exact .pointer (some ⟨g, O + k, none⟩)
        · intro wq hSw; go_simp
        refine wpAnyH_take (i := 4) (v := ?_) rfl (by kernel_rfl) (by kernel_rfl) (by kernel_rfl) (fun _ _ _ h => h) (Or.inl ⟨by rfl, ?_⟩) hS0 ?_
        case refine_1 => exact encP z
        · rintro wq ⟨hSw, _⟩; go_simp
        refine wpAnyH_take (i := 5) (v := ?_) rfl (by kernel_rfl) (by kernel_rfl) (by kernel_rfl) (fun _ _ _ h => h) (Or.inl ⟨by rfl, ?_⟩) hS0 ?_
        case refine_1 => exact Value.slice (some ⟨g, O, none⟩) W.length C
        · intro wq hSw; go_simp
        refine wpAnyH_take (i := 6) (v := ?_) rfl (by kernel_rfl) (by kernel_rfl) (by kernel_rfl) (fun _ _ _ h => h) (Or.inl ⟨by rfl, ?_⟩) hS0 ?_
        case refine_1 => exact .pointer (some ⟨g, O, none⟩)
        · intro wq hSw; go_simp
        refine wpAnyH_take (i := 7) (v := ?_) rfl (by kernel_rfl) (by kernel_rfl) (by kernel_rfl) (fun _ _ _ h => h) (Or.inl ⟨by rfl, ?_⟩) hS0 ?_
        case refine_1 => exact encP z0
        · rintro wq ⟨_, hSw⟩; go_simp
        refine wpAnyH_take (i := 8) (v := ?_) rfl (by kernel_rfl) (by kernel_rfl) (by kernel_rfl) (fun _ _ _ h => h) (Or.inl ⟨by rfl, ?_⟩) hS0 ?_
        case refine_1 => exact encP d
        · intro wq hSw; go_simp
        refine wpAnyH_take (i := 0) (v := ?_) rfl (by kernel_rfl) (by kernel_rfl) (by kernel_rfl) (fun _ _ _ h => h) (Or.inl ⟨by rfl, ?_⟩) hS0 ?_
        rotate_left
        · intro wq hSw; go_simp; rfl
        refine wpAnyH_ready (rs := [9]) (by kernel_rfl) (by simp) ?_
        refine AllReadyH.cons rfl (fun K hK => ?_) AllReadyH.nil
        rw [if_pos ?hw]
        case hw => kernel_rfl
        go_wp2_with fail
        have hk1 : Below V0.heap.size V0 (V0.alloc (.cells #[encP d] 31)) := (Below.refl _ _).alloc (Nat.le_refl _) _
        have hS1 : (V0.alloc (.cells #[encP d] 31)).cell? ⟨g, O + k, none⟩ = some (encP z) ∧ (V0.alloc (.cells #[encP d] 31)).cell? ⟨g, O, none⟩ = some (encP z0) := ⟨keepcell hk1 hS0.1, keepcell hk1 hS0.2⟩
        refine hK.out _ _ hS1 ?_
        clear hK K hk1
        intro _
        refine wpAnyH_ready (rs := [10]) (by kernel_rfl) (by simp) ?_
        refine AllReadyH.cons rfl (fun K hK => ?_) AllReadyH.nil
        rw [if_pos ?hw]
        case hw => kernel_rfl
        refine wp_append_own _ _ _ 24 rfl w1.heap.size 31 i0 (.complex .f32 0 0) 1 8 Try.underlying24 hi hz0 hz1 hz2 rfl (by decide) _ _ _ rfl (HOd.out.alloc _) ⟨V0.heap.size, 0, none⟩ 1 1 [encP d] rfl rfl (cells1 _ _ _) (one1 _ rfl) (by unfold maxLen; omega) (by omega) (by simp; omega) ?_
        intro v' W7 hown' hgrow _
        have hB7 : Below w1.heap.size w1 W7 := Below.grown (by (repeat' (first | assumption | exact Below.refl _ _ | apply Blw.alloc | apply Blw.drew | apply Blw.drewN | (refine Blw.after ?_ (by assumption)) | (refine Blw.set ?_ (by first | (dsimp only; omega) | (simp; done) | (simp; omega)) _)))) hgrow (by simp; omega) (fun k hk => (HOd.out.lt k hk).1)
        have hS7 : W7.cell? ⟨g, O + k, none⟩ = some (encP z) ∧ W7.cell? ⟨g, O, none⟩ = some (encP z0) := ⟨hgrow.cell hS1.1 (fun e => by have := (HOd.out.lt g e.symm).1; omega), hgrow.cell hS1.2 (fun e => by have := (HOd.out.lt g e.symm).1; omega)⟩
        have HO7 := Lib.hid hown'
        clear hgrow hown' HOd hBd
        refine hK.out _ _ hS7 ?_
        clear hK K
        intro _
        refine wpAnyH_ready (rs := [11]) (by kernel_rfl) (by simp) ?_
        refine AllReadyH.cons rfl (fun K hK => ?_) AllReadyH.nil
        rw [if_pos ?hw]
        case hw => kernel_rfl
        go_simp
        refine hK.out _ _ hS7 ?_
        clear hK K
        intro _
        refine wpAnyH_done (by kernel_rfl) ?_ _
        go_wp2_with fail
        go_roundg (gk - 1)
        case measure => omega
        case rel => exact ⟨k + 1, by omega, by go_num, by rw [HT.out]; exact HO7.out, hB7⟩
      · obtain rfl : k = W.length := by omega
        have hall : (lessL W).take W.length = lessL W := List.take_of_length_le (by rw [lessL_len]; omega)
        rw [hall] at HO
        have HOA := Lib.hid (show wr.ownsRow w.heap.size 31 1 _ (wnA L F T).length ((wnA L F T).map encP) from by
          rw [HAL.out, lessL_len]; exact ownsRow_low sz1 HO.out)
        have HBF := Lib.hid (Blw.after HB1.out hB)
        clear hall HO HAL hB
        go_wp2_with fail
        go_ret2
        exact ⟨_, by rw [HW.out]; rfl, HOA.out, HBF.out⟩
  · have HW := Lib.hid hw
    have fin : ∀ w', Below w.heap.size w w' → WnPost L f t w (.returned (.tuple #[.slice (some ⟨w'.heap.size, 0, none⟩) 0 0, .bool false])) (w'.alloc (.cells #[] 31)) := fun w' hb => ⟨_, by rw [HW.out], by
      rw [wnA_f HW.out]; exact World.ownsRow_lit w' #[] 0 hb.size (by unfold maxLen; omega) rfl, Blw.alloc hb _⟩
    have FIN := Lib.hid fin
    have hn : ¬ (pathZ L = true ∧ 0 ≤ f ∧ f < t ∧ t ≤ (L.length : Int)) := fun e => by rw [wnB_iff.2 e] at hw; cases hw
    clear fin hw hS h
    rcases Bool.eq_false_or_eq_true (pathZ L) with hp | hp
    · rw [hp] at HP
      by_cases c1 : 1 ≤ t ∧ t ≤ (L.length : Int)
      · have r1 : inR 1 (L.length : Int) t = true := inR_t c1
        have r2 : inR 0 (t - 1) f = false := inR_f (fun e => hn ⟨hp, by omega, by omega, c1.2⟩)
        obtain ⟨c2, c3⟩ := c1
        clear hn hp
        go_enter Try.func33, Try.ntmps33
        go_wp2_with fail
        refine HP.out.mono ?_
        rintro e w1 ⟨rfl, hb⟩
        go_wp2_with ((go_at_call 47; refine (l6In_c _ _ _ _).mono ?_; rintro e w1 ⟨rfl, rfl⟩))
        go_ret2
        exact FIN.out _ hb
      · have r1 : inR 1 (L.length : Int) t = false := inR_f c1
        clear hn hp
        go_enter Try.func33, Try.ntmps33
        go_wp2_with fail
        refine HP.out.mono ?_
        rintro e w1 ⟨rfl, hb⟩
        go_wp2_with ((go_at_call 47; refine (l6In_c _ _ _ _).mono ?_; rintro e w1 ⟨rfl, rfl⟩))
        go_ret2
        exact FIN.out _ hb
    · rw [hp] at HP
      clear hn hp
      go_enter Try.func33, Try.ntmps33
      go_wp2_with fail
      refine HP.out.mono ?_
      rintro e w1 ⟨rfl, hb⟩
      go_wp2_with fail
      go_ret2
      exact FIN.out _ hb
end Go.Proofs.Ytljmmmkehieboaa

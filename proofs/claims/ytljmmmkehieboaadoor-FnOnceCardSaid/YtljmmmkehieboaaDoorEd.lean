/- Chapter 5: CurveOnce, the program's side. No law is stated here. -/
import Derived.Test.YtljmmmkehieboaaDoorOn
import Derived.Test.YtljmmmkehieboaaDoorWn
namespace Go.Proofs.YtljmmmkehieboaaDoor
set_option linter.unusedSimpArgs false
set_option linter.unusedVariables false
open Go.RowKit Ieee

def EdRel (Z : List (Int × Int)) (w : World) (m : Nat) (v i : Value) (wr : World) : Prop :=
  ∃ k K1 : Nat, K1 = k + 1 ∧ K1 + m = Z.length ∧ i = .int .i64 k ∧ wr.ownsRow w.heap.size 24 1 v k (((edg Z).take k).map encP) ∧ Below w.heap.size w wr
set_option maxRecDepth 100000 in
set_option maxHeartbeats 4000000 in
theorem edges_c (g o c : Nat) (Z : List (Int × Int)) (w : World) (hl : Z.length ≤ 1025) (h0 : 0 < Z.length) (hS : ∀ z ∈ Z, Bp 400 z) (h : ∀ k, (hk : k < Z.length) → w.cell? ⟨g, o + k, none⟩ = some (encP Z[k])) :
    Calls Tryd.prog 33 #[.slice (some ⟨g, o, none⟩) Z.length c] w fun e w' => ∃ v, e = .returned v ∧ w'.ownsRow w.heap.size 24 1 v (edg Z).length ((edg Z).map encP) ∧ Below w.heap.size w w' := by
  obtain ⟨i0, hi, hz0, hz1, hz2⟩ := info_parts infoC2
  have HCL := Lib.hid h
  have HZB := Lib.hid hS
  clear h hS
  obtain ⟨n1, hn1⟩ : ∃ n1, Z.length = n1 + 1 := ⟨Z.length - 1, by omega⟩
  have e1 : ((Z.length : Nat) : Int) - 1 = (n1 : Nat) := by omega
  have hnb : n1 ≤ 1025 := by omega
  have HN1 := Lib.hid hn1
  clear hn1
  go_enter Tryd.func33, Tryd.ntmps33
  go_wp2_with (refine wpList_make_own _ rfl _ _ 30 rfl w.heap.size 24 i0 (.complex .f32 0 0) 1 Tryd.underlying30 hi hz0 hz1 .i64 .i64 _ Z.length rfl rfl rfl (by rw [hz2]; omega) (by unfold maxLen; omega) (Nat.le_refl _) ?_)
  intro W2 hown hgrow
  have hB2 : Below w.heap.size w W2 := Below.grown (Below.refl _ _) hgrow (Nat.le_refl _) (fun k hk => by cases hk)
  have S0 := Lib.hid (show EdRel Z w n1 (.slice (some ⟨w.heap.size, 0, none⟩) 0 Z.length) (.int .i64 0) W2 from ⟨0, 1, rfl, by have := HN1.out; omega, rfl, hown, hB2⟩)
  clear hown hgrow hB2
  go_wp2_with fail
  go_loopg [3, 4, 11] n1 (fun m v z i wr => EdRel Z w m v i wr)
  case atStart => exact S0.out
  case round =>
    clear S0
    obtain ⟨k, K1, hK1, hk, rfl, hown, hB⟩ := hrel
    have HO := Lib.hid hown
    have zr := hB.size
    clear hown
    by_cases hlt : k < n1
    · have hz1' : K1 < Z.length := by have := HN1.out; omega
      have hz0' : k < Z.length := by omega
      have ck := keepcell hB (HCL.out k hz0')
      have c0 := keepcell hB (HCL.out K1 hz1')
      rw [← zg_get hz0'] at ck
      rw [← zg_get hz1'] at c0
      have b0 := zg_in HZB.out k
      have bk := zg_in HZB.out K1
      have f1 := fun w t => run_padd (P := Tryd.prog) w t (p := zg Z k) (q := zg Z K1) ⟨Nat.le_trans b0.1 (by omega), Nat.le_trans b0.2 (by omega)⟩ ⟨Nat.le_trans bk.1 (by omega), Nat.le_trans bk.2 (by omega)⟩
      have HT := Lib.hid (show ((edg Z).take (k + 1)).map encP = ((edg Z).take k).map encP ++ [encP (addP (zg Z k) (zg Z K1))] from by rw [hK1]; exact edg_snoc (by omega))
      have kk : (k : Int) + 1 = (K1 : Nat) := by omega
      have HK1 := Lib.hid hK1
      have HKM := Lib.hid hk
      have hkb : k ≤ 1025 := by omega
      clear b0 bk hK1 hk
      generalize addP (zg Z k) (zg Z K1) = d at *
      generalize zg Z k = z at *
      generalize zg Z K1 = z1 at *
      go_upto_region 5 with fail
      have hd : Below wr.heap.size wr wr.drew := (Below.refl _ _).drew
      refine wp_region_held_drew (S := fun w' => w'.cell? ⟨g, o + k, none⟩ = some (encP z) ∧ w'.cell? ⟨g, o + K1, none⟩ = some (encP z1)) (by kernel_rfl) ⟨keepcell hd ck, keepcell hd c0⟩ ?_
      intro hS0
      have HOd := Lib.hid (own_below HO.out hd)
      have hBd : Below w.heap.size w wr.drew := Blw.after hB hd
      have zd : w.heap.size ≤ wr.drew.heap.size := hBd.size
      have hgz : g < w.heap.size := World.block_lt_of_cell? w _ (HCL.out k hz0')
      generalize wr.drew = V0 at *
      clear hd ck c0 HO hB
      refine wpAnyH_take (i := 1) (v := ?_) rfl (by kernel_rfl) (by kernel_rfl) (by kernel_rfl) (fun _ _ _ h => h) (Or.inl ⟨by rfl, ?_⟩) hS0 ?_
      case refine_1 => exact Value.slice (some ⟨g, o, none⟩) Z.length c
      · intro wq hSw; go_simp
      refine wpAnyH_take (i := 2) (v := ?_) rfl (by kernel_rfl) (by kernel_rfl) (by kernel_rfl) (fun _ _ _ h => h) (Or.inl ⟨by rfl, ?_⟩) hS0 ?_
      case refine_1 => exact .int .i64 (k : Nat)
      · intro wq hSw; go_simp
      refine wpAnyH_take (i := 3) (v := ?_) rfl (by kernel_rfl) (by kernel_rfl) (by kernel_rfl) (fun _ _ _ h => h) (Or.inl ⟨by rfl, ?_⟩) hS0 ?_
      case refine_1 => exact .pointer (some ⟨g, o + k, none⟩)
      · intro wq hSw; go_simp
      refine wpAnyH_take (i := 4) (v := ?_) rfl (by kernel_rfl) (by kernel_rfl) (by kernel_rfl) (fun _ _ _ h => h) (Or.inl ⟨by rfl, ?_⟩) hS0 ?_
      case refine_1 => exact encP z
      · rintro wq ⟨hSw, _⟩; go_simp
      refine wpAnyH_take (i := 5) (v := ?_) rfl (by kernel_rfl) (by kernel_rfl) (by kernel_rfl) (fun _ _ _ h => h) (Or.inl ⟨by rfl, ?_⟩) hS0 ?_
      case refine_1 => exact Value.slice (some ⟨g, o, none⟩) Z.length c
      · intro wq hSw; go_simp
      refine wpAnyH_take (i := 6) (v := ?_) rfl (by kernel_rfl) (by kernel_rfl) (by kernel_rfl) (fun _ _ _ h => h) (Or.inl ⟨by rfl, ?_⟩) hS0 ?_
      case refine_1 => exact .int .i64 (k : Nat)
      · intro wq hSw; go_simp
      refine wpAnyH_take (i := 7) (v := ?_) rfl (by kernel_rfl) (by kernel_rfl) (by kernel_rfl) (fun _ _ _ h => h) (Or.inl ⟨by rfl, ?_⟩) hS0 ?_
      case refine_1 => exact .int .i64 (K1 : Nat)
      · intro wq hSw; go_simp; exact IntWalk.i64_in _ (by omega)
      refine wpAnyH_take (i := 8) (v := ?_) rfl (by kernel_rfl) (by kernel_rfl) (by kernel_rfl) (fun _ _ _ h => h) (Or.inl ⟨by rfl, ?_⟩) hS0 ?_
      case refine_1 => exact .pointer (some ⟨g, o + K1, none⟩)
      · intro wq hSw; go_simp
      refine wpAnyH_take (i := 9) (v := ?_) rfl (by kernel_rfl) (by kernel_rfl) (by kernel_rfl) (fun _ _ _ h => h) (Or.inl ⟨by rfl, ?_⟩) hS0 ?_
      case refine_1 => exact encP z1
      · rintro wq ⟨_, hSw⟩; go_simp
      refine wpAnyH_take (i := 10) (v := ?_) rfl (by kernel_rfl) (by kernel_rfl) (by kernel_rfl) (fun _ _ _ h => h) (Or.inl ⟨by rfl, ?_⟩) hS0 ?_
      case refine_1 => exact encP d
      · intro wq hSw; go_simp
      refine wpAnyH_take (i := 0) (v := ?_) rfl (by kernel_rfl) (by kernel_rfl) (by kernel_rfl) (fun _ _ _ h => h) (Or.inl ⟨by rfl, ?_⟩) hS0 ?_
      rotate_left
      · intro wq hSw; go_simp; rfl
      refine wpAnyH_ready (rs := [11]) (by kernel_rfl) (by simp) ?_
      refine AllReadyH.cons rfl (fun K hK => ?_) AllReadyH.nil
      rw [if_pos ?hw]
      case hw => kernel_rfl
      go_wp2_with fail
      have hk1 : Below V0.heap.size V0 (V0.alloc (.cells #[encP d] 24)) := (Below.refl _ _).alloc (Nat.le_refl _) _
      have hS1 : (V0.alloc (.cells #[encP d] 24)).cell? ⟨g, o + k, none⟩ = some (encP z) ∧ (V0.alloc (.cells #[encP d] 24)).cell? ⟨g, o + K1, none⟩ = some (encP z1) := ⟨keepcell hk1 hS0.1, keepcell hk1 hS0.2⟩
      refine hK.out _ _ hS1 ?_
      clear hK K hk1
      intro _
      refine wpAnyH_ready (rs := [12]) (by kernel_rfl) (by simp) ?_
      refine AllReadyH.cons rfl (fun K hK => ?_) AllReadyH.nil
      rw [if_pos ?hw]
      case hw => kernel_rfl
      refine wp_append_own _ _ _ 30 rfl w.heap.size 24 i0 (.complex .f32 0 0) 1 8 Tryd.underlying30 hi hz0 hz1 hz2 rfl (by decide) _ _ _ rfl (HOd.out.alloc _) ⟨V0.heap.size, 0, none⟩ 1 1 [encP d] rfl rfl (cells1 _ _ _) (one1 _ rfl) (by unfold maxLen; omega) (by omega) (by simp; omega) ?_
      intro v' W7 hown' hgrow _
      have hB7 : Below w.heap.size w W7 := Below.grown (by (repeat' (first | assumption | exact Below.refl _ _ | apply Blw.alloc | apply Blw.drew | apply Blw.drewN | (refine Blw.after ?_ (by assumption)) | (refine Blw.set ?_ (by first | (dsimp only; omega) | (simp; done) | (simp; omega)) _)))) hgrow (by simp; omega) (fun k hk => (HOd.out.lt k hk).1)
      have hS7 : W7.cell? ⟨g, o + k, none⟩ = some (encP z) ∧ W7.cell? ⟨g, o + K1, none⟩ = some (encP z1) := ⟨hgrow.cell hS1.1 (fun e => by have := (HOd.out.lt g e.symm).1; omega), hgrow.cell hS1.2 (fun e => by have := (HOd.out.lt g e.symm).1; omega)⟩
      have HO7 := Lib.hid hown'
      clear hgrow hown' HOd hBd
      refine hK.out _ _ hS7 ?_
      clear hK K
      intro _
      refine wpAnyH_ready (rs := [13]) (by kernel_rfl) (by simp) ?_
      refine AllReadyH.cons rfl (fun K hK => ?_) AllReadyH.nil
      rw [if_pos ?hw]
      case hw => kernel_rfl
      go_simp
      refine hK.out _ _ hS7 ?_
      clear hK K
      intro _
      refine wpAnyH_done (by kernel_rfl) ?_ _
      go_wp2_with fail
      go_roundg (gk - 1)
      case measure => have := HKM.out; have := HN1.out; have := HK1.out; omega
      case rel => exact ⟨k + 1, K1 + 1, by have := HK1.out; omega, by have := HKM.out; have := HN1.out; have := HK1.out; omega, by first | go_num | (rw [← kk]) , by rw [HT.out]; exact HO7.out, hB7⟩
    · have hkn : k = n1 := by have := HN1.out; omega
      subst hkn
      have hall : (edg Z).take k = edg Z := List.take_of_length_le (by rw [edg_len, HN1.out]; omega)
      have HEL := Lib.hid (show (edg Z).length = k from by rw [edg_len, HN1.out]; omega)
      rw [hall] at HO
      clear hall hK1 hk
      go_wp2_with fail
      go_ret
      exact ⟨_, rfl, by rw [HEL.out]; exact HO.out, hB⟩
end Go.Proofs.YtljmmmkehieboaaDoor

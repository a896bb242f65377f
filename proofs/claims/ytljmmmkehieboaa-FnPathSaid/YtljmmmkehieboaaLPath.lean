/- FnPath: whatever the code draws, a path is one without its last point, and mirrored. -/
import Derived.Test.YtljmmmkehieboaaDrawM
import Derived.Test.YtljmmmkehieboaaPm
import Derived.Test.YtljmmmkehieboaaBaseP
namespace Go.Proofs.Ytljmmmkehieboaa
set_option linter.unusedSimpArgs false
set_option linter.unusedVariables false
open Go.ChangeShapes Go.WideShapes Go.ChangeAt Go.RowKit Go.Joins

def MiRel (Z : List (Int × Int)) (w0 w : World) (m : Nat) (v i : Value) (wr : World) : Prop :=
  ∃ k : Nat, k + m = Z.length ∧ i = .int .i64 k ∧ wr.ownsRow w.heap.size 31 1 v k (((Z.map mir).take k).map encP) ∧ Below w.heap.size w wr
set_option maxRecDepth 100000 in
set_option maxHeartbeats 4000000 in
theorem lawPath_c (a : Option Addr) (len cap : Nat) (w : World) (hc : len ≤ 1048576 → Code (.slice a len cap) w) : Calls Try.prog 4 #[.slice a len cap] w fun e w' => e = .returned (.bool true) ∧ Below w.heap.size w w' := by
  obtain ⟨i0, hi, hz0, hz1, hz2⟩ := info_parts infoC
  by_cases hl : 1048576 < len
  · go_enter Try.func4, Try.ntmps4
    go_wp2_with fail
    go_ret
    exact ⟨rfl, by (repeat' (first | assumption | exact Below.refl _ _ | apply Blw.alloc | apply Blw.drew | apply Blw.drewN | (refine Blw.after ?_ (by assumption)) | (refine Blw.set ?_ (by first | (dsimp only; omega) | (simp; done) | (simp; omega)) _)))⟩
  · have hc' := hc (by omega)
    clear hc
    go_enter Try.func4, Try.ntmps4
    go_wp2_with fail
    refine (drawCurvePath_c _ w hc').mono ?_
    rintro e W1 ⟨v, L, rfl, ho, hL, hbq, hb1⟩
    clear hc'
    obtain ⟨a1, c1, rfl, hcs, -⟩ := own_csl ho
    have hcap := own_cap ho
    rw [List.length_map]
    have HC := Lib.hid hcs
    have HBQ := Lib.hid (bq_up hbq (show 200 ≤ 400 by omega))
    have HB1 := Lib.hid hb1
    clear ho hcs hb1
    go_wp2_with fail
    refine (iCurvePath_c a1 c1 L W1 (by omega) HBQ.out HC.out).mono ?_
    rintro e W2 ⟨rfl, hb2⟩
    have HC2 := Lib.hid (HC.out.keep hb2)
    have HB2 := Lib.hid (Blw.after HB1.out hb2)
    clear hb2
    go_wp2_with fail
    refine (sCurvePath_c a1 c1 L W2 (by omega) HBQ.out HC2.out).mono ?_
    rintro e W3 ⟨rfl, hb3⟩
    have HC3 := Lib.hid (HC2.out.keep hb3)
    have HB3 := Lib.hid (Blw.after HB2.out hb3)
    clear hb3 HC HC2 HB1 HB2
    rcases Bool.eq_false_or_eq_true (pathZ L) with hp | hp
    · rw [hp]
      have hP := pathZ_iff.1 hp
      have HP := Lib.hid hP
      have hZP := pathP_of hP
      have HZP := Lib.hid hZP
      have hZb := val_map_bp hbq
      have HZB := Lib.hid hZb
      have hlen : 1 ≤ L.length := hP.1
      have hcz : CSl a1 ((L.map val).map encP) W3 := by rw [← enc_of hP]; exact HC3.out
      have HCZ := Lib.hid hcz
      have hzl : (L.map val).length = L.length := by rw [List.length_map]
      generalize hZ : L.map val = Z at *
      clear hp hP hZP hZb hcz hZ hbq
      have S0 := Lib.hid (show MiRel Z w W3 Z.length (.slice (some ⟨W3.heap.size, 0, none⟩) 0 0) (.int .i64 0) (W3.alloc (.cells #[] 31)) from
        ⟨0, by omega, rfl, World.ownsRow_lit W3 #[] 0 (Nat.le_refl _) (by unfold maxLen; omega) rfl, by (repeat' (first | assumption | exact Below.refl _ _ | apply Blw.alloc | apply Blw.drew | apply Blw.drewN | (refine Blw.after ?_ (by assumption)) | (refine Blw.set ?_ (by first | (dsimp only; omega) | (simp; done) | (simp; omega)) _)))⟩)
      go_wp2_with fail
      go_loopg [6, 7] Z.length (fun m v i wr => MiRel Z w W3 m v i wr)
      case atStart => exact S0.out
      case round =>
        clear S0
        obtain ⟨k, hk, rfl, hown, hB⟩ := hrel
        have HO := Lib.hid hown
        clear hown
        by_cases hlt : k < Z.length
        · obtain ⟨g, o, rfl, cV⟩ := (HCZ.out.keep hB).at (k := k) (by rw [List.length_map]; exact hlt)
          have gW : g < W3.heap.size := by
            obtain ⟨g', o', he, cV'⟩ := HCZ.out.at (k := k) (by rw [List.length_map]; exact hlt)
            simp only [Option.some.injEq, Addr.mk.injEq, and_true] at he
            obtain ⟨rfl, rfl⟩ := he
            exact World.block_lt_of_cell? _ _ cV'
          rw [List.getElem_map] at cV
          have hbz := HZB.out Z[k] (List.getElem_mem hlt)
          have HT := Lib.hid (take_map_snoc (l := Z.map mir) (k := k) (z := mir Z[k]) (by rw [List.getElem?_map, List.getElem?_eq_getElem hlt]; rfl) encP)
          generalize Z[k] = z at *
          have f1 := fun w => run_float_arith (P := Try.prog) w .sub 34 .f32 _ _ _ (neg_bits (a := z.2) (Nat.le_trans hbz.2 (by omega)))
          change ∀ w, (binOp .sub _ _ (.float .f32 (py z))).run _ w = Result.ok (.float .f32 (py (mir z))) w at f1
          have lk : k < L.length := by omega
          clear hbz
          go_upto_region 12 with fail
          have hd : Below wr.heap.size wr wr.drew := (Below.refl _ _).drew
          refine wp_region_held_drew (S := fun w' => w'.cell? ⟨g, o + k, none⟩ = some (encP z)) (by kernel_rfl) (keepcell hd cV) ?_
          intro hS0
          have HOd := Lib.hid (own_below HO.out hd)
          have hBd : Below W3.heap.size W3 wr.drew := Blw.after hB hd
          have zd : W3.heap.size ≤ wr.drew.heap.size := hBd.size
          generalize wr.drew = V0 at *
          clear hd cV HO hB
          refine wpAnyH_take (i := 1) (v := ?_) rfl (by kernel_rfl) (by kernel_rfl) (by kernel_rfl) (fun _ _ _ h => h) (Or.inl ⟨by rfl, ?_⟩) hS0 ?_
          case refine_1 => exact Value.slice (some ⟨g, o, none⟩) L.length c1
          · intro wq hSw; go_simp
          refine wpAnyH_take (i := 2) (v := ?_) rfl (by kernel_rfl) (by kernel_rfl) (by kernel_rfl) (fun _ _ _ h => h) (Or.inl ⟨by rfl, ?_⟩) hS0 ?_
          case refine_1 => exact .int .i64 (k : Nat)
          · intro wq hSw; go_simp
          refine wpAnyH_take (i := 3) (v := ?_) rfl (by kernel_rfl) (by kernel_rfl) (by kernel_rfl) (fun _ _ _ h => h) (Or.inl ⟨by rfl, ?_⟩) hS0 ?_
          case refine_1 => exact .pointer (some ⟨g, o + k, none⟩)
          · intro wq hSw; go_simp
          refine wpAnyH_take (i := 4) (v := ?_) rfl (by kernel_rfl) (by kernel_rfl) (by kernel_rfl) (fun _ _ _ h => h) (Or.inl ⟨by rfl, ?_⟩) hS0 ?_
          case refine_1 => exact encP z
          · intro wq hSw; go_simp
          refine wpAnyH_take (i := 5) (v := ?_) rfl (by kernel_rfl) (by kernel_rfl) (by kernel_rfl) (fun _ _ _ h => h) (Or.inl ⟨by rfl, ?_⟩) hS0 ?_
          case refine_1 => exact .float .f32 (px z)
          · intro wq hSw; go_simp
          refine wpAnyH_take (i := 6) (v := ?_) rfl (by kernel_rfl) (by kernel_rfl) (by kernel_rfl) (fun _ _ _ h => h) (Or.inl ⟨by rfl, ?_⟩) hS0 ?_
          case refine_1 => exact Value.slice (some ⟨g, o, none⟩) L.length c1
          · intro wq hSw; go_simp
          refine wpAnyH_take (i := 7) (v := ?_) rfl (by kernel_rfl) (by kernel_rfl) (by kernel_rfl) (fun _ _ _ h => h) (Or.inl ⟨by rfl, ?_⟩) hS0 ?_
          case refine_1 => exact .int .i64 (k : Nat)
          · intro wq hSw; go_simp
          refine wpAnyH_take (i := 8) (v := ?_) rfl (by kernel_rfl) (by kernel_rfl) (by kernel_rfl) (fun _ _ _ h => h) (Or.inl ⟨by rfl, ?_⟩) hS0 ?_
          case refine_1 => exact .pointer (some ⟨g, o + k, none⟩)
          · intro wq hSw; go_simp
          refine wpAnyH_take (i := 9) (v := ?_) rfl (by kernel_rfl) (by kernel_rfl) (by kernel_rfl) (fun _ _ _ h => h) (Or.inl ⟨by rfl, ?_⟩) hS0 ?_
          case refine_1 => exact encP z
          · intro wq hSw; go_simp
          refine wpAnyH_take (i := 10) (v := ?_) rfl (by kernel_rfl) (by kernel_rfl) (by kernel_rfl) (fun _ _ _ h => h) (Or.inl ⟨by rfl, ?_⟩) hS0 ?_
          case refine_1 => exact .float .f32 (py z)
          · intro wq hSw; go_simp
          refine wpAnyH_take (i := 11) (v := ?_) rfl (by kernel_rfl) (by kernel_rfl) (by kernel_rfl) (fun _ _ _ h => h) (Or.inl ⟨by rfl, ?_⟩) hS0 ?_
          case refine_1 => exact .float .f32 (py (mir z))
          · intro wq hSw; go_simp
          refine wpAnyH_take (i := 12) (v := ?_) rfl (by kernel_rfl) (by kernel_rfl) (by kernel_rfl) (fun _ _ _ h => h) (Or.inl ⟨by rfl, ?_⟩) hS0 ?_
          case refine_1 => exact Value.complex .f32 (px z) (py (mir z))
          · intro wq hSw; go_simp
          refine wpAnyH_take (i := 0) (v := ?_) rfl (by kernel_rfl) (by kernel_rfl) (by kernel_rfl) (fun _ _ _ h => h) (Or.inl ⟨by rfl, ?_⟩) hS0 ?_
          rotate_left
          · intro wq hSw; go_simp; rfl
          refine wpAnyH_ready (rs := [13]) (by kernel_rfl) (by simp) ?_
          refine AllReadyH.cons rfl (fun K hK => ?_) AllReadyH.nil
          rw [if_pos ?hw]
          case hw => kernel_rfl
          go_wp2_with fail
          have hS1 : (V0.alloc (.cells #[Value.complex .f32 (px z) (py (mir z))] 31)).cell? ⟨g, o + k, none⟩ = some (encP z) := keepcell ((Below.refl _ _).alloc (Nat.le_refl _) _) hS0
          refine hK.out _ _ hS1 ?_
          clear hK K
          intro _
          refine wpAnyH_ready (rs := [14]) (by kernel_rfl) (by simp) ?_
          refine AllReadyH.cons rfl (fun K hK => ?_) AllReadyH.nil
          rw [if_pos ?hw]
          case hw => kernel_rfl
          refine wp_append_own _ _ _ 24 rfl W3.heap.size 31 i0 (.complex .f32 0 0) 1 8 Try.underlying24 hi hz0 hz1 hz2 rfl (by decide) _ _ _ rfl (HOd.out.alloc _) ⟨V0.heap.size, 0, none⟩ 1 1 [encP (mir z)] rfl rfl (cells1 _ _ _) (one1 _ rfl) (by unfold maxLen; omega) (by omega) (by simp; omega) ?_
          intro v' W7 hown' hgrow _
          have hB7 : Below W3.heap.size W3 W7 := Below.grown (by (repeat' (first | assumption | exact Below.refl _ _ | apply Blw.alloc | apply Blw.drew | apply Blw.drewN | (refine Blw.after ?_ (by assumption)) | (refine Blw.set ?_ (by first | (dsimp only; omega) | (simp; done) | (simp; omega)) _)))) hgrow (by simp; omega) (fun k hk => (HOd.out.lt k hk).1)
          have hS7 : W7.cell? ⟨g, o + k, none⟩ = some (encP z) := hgrow.cell hS1 (fun e => by have := (HOd.out.lt g e.symm).1; omega)
          have HO7 := Lib.hid hown'
          clear hgrow hown' HOd hBd
          refine hK.out _ _ hS7 ?_
          clear hK K
          intro _
          refine wpAnyH_ready (rs := [15]) (by kernel_rfl) (by simp) ?_
          refine AllReadyH.cons rfl (fun K hK => ?_) AllReadyH.nil
          rw [if_pos ?hw]
          case hw => kernel_rfl
          go_simp
          refine hK.out _ _ hS7 ?_
          clear hK K
          intro _
          refine wpAnyH_done (by kernel_rfl) ?_ _
          go_wp2_with fail
          go_roundg (gk - 1)
          case measure => omega
          case rel => exact ⟨k + 1, by omega, by go_num, by rw [HT.out]; exact HO7.out, hB7⟩
        · obtain rfl : k = Z.length := by omega
          have hall : (Z.map mir).take Z.length = Z.map mir := List.take_of_length_le (by rw [List.length_map]; omega)
          rw [hall] at HO
          obtain ⟨LM, hLM⟩ : ∃ LM, LM = (Z.map mir).map canQ := ⟨_, rfl⟩
          obtain ⟨am, cm, hv, hm, -⟩ := own_csl HO.out
          have hlm : ((Z.map mir).map encP).length = LM.length := by rw [hLM]; simp
          rw [hlm] at hv
          subst hv
          have hPM : pathZ LM = true := by rw [hLM]; exact pathZ_t (pathZ_can (pathP_mir HZP.out))
          have hBM : ∀ q ∈ LM, Bq 400 q := by rw [hLM]; exact bq_up (bq_can (mir_bp HZB.out)) (by omega)
          have hCM : CSl am (LM.map encZ) wr := by rw [hLM, canQ_map]; exact hm
          have hll : LM.length ≤ 1000000 := by rw [hLM, List.length_map, List.length_map]; omega
          clear hlm hall hm HO hLM
          go_wp2_with fail
          refine (iCurvePath_c am cm LM wr hll hBM hCM).mono ?_
          rintro e W4 ⟨rfl, hb4⟩
          have hB4 := Blw.after hB hb4
          have HC4 := Lib.hid (HC3.out.keep hB4)
          have HB4 := Lib.hid (Blw.after HB3.out hB4)
          rw [hPM]
          clear hPM hBM hCM hb4 hB4 hB
          by_cases h1 : L.length = 1
          · have x1 : ((L.length : Nat) : Int) = 1 := by omega
            go_wp2_with fail
            go_ret
            exact ⟨rfl, HB4.out⟩
          · obtain ⟨N, hN⟩ : ∃ N, L.length = N + 1 := ⟨L.length - 1, by omega⟩
            have n1 : ((L.length : Nat) : Int) - 1 = (N : Nat) := by omega
            have n2 : (((L.length : Nat) : Int) == 1) = false := by simp; omega
            have hN1 : 1 ≤ N := by omega
            have hNc : N ≤ c1 := by omega
            have hPT : pathZ (L.take N) = true := pathZ_t (pathZ_take HP.out hN1)
            have hBT : ∀ q ∈ L.take N, Bq 400 q := fun q hq => HBQ.out q (List.mem_of_mem_take hq)
            have hTl : (L.take N).length = N := by rw [List.length_take]; omega
            have hCT : CSl a1 ((L.take N).map encZ) W4 := by rw [List.map_take]; exact csl_take HC4.out N
            obtain ⟨g, o, rfl, hx0⟩ := hCT.at (k := 0) (by rw [List.length_map, hTl]; omega)
            clear hx0
            generalize L.take N = LT at *
            subst hTl
            clear hN h1
            go_wp2_with fail
            refine (iCurvePath_c (some ⟨g, o, none⟩) c1 LT W4 (by omega) hBT hCT).mono ?_
            rintro e W5 ⟨rfl, hb5⟩
            have hB5 := Blw.after HB4.out hb5
            rw [hPT]
            go_wp2_with fail
            go_ret
            exact ⟨rfl, hB5⟩
    · rw [hp]
      go_wp2_with fail
      go_ret
      exact ⟨rfl, HB3.out⟩

namespace lawFnPath
set_option maxRecDepth 100000 in
theorem lifted (os : Os) (started : os.Started) (H : Type) (enc : TypeId × Value → H) :
    ReturnsInHanded {} Try.checked os 4 .any (Rows.fnPathSpec.pre6 enc Try.prog Try.f4 Rows.fnPathRow.domain false) (Rows.fnPathSpec.post enc Try.prog Try.f4 false true false false) := by
  refine returnsInHanded_of_change (C := Try.checked) own started (by kernel_rfl) Try.func4
    (ChangeSpec.witness6 (enc := enc) (C := Try.checked) false ⟨#[], #[.slice none 0 0], []⟩ 8 (by kernel_rfl) (by kernel_rfl) (by kernel_rfl) (by kernel_rfl)) ?_
  intro W base args ds gs before hval0 hW _ _
  have hval : ∀ (j : Nat) t v, Try.f4.params[j]? = some t → args[j]? = some v → Value.okWide Try.prog W .any base t v := hval0
  have hW' := hW
  obtain ⟨p, q, hA0, hV, rfl, _, _⟩ := hW
  have hA : DataW.TrodAll enc Try.prog W 0 (fun _ => true) true Try.f4.params.toList args.toList ds p := hA0
  rw [Try.params4] at hA hval
  obtain ⟨v0, vs0, d0, ds0, p0, q0, hargs, rfl, rfl, h0, r0⟩ := trodAll_cons hA
  obtain ⟨rfl, rfl, rfl⟩ := trodAll_nil r0
  obtain rfl : args = #[v0] := by cases args; simp_all
  obtain ⟨rfl, rfl⟩ := trodVars_none hV
  obtain ⟨a, len, cap, rfl⟩ := okWide_slice Try.underlying22 (hval 0 22 v0 rfl rfl)
  clear hA0 hval0
  simp only [List.append_nil] at hW'
  have hlt : ∀ x ∈ p0, x.block < W.heap.size := fun x hx => by simpa using hW'.lt x hx
  refine (lawPath_c a len cap W (code_of h0)).mono fun e W' ⟨he, hg⟩ => ?_
  subst he
  have harg := Below.trod laidOut (by kernel_rfl) (of_decide_eq_true (by kernel_rfl)) h0 hg hlt
  refine ⟨_, rfl, _, _, _, [], p0, [], hW', ?_, ?_, ?_, hg.frame _, fun h => by cases h⟩
  · exact trodAll_cons_mk (shut_bool Try.underlying4 _) trodAll_mk0
  · exact trodAll_mk1 harg
  · rfl

theorem proved : Rows.FnPathSaid :=
  OpenClaim.holds_of_wide 4 Try.f4 rfl rfl rfl rfl rfl rfl rfl ⟨rfl, rfl, rfl, rfl, rfl⟩ rfl rfl rfl rfl rfl (by kernel_rfl) Try.func4 (by kernel_rfl)
    (of_decide_eq_true (by kernel_rfl)) (by unfold Func.isWrapper; first | (rw [if_pos (by decide +kernel)]; kernel_rfl) | (rw [if_neg (by decide +kernel)]; exact ⟨rfl, rfl⟩))
    (fun os started H enc _ => lifted os started H enc)
end lawFnPath
end Go.Proofs.Ytljmmmkehieboaa

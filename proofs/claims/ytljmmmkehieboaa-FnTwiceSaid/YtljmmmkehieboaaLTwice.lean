/- FnTwice: whatever the code draws, the area of the list turned round is the opposite, and that of the mirrored one, too. -/
import Derived.Test.YtljmmmkehieboaaDrawM
import Derived.Test.YtljmmmkehieboaaTwi
import Derived.Test.YtljmmmkehieboaaBaseP
import Derived.Deep.AppendLies
import Derived.Deep.RegionHeld
import Derived.RegionCalls
import Derived.StillTailTactics
import Derived.Deep.DeepCutAuto
import Derived.Deep.Cut
namespace Go.Proofs.Ytljmmmkehieboaa
set_option linter.unusedSimpArgs false
set_option linter.unusedVariables false
open Go.ChangeShapes Go.WideShapes Go.ChangeAt Go.RowKit Go.Joins

theorem own_grown {w w' : World} {B e n sz g m c : Nat} {xs : List Value} {row : Option Nat} (h : w.ownsRow B e sz (.slice (some ⟨g, 0, none⟩) m c) n xs) (hg : w.grownBy w' row) (hne : some g ≠ row) : w'.ownsRow B e sz (.slice (some ⟨g, 0, none⟩) m c) n xs := by
  refine ⟨h.1, h.2.imp id ?_⟩
  rintro ⟨g', cap, cur, h1, h2, h3, h4⟩
  have e1 : g' = g := by simp only [Value.slice.injEq, Option.some.injEq, Addr.mk.injEq, and_true] at h1; omega
  subst e1
  exact ⟨g', cap, cur, h1, h2, (hg.block g' (Array.getElem?_eq_some_iff.1 h3).1 hne).trans h3, h4⟩
theorem own_lt {w : World} {B e n sz g m c : Nat} {xs : List Value} (h : w.ownsRow B e sz (.slice (some ⟨g, 0, none⟩) m c) n xs) : B ≤ g ∧ g < w.heap.size := h.lt g rfl
def TwRel (Z : List (Int × Int)) (w0 : World) (m : Nat) (v u i : Value) (wr : World) : Prop :=
  ∃ k gv cv gu cu : Nat, k + m = Z.length ∧ i = .int .i64 ((m : Int) - 1) ∧ v = .slice (some ⟨gv, 0, none⟩) k cv ∧ u = .slice (some ⟨gu, 0, none⟩) k cu ∧ gv ≠ gu ∧
    wr.ownsRow w0.heap.size 31 1 (.slice (some ⟨gv, 0, none⟩) k cv) k ((Z.reverse.take k).map encP) ∧ wr.ownsRow w0.heap.size 31 1 (.slice (some ⟨gu, 0, none⟩) k cu) k (((Z.map mir).take k).map encP) ∧ Below w0.heap.size w0 wr
theorem rev_snoc {Z : List (Int × Int)} {k m : Nat} (h : k + (m + 1) = Z.length) : (Z.reverse.take (k + 1)).map encP = (Z.reverse.take k).map encP ++ [encP (zg Z m)] := by
  refine take_map_snoc ?_ encP
  rw [List.getElem?_reverse (by omega), show Z.length - 1 - k = m by omega, zg_get (by omega), List.getElem?_eq_getElem (by omega)]
theorem mir_snoc {Z : List (Int × Int)} {k : Nat} (h : k < Z.length) : ((Z.map mir).take (k + 1)).map encP = ((Z.map mir).take k).map encP ++ [encP (mir (zg Z k))] := by
  refine take_map_snoc ?_ encP
  rw [List.getElem?_map, List.getElem?_eq_getElem h, zg_get h]; rfl
theorem twV2_can {Z : List (Int × Int)} (h : PathP Z) : twV2 (Z.map canQ) = .tuple #[.int .i64 (ttl Z), .bool true] := by
  rw [twV2_t (pathZ_t (pathZ_can h)), List.map_map]
  have e : Z.map (val ∘ canQ) = Z := by
    conv => rhs; rw [← List.map_id Z]
    apply List.map_congr_left
    intro z _
    exact val_can z
  rw [e]
set_option maxRecDepth 100000 in
set_option maxHeartbeats 8000000 in
theorem lawTwice_c (a : Option Addr) (len cap : Nat) (w : World) (hc : len ≤ 1048576 → Code (.slice a len cap) w) : Calls Try.prog 10 #[.slice a len cap] w fun e w' => e = .returned (.bool true) ∧ Below w.heap.size w w' := by
  obtain ⟨i0, hi, hz0, hz1, hz2⟩ := info_parts infoC
  by_cases hl : 1048576 < len
  · go_enter Try.func10, Try.ntmps10
    go_wp2_with fail
    go_ret
    exact ⟨rfl, by (repeat' (first | assumption | exact Below.refl _ _ | apply Blw.alloc | apply Blw.drew | apply Blw.drewN | (refine Blw.after ?_ (by assumption)) | (refine Blw.set ?_ (by first | (dsimp only; omega) | (simp; done) | (simp; omega)) _)))⟩
  · have hc' := hc (by omega)
    clear hc
    go_enter Try.func10, Try.ntmps10
    go_wp2_with fail
    refine (drawCurveTwice_c _ w hc').mono ?_
    rintro e W1 ⟨v, L, rfl, ho, hL, hbq, hb1⟩
    clear hc'
    obtain ⟨a1, c1, rfl, hcs, -⟩ := own_csl ho
    rw [List.length_map]
    have HC := Lib.hid hcs
    have HBQ := Lib.hid (bq_up hbq (show 200 ≤ 400 by omega))
    have HB1 := Lib.hid hb1
    clear ho hcs hb1
    go_wp2_with fail
    refine (iCurveTwice_c a1 c1 L W1 (by omega) HBQ.out HC.out).mono ?_
    rintro e W2 ⟨rfl, hb2⟩
    have HC2 := Lib.hid (HC.out.keep hb2)
    have HB2 := Lib.hid (Blw.after HB1.out hb2)
    clear hb2
    rcases Bool.eq_false_or_eq_true (pathZ L) with hp | hp
    · have hV := twV2_t hp
      have hP := pathZ_iff.1 hp
      have hZP := pathP_of hP
      have hzb := val_map_bp HBQ.out
      have hzl : (L.map val).length = L.length := by rw [List.length_map]
      have HEN := Lib.hid (enc_of hP)
      have HS := Lib.hid (fun W (hB : Below W2.heap.size W2 W) => sCurveTwice_c a1 c1 L W (by omega) HBQ.out (HC2.out.keep hB))
      have hlen : 1 ≤ L.length := hP.1
      have htt := tI_in hzb (L.map val).length
      rw [tI_end (by omega)] at htt
      rw [hV]
      rw [hV] at HS
      have HCZ := Lib.hid (show CSl a1 ((L.map val).map encP) W2 from by rw [← HEN.out]; exact HC2.out)
      clear HEN HC HC2 HB1 hp hP hV
      generalize L.map val = Z at *
      have HZP := Lib.hid hZP
      have HZB := Lib.hid hzb
      have HTR := Lib.hid (show twV2 (Z.reverse.map canQ) = .tuple #[.int .i64 (- ttl Z), .bool true] from by rw [twV2_can (pathP_rev hZP), ttl_rev (by omega)])
      have HTM := Lib.hid (show twV2 ((Z.map mir).map canQ) = .tuple #[.int .i64 (- ttl Z), .bool true] from by rw [twV2_can (pathP_mir hZP), ttl_mir (by omega)])
      have t1 : -400000000 ≤ ttl Z := by omega
      have t2 : ttl Z ≤ 400000000 := by omega
      generalize ttl Z = tt at *
      clear hZP hzb htt hbq
      go_wp2_with fail
      refine (HS.out _ (Below.refl _ _)).mono ?_
      rintro e W3 ⟨rfl, hb3⟩
      have HC3 := Lib.hid (HCZ.out.keep hb3)
      have HB3 := Lib.hid (Blw.after HB2.out hb3)
      clear hb3 HCZ HB2 HS
      obtain ⟨g, o, rfl, hg, hcell⟩ := cs_at HC3.out (by omega)
      have HCL := Lib.hid hcell
      obtain ⟨n1, hn1⟩ : ∃ n1, Z.length = n1 + 1 := ⟨Z.length - 1, by omega⟩
      have e1 : ((L.length : Nat) : Int) - 1 = (n1 : Nat) := by omega
      have S0 := Lib.hid (show TwRel Z W3 Z.length (.slice (some ⟨W3.heap.size, 0, none⟩) 0 0) (.slice (some ⟨W3.heap.size + 1, 0, none⟩) 0 0) (.int .i64 (n1 : Nat)) ((W3.alloc (.cells #[] 31)).alloc (.cells #[] 31)) from by
        have s1 : (W3.alloc (.cells #[] 31)).heap.size = W3.heap.size + 1 := alloc_size _ _
        have o1 := World.ownsRow_lit (base := W3.heap.size) (e := 31) (size := 1) W3 #[] 0 (Nat.le_refl _) (by unfold maxLen; omega) rfl
        have o2 := World.ownsRow_lit (base := W3.heap.size) (e := 31) (size := 1) (W3.alloc (.cells #[] 31)) #[] 0 (by omega) (by unfold maxLen; omega) rfl
        rw [s1] at o2
        exact ⟨0, _, _, _, _, by omega, by rw [hn1]; congr 1; omega, rfl, rfl, by omega, o1.alloc _, o2, by (repeat' (first | assumption | exact Below.refl _ _ | apply Blw.alloc | apply Blw.drew | apply Blw.drewN | (refine Blw.after ?_ (by assumption)) | (refine Blw.set ?_ (by first | (dsimp only; omega) | (simp; done) | (simp; omega)) _)))⟩)
      clear hcell hn1
      go_wp2_with fail
      go_loopg [8, 9, 10] Z.length (fun m v u i wr => TwRel Z W3 m v u i wr)
      case atStart => exact S0.out
      case round =>
        clear S0
        obtain ⟨k, gv, cv, gu, cu, hk, rfl, rfl, rfl, hne, hov, hou, hB⟩ := hrel
        have HOV := Lib.hid hov
        have HOU := Lib.hid hou
        have zv := own_lt hov
        have zu := own_lt hou
        have zr := hB.size
        clear hov hou
        by_cases h0 : gk = 0
        · subst h0
          obtain rfl : k = Z.length := by omega
          have hr1 : Z.reverse.take Z.length = Z.reverse := List.take_of_length_le (by rw [List.length_reverse]; omega)
          have hr2 : (Z.map mir).take Z.length = Z.map mir := List.take_of_length_le (by rw [List.length_map]; omega)
          rw [hr1] at HOV
          rw [hr2] at HOU
          obtain ⟨LB, hLB⟩ : ∃ LB, LB = Z.reverse.map canQ := ⟨_, rfl⟩
          obtain ⟨LM, hLM⟩ : ∃ LM, LM = (Z.map mir).map canQ := ⟨_, rfl⟩
          have hlb : LB.length = Z.length := by rw [hLB, List.length_map, List.length_reverse]
          have hlm : LM.length = Z.length := by rw [hLM, List.length_map, List.length_map]
          rw [← hLB] at HTR
          rw [← hLM] at HTM
          have hcb : CSl (some ⟨gv, 0, none⟩) (LB.map encZ) wr := by
            obtain ⟨a', c', e', h', -⟩ := own_csl HOV.out
            simp only [Value.slice.injEq] at e'
            rw [hLB, canQ_map, e'.1]; exact h'
          have hcm : CSl (some ⟨gu, 0, none⟩) (LM.map encZ) wr := by
            obtain ⟨a', c', e', h', -⟩ := own_csl HOU.out
            simp only [Value.slice.injEq] at e'
            rw [hLM, canQ_map, e'.1]; exact h'
          have hbb : ∀ q ∈ LB, Bq 400 q := by rw [hLB]; exact bq_can (rev_bp HZB.out)
          have hbm : ∀ q ∈ LM, Bq 400 q := by rw [hLM]; exact bq_can (mir_bp HZB.out)
          have HX := Lib.hid (iCurveTwice_c (some ⟨gv, 0, none⟩) cv LB wr (by omega) hbb hcb)
          have HY := Lib.hid (fun W (hW : Below wr.heap.size wr W) => iCurveTwice_c (some ⟨gu, 0, none⟩) cu LM W (by omega) hbm (hcm.keep hW))
          rw [HTR.out, hlb, hzl] at HX
          rw [hlm, hzl] at HY
          have HY2 := Lib.hid (fun W hW => HTM.out ▸ HY.out W hW)
          have HB4 := Lib.hid (Blw.after HB3.out hB)
          clear hr1 hr2 hLB hLM hlb hlm hcb hcm hbb hbm HTR HTM HY HOV HOU hB
          go_wp2_with fail
          refine HX.out.mono ?_
          rintro e W5 ⟨rfl, hb5⟩
          have HB5 := Lib.hid hb5
          clear hb5 HX
          go_wp2_with fail
          refine (HY2.out _ HB5.out).mono ?_
          rintro e W6 ⟨rfl, hb6⟩
          have HB6 := Lib.hid (Blw.after HB4.out (Blw.after HB5.out hb6))
          clear hb6 HY2 HB5 HB4
          have n0 : IntKind.i64.wrap (-tt) = -tt := IntWalk.i64_in _ (by omega)
          go_wp2_with fail
          go_ret
          exact ⟨rfl, HB6.out⟩
        · obtain ⟨m, rfl⟩ : ∃ m, gk = m + 1 := ⟨gk - 1, by omega⟩
          have i1 : ((m + 1 : Nat) : Int) - 1 = (m : Int) := by omega
          rw [i1]
          have hm : m < Z.length := by omega
          have hkl : k < Z.length := by omega
          have HTV := Lib.hid (rev_snoc hk)
          have HTU := Lib.hid (mir_snoc hkl)
          have e2 : (n1 : Int) - (m : Int) = (k : Nat) := by omega
          have cM := keepcell hB (HCL.out m hm)
          rw [← zg_get hm] at cM
          have HcK := Lib.hid (show W3.cell? ⟨g, o + k, none⟩ = some (encP (zg Z k)) from by rw [zg_get hkl]; exact HCL.out k hkl)
          have hbz := zg_in HZB.out k
          have f1 := fun w => run_float_arith (P := Try.prog) w .sub 34 .f32 _ _ _ (neg_bits (a := (zg Z k).2) (Nat.le_trans hbz.2 (by omega)))
          change ∀ w, (binOp .sub _ _ (.float .f32 (py (zg Z k)))).run _ w = Result.ok (.float .f32 (py (mir (zg Z k)))) w at f1
          have lm : m < L.length := by omega
          have lk : k < L.length := by omega
          clear hbz i1 h0
          generalize zg Z m = zm at *
          generalize zg Z k = z at *
          go_wp2_with (at_builtin; refine wpList_append_lies _ rfl _ _ 24 rfl W3.heap.size 31 i0 (.complex .f32 0 0) 1 8 Try.underlying24 hi hz0 hz1 hz2 rfl (by decide) _ _ _ rfl (HOV.out.alloc _) ⟨wr.heap.size, 0, none⟩ 1 1 [encP zm] rfl rfl (cells1 _ _ _) (one1 _ rfl) (by omega) (by unfold maxLen; omega) (by omega) (by simp; omega) _ rfl ?_)
          intro gv' cv' W7 hown7 hgrow7 hat7 hlt7
          have z7 : wr.heap.size + 1 ≤ W7.heap.size := by have := hgrow7.size; rw [alloc_size] at this; exact this
          have hB7 : Below W3.heap.size W3 W7 := Below.grown (Blw.alloc hB _) hgrow7 (by rw [alloc_size]; omega) (fun k hk => by have e' : gv = k := (by cases hk; rfl); omega)
          have HOU7 := Lib.hid (own_grown (HOU.out.alloc _) hgrow7 (fun e => by have e' : gu = gv := (by cases e; rfl); omega))
          have hne7 : gv' ≠ gu := by
            rcases hat7 with h | h
            · have e' : gv = gv' := by cases h; rfl
              omega
            · first | omega | (rw [alloc_size] at h; omega)
          have HOV7 := Lib.hid hown7
          have zu7 : gu < W7.heap.size := by omega
          clear hown7 hgrow7 hat7 HOV HOU hB cM
          have cK7 := keepcell hB7 HcK.out
          go_upto_region 14 with fail
          have hd : Below W7.heap.size W7 W7.drew := (Below.refl _ _).drew
          refine wp_region_held_drew (S := fun w' => w'.cell? ⟨g, o + k, none⟩ = some (encP z)) (by kernel_rfl) (keepcell hd cK7) ?_
          intro hS0
          have HOVd := Lib.hid (own_below HOV7.out hd)
          have HOUd := Lib.hid (own_below HOU7.out hd)
          have hBd : Below W3.heap.size W3 W7.drew := Blw.after hB7 hd
          have zd : W3.heap.size ≤ W7.drew.heap.size := hBd.size
          have zd2 : gv' < W7.drew.heap.size := hlt7
          generalize W7.drew = V0 at *
          clear hd cK7 HOV7 HOU7 hB7
          refine wpAnyH_take (i := 0) (v := ?_) rfl (by kernel_rfl) (by kernel_rfl) (by kernel_rfl) (fun _ _ _ h => h) (Or.inl ⟨by rfl, ?_⟩) hS0 ?_
          case refine_1 => exact Value.slice (some ⟨gu, 0, none⟩) k cu
          · intro wq hSw; go_simp
          refine wpAnyH_take (i := 1) (v := ?_) rfl (by kernel_rfl) (by kernel_rfl) (by kernel_rfl) (fun _ _ _ h => h) (Or.inl ⟨by rfl, ?_⟩) hS0 ?_
          case refine_1 => exact Value.slice (some ⟨g, o, none⟩) L.length c1
          · intro wq hSw; go_simp
          refine wpAnyH_take (i := 2) (v := ?_) rfl (by kernel_rfl) (by kernel_rfl) (by kernel_rfl) (fun _ _ _ h => h) (Or.inl ⟨by rfl, ?_⟩) hS0 ?_
          case refine_1 => exact Value.slice (some ⟨g, o, none⟩) L.length c1
          · intro wq hSw; go_simp
          refine wpAnyH_take (i := 3) (v := ?_) rfl (by kernel_rfl) (by kernel_rfl) (by kernel_rfl) (fun _ _ _ h => h) (Or.inl ⟨by rfl, ?_⟩) hS0 ?_
          case refine_1 => exact .int .i64 (L.length : Nat)
          · intro wq hSw; go_simp
          refine wpAnyH_take (i := 4) (v := ?_) rfl (by kernel_rfl) (by kernel_rfl) (by kernel_rfl) (fun _ _ _ h => h) (Or.inl ⟨by rfl, ?_⟩) hS0 ?_
          case refine_1 => exact .int .i64 (n1 : Nat)
          · intro wq hSw; go_simp; exact IntWalk.i64_in _ (by omega)
          refine wpAnyH_take (i := 5) (v := ?_) rfl (by kernel_rfl) (by kernel_rfl) (by kernel_rfl) (fun _ _ _ h => h) (Or.inl ⟨by rfl, ?_⟩) hS0 ?_
          case refine_1 => exact .int .i64 (m : Nat)
          · intro wq hSw; go_simp
          refine wpAnyH_take (i := 6) (v := ?_) rfl (by kernel_rfl) (by kernel_rfl) (by kernel_rfl) (fun _ _ _ h => h) (Or.inl ⟨by rfl, ?_⟩) hS0 ?_
          case refine_1 => exact .int .i64 (k : Nat)
          · intro wq hSw; go_simp; exact IntWalk.i64_in _ (by omega)
          refine wpAnyH_take (i := 7) (v := ?_) rfl (by kernel_rfl) (by kernel_rfl) (by kernel_rfl) (fun _ _ _ h => h) (Or.inl ⟨by rfl, ?_⟩) hS0 ?_
          case refine_1 => exact .pointer (some ⟨g, o + k, none⟩)
          · intro wq hSw; go_simp
          refine wpAnyH_take (i := 8) (v := ?_) rfl (by kernel_rfl) (by kernel_rfl) (by kernel_rfl) (fun _ _ _ h => h) (Or.inl ⟨by rfl, ?_⟩) hS0 ?_
          case refine_1 => exact encP z
          · intro wq hSw; go_simp
          refine wpAnyH_take (i := 9) (v := ?_) rfl (by kernel_rfl) (by kernel_rfl) (by kernel_rfl) (fun _ _ _ h => h) (Or.inl ⟨by rfl, ?_⟩) hS0 ?_
          case refine_1 => exact .float .f32 (px z)
          · intro wq hSw; go_simp
          refine wpAnyH_take (i := 10) (v := ?_) rfl (by kernel_rfl) (by kernel_rfl) (by kernel_rfl) (fun _ _ _ h => h) (Or.inl ⟨by rfl, ?_⟩) hS0 ?_
          case refine_1 => exact Value.slice (some ⟨g, o, none⟩) L.length c1
          · intro wq hSw; go_simp
          refine wpAnyH_take (i := 11) (v := ?_) rfl (by kernel_rfl) (by kernel_rfl) (by kernel_rfl) (fun _ _ _ h => h) (Or.inl ⟨by rfl, ?_⟩) hS0 ?_
          case refine_1 => exact Value.slice (some ⟨g, o, none⟩) L.length c1
          · intro wq hSw; go_simp
          refine wpAnyH_take (i := 12) (v := ?_) rfl (by kernel_rfl) (by kernel_rfl) (by kernel_rfl) (fun _ _ _ h => h) (Or.inl ⟨by rfl, ?_⟩) hS0 ?_
          case refine_1 => exact .int .i64 (L.length : Nat)
          · intro wq hSw; go_simp
          refine wpAnyH_take (i := 13) (v := ?_) rfl (by kernel_rfl) (by kernel_rfl) (by kernel_rfl) (fun _ _ _ h => h) (Or.inl ⟨by rfl, ?_⟩) hS0 ?_
          case refine_1 => exact .int .i64 (n1 : Nat)
          · intro wq hSw; go_simp; exact IntWalk.i64_in _ (by omega)
          refine wpAnyH_take (i := 14) (v := ?_) rfl (by kernel_rfl) (by kernel_rfl) (by kernel_rfl) (fun _ _ _ h => h) (Or.inl ⟨by rfl, ?_⟩) hS0 ?_
          case refine_1 => exact .int .i64 (m : Nat)
          · intro wq hSw; go_simp
          refine wpAnyH_take (i := 15) (v := ?_) rfl (by kernel_rfl) (by kernel_rfl) (by kernel_rfl) (fun _ _ _ h => h) (Or.inl ⟨by rfl, ?_⟩) hS0 ?_
          case refine_1 => exact .int .i64 (k : Nat)
          · intro wq hSw; go_simp; exact IntWalk.i64_in _ (by omega)
          refine wpAnyH_take (i := 16) (v := ?_) rfl (by kernel_rfl) (by kernel_rfl) (by kernel_rfl) (fun _ _ _ h => h) (Or.inl ⟨by rfl, ?_⟩) hS0 ?_
          case refine_1 => exact .pointer (some ⟨g, o + k, none⟩)
          · intro wq hSw; go_simp
          refine wpAnyH_take (i := 17) (v := ?_) rfl (by kernel_rfl) (by kernel_rfl) (by kernel_rfl) (fun _ _ _ h => h) (Or.inl ⟨by rfl, ?_⟩) hS0 ?_
          case refine_1 => exact encP z
          · intro wq hSw; go_simp
          refine wpAnyH_take (i := 18) (v := ?_) rfl (by kernel_rfl) (by kernel_rfl) (by kernel_rfl) (fun _ _ _ h => h) (Or.inl ⟨by rfl, ?_⟩) hS0 ?_
          case refine_1 => exact .float .f32 (py z)
          · intro wq hSw; go_simp
          refine wpAnyH_take (i := 19) (v := ?_) rfl (by kernel_rfl) (by kernel_rfl) (by kernel_rfl) (fun _ _ _ h => h) (Or.inl ⟨by rfl, ?_⟩) hS0 ?_
          case refine_1 => exact .float .f32 (py (mir z))
          · intro wq hSw; go_simp
          refine wpAnyH_take (i := 20) (v := ?_) rfl (by kernel_rfl) (by kernel_rfl) (by kernel_rfl) (fun _ _ _ h => h) (Or.inl ⟨by rfl, ?_⟩) hS0 ?_
          case refine_1 => exact Value.complex .f32 (px z) (py (mir z))
          · intro wq hSw; go_simp
          refine wpAnyH_ready (rs := [21]) (by kernel_rfl) (by simp) ?_
          refine AllReadyH.cons rfl (fun K hK => ?_) AllReadyH.nil
          rw [if_pos ?hw]
          case hw => kernel_rfl
          go_wp2_with fail
          have hS1 : (V0.alloc (.cells #[Value.complex .f32 (px z) (py (mir z))] 31)).cell? ⟨g, o + k, none⟩ = some (encP z) := keepcell ((Below.refl _ _).alloc (Nat.le_refl _) _) hS0
          refine hK.out _ _ hS1 ?_
          clear hK K
          intro _
          refine wpAnyH_ready (rs := [22]) (by kernel_rfl) (by simp) ?_
          refine AllReadyH.cons rfl (fun K hK => ?_) AllReadyH.nil
          rw [if_pos ?hw]
          case hw => kernel_rfl
          refine wp_append_lies _ _ _ 24 rfl W3.heap.size 31 i0 (.complex .f32 0 0) 1 8 Try.underlying24 hi hz0 hz1 hz2 rfl (by decide) _ _ _ rfl (HOUd.out.alloc _) ⟨V0.heap.size, 0, none⟩ 1 1 [encP (mir z)] rfl rfl (cells1 _ _ _) (one1 _ rfl) (by omega) (by unfold maxLen; omega) (by omega) (by simp; omega) _ rfl ?_
          intro gu' cu' W8 hown8 hgrow8 hat8 hlt8
          have hB8 : Below W3.heap.size W3 W8 := Below.grown (Blw.alloc hBd _) hgrow8 (by rw [alloc_size]; omega) (fun k hk => by have e' : gu = k := (by cases hk; rfl); omega)
          have HOV8 := Lib.hid (own_grown (HOVd.out.alloc _) hgrow8 (fun e => by have e' : gv' = gu := (by cases e; rfl); omega))
          have hne8 : gv' ≠ gu' := by
            rcases hat8 with h | h
            · have e' : gu = gu' := by cases h; rfl
              omega
            · first | omega | (rw [alloc_size] at h; omega)
          have hS8 : W8.cell? ⟨g, o + k, none⟩ = some (encP z) := hgrow8.cell hS1 (fun e => by have e' : g = gu := (by cases e; rfl); omega)
          have HOU8 := Lib.hid hown8
          clear hown8 hgrow8 hat8 hlt8 HOVd HOUd hBd
          refine hK.out _ _ hS8 ?_
          clear hK K
          intro _
          refine wpAnyH_ready (rs := [23]) (by kernel_rfl) (by simp) ?_
          refine AllReadyH.cons rfl (fun K hK => ?_) AllReadyH.nil
          rw [if_pos ?hw]
          case hw => kernel_rfl
          go_simp
          refine hK.out _ _ hS8 ?_
          clear hK K
          intro _
          refine wpAnyH_done (by kernel_rfl) ?_ _
          go_wp2_with fail
          go_roundg m
          case measure => omega
          case rel => exact ⟨k + 1, gv', cv', gu', cu', by omega, by go_num, rfl, rfl, hne8, by rw [HTV.out]; first | exact HOV8.out | (rw [List.map_take, List.map_reverse]; exact HOV8.out), by rw [HTU.out]; first | exact HOU8.out | (rw [List.map_take]; exact HOU8.out) | (rw [List.map_take, List.map_map]; exact HOU8.out), hB8⟩
    · have hV := twV2_f hp
      rw [hV]
      go_wp2_with fail
      refine (sCurveTwice_c a1 c1 L W2 (by omega) HBQ.out HC2.out).mono ?_
      rintro e W3 ⟨rfl, hb3⟩
      rw [hV]
      have HB3 := Lib.hid (Blw.after HB2.out hb3)
      go_wp2_with fail
      go_ret
      exact ⟨rfl, HB3.out⟩

namespace lawFnTwice
set_option maxRecDepth 100000 in
theorem lifted (os : Os) (started : os.Started) (H : Type) (enc : TypeId × Value → H) :
    ReturnsInHanded {} Try.checked os 10 .any (Rows.fnTwiceSpec.pre6 enc Try.prog Try.f10 Rows.fnTwiceRow.domain false) (Rows.fnTwiceSpec.post enc Try.prog Try.f10 false true false false) := by
  refine returnsInHanded_of_change (C := Try.checked) own started (by kernel_rfl) Try.func10
    (ChangeSpec.witness6 (enc := enc) (C := Try.checked) false ⟨#[], #[.slice none 0 0], []⟩ 8 (by kernel_rfl) (by kernel_rfl) (by kernel_rfl) (by kernel_rfl)) ?_
  intro W base args ds gs before hval0 hW _ _
  have hval : ∀ (j : Nat) t v, Try.f10.params[j]? = some t → args[j]? = some v → Value.okWide Try.prog W .any base t v := hval0
  have hW' := hW
  obtain ⟨p, q, hA0, hV, rfl, _, _⟩ := hW
  have hA : DataW.TrodAll enc Try.prog W 0 (fun _ => true) true Try.f10.params.toList args.toList ds p := hA0
  rw [Try.params10] at hA hval
  obtain ⟨v0, vs0, d0, ds0, p0, q0, hargs, rfl, rfl, h0, r0⟩ := trodAll_cons hA
  obtain ⟨rfl, rfl, rfl⟩ := trodAll_nil r0
  obtain rfl : args = #[v0] := by cases args; simp_all
  obtain ⟨rfl, rfl⟩ := trodVars_none hV
  obtain ⟨a, len, cap, rfl⟩ := okWide_slice Try.underlying22 (hval 0 22 v0 rfl rfl)
  clear hA0 hval0
  simp only [List.append_nil] at hW'
  have hlt : ∀ x ∈ p0, x.block < W.heap.size := fun x hx => by simpa using hW'.lt x hx
  refine (lawTwice_c a len cap W (code_of h0)).mono fun e W' ⟨he, hg⟩ => ?_
  subst he
  have harg := Below.trod laidOut (by kernel_rfl) (of_decide_eq_true (by kernel_rfl)) h0 hg hlt
  refine ⟨_, rfl, _, _, _, [], p0, [], hW', ?_, ?_, ?_, hg.frame _, fun h => by cases h⟩
  · exact trodAll_cons_mk (shut_bool Try.underlying4 _) trodAll_mk0
  · exact trodAll_mk1 harg
  · rfl

theorem proved : Rows.FnTwiceSaid :=
  OpenClaim.holds_of_wide 10 Try.f10 rfl rfl rfl rfl rfl rfl rfl ⟨rfl, rfl, rfl, rfl, rfl⟩ rfl rfl rfl rfl rfl (by kernel_rfl) Try.func10 (by kernel_rfl)
    (of_decide_eq_true (by kernel_rfl)) (by unfold Func.isWrapper; first | (rw [if_pos (by decide +kernel)]; kernel_rfl) | (rw [if_neg (by decide +kernel)]; exact ⟨rfl, rfl⟩))
    (fun os started H enc _ => lifted os started H enc)
end lawFnTwice
end Go.Proofs.Ytljmmmkehieboaa

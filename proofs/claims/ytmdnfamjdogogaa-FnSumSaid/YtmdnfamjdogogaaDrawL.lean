/- What the laws of chapter 5 draw: lists of points. No law is stated here. -/
import Derived.Test.YtmdnfamjdogogaaDrawK
namespace Go.Proofs.Ytmdnfamjdogogaa
set_option linter.unusedSimpArgs false
set_option linter.unusedVariables false
open Go.RowKit Ieee

def MvRel (L : List (Int × Int)) (d : Int × Int) (rb : Nat) (sv : Value) (p : Int) (g c : Nat) (w : World) (m : Nat) (i : Value) (wr : World) : Prop :=
  ∃ k : Nat, k + m = L.length ∧ i = .int .i64 k ∧ wr.ownsRow w.heap.size 27 1 (.slice (some ⟨g, 0, none⟩) L.length c) L.length ((mvL L d k).map encP) ∧ Rd rb sv p wr ∧ Moved rb w wr
theorem own_some {w : World} {B n : Nat} {v : Value} {l : List Value} (h : w.ownsRow B 27 1 v n l) (hn : 0 < n) : ∃ g c, v = .slice (some ⟨g, 0, none⟩) n c ∧ B ≤ g ∧ g < w.heap.size := by
  rcases h.2 with ⟨rfl, h0⟩ | ⟨g, cap, cur, rfl, hg, hgg, -⟩
  · omega
  · exact ⟨g, cap, rfl, hg, (Array.getElem?_eq_some_iff.1 hgg).1⟩
theorem own_can {w : World} {B n : Nat} {v : Value} {L : List (Int × Int)} (h : w.ownsRow B 27 1 v n (L.map encP)) : w.ownsRow B 27 1 v (L.map canQ).length ((L.map canQ).map encZ) := by
  have hl := h.1
  rw [List.length_map, Nat.mul_one] at hl
  rw [canQ_map, List.length_map, hl]; exact h
theorem moved_grown {rb : Nat} {w w1 w2 : World} {row : Option Nat} (h : Moved rb w w1) (hg : w1.grownBy w2 row) (hr : ∀ k, row = some k → w.heap.size ≤ k) : Moved rb w w2 :=
  ⟨Nat.le_trans h.1 hg.size, fun b o hb hn => (World.cell?_of_block (w := w1) (a := ⟨b, o, none⟩) (hg.block b (Nat.lt_of_lt_of_le hb h.1) (fun e => by have := hr b e.symm; omega))).trans (h.2.1 b o hb hn),
    fun b o hb hn => (World.frozen?_of_block (w := w1) (a := ⟨b, o, none⟩) (hg.block b (Nat.lt_of_lt_of_le hb h.1) (fun e => by have := hr b e.symm; omega))).trans (h.2.2.1 b o hb hn),
    fun W0 h0 hr0 => Below.grown (h.2.2.2 W0 h0 hr0) hg (h.2.2.2 W0 h0 hr0).size (fun k hk => Nat.le_trans h0.size (hr k hk))⟩
theorem rd_grown {rb : Nat} {sv : Value} {p : Int} {w w' : World} {row : Option Nat} (h : Rd rb sv p w) (hg : w.grownBy w' row) (hr : some rb ≠ row) : Rd rb sv p w' := by
  obtain ⟨c0, c1, f0, f1⟩ := h
  have hl := World.block_lt_of_cell? w _ c0
  have hb := hg.block rb hl hr
  exact ⟨(World.cell?_of_block (w := w) (a := ⟨rb, 0, none⟩) hb).trans c0, (World.cell?_of_block (w := w) (a := ⟨rb, 1, none⟩) hb).trans c1, (World.frozen?_of_block (w := w) (a := ⟨rb, 0, none⟩) hb).trans f0, (World.frozen?_of_block (w := w) (a := ⟨rb, 1, none⟩) hb).trans f1⟩
theorem neg_run (w : World) : (Op.unary UnOp.neg (.float .f32 0)).run Try.prog w = .ok (.float .f32 2147483648) w := by
  simp [Op.unary, neg_zero32]
theorem bp_up {L : List (Int × Int)} {B C : Nat} (h : ∀ z ∈ L, Bp B z) (hBC : B ≤ C) : ∀ z ∈ L, Bp C z := fun z hz => ⟨Nat.le_trans (h z hz).1 hBC, Nat.le_trans (h z hz).2 hBC⟩
theorem bp_one {z d : Int × Int} {B C : Nat} (h : Bp B z) (hd : Bp 10 d) (hC : B + 10 ≤ C) : ∀ y ∈ [addP z d], Bp C y := by
  intro y hy
  rw [List.mem_singleton] at hy
  subst hy
  unfold Bp addP at *
  dsimp only
  omega
theorem bp10 {d : Int × Int} (h1 : d.1.natAbs ≤ 10) (h2 : d.2.natAbs ≤ 10) : Bp 10 d := ⟨h1, h2⟩
set_option maxRecDepth 100000 in
set_option maxHeartbeats 8000000 in
theorem l92Path_c (rb : Nat) (sv : Value) (p : Int) (w : World) (hs : Src sv rb w) (h : Rd rb sv p w) (hp : 0 ≤ p ∧ p ≤ 100) :
    Calls Try.prog 11 #[.pointer (some ⟨rb, 0, none⟩)] w (PathDr rb sv p w) := by
  obtain ⟨i0, hi, hz0, hz1, hz2⟩ := info_parts infoC
  have hrb : rb < w.heap.size := World.block_lt_of_cell? w _ h.1
  have HS := Lib.hid hs
  have fin : ∀ (v : Value) (L : List SZ) (w' : World) (p' : Int), w'.ownsRow w.heap.size 27 1 v L.length (L.map encZ) → L.length ≤ 70 → (∀ q ∈ L, Bq 200 q) → p ≤ p' → p' ≤ p + 400 → Rd rb sv p' w' → Moved rb w w' → PathDr rb sv p w (.returned v) w' :=
    fun v L w' p' h1 h2 h3 h4 h5 h6 h7 => ⟨v, L, p', rfl, h1, h2, h3, h4, h5, h6, HS.out.moved h7, h7⟩
  have FIN := Lib.hid fin
  clear fin
  go_enter Try.func11, Try.ntmps11
  go_wp2_with fail
  refine (l92Word_s rb sv p 5 w hs h ⟨by omega, by omega⟩ (by omega)).mono ?_
  rintro e W1 ⟨v', p1, ⟨t, rfl, ht⟩, rfl, q0, q1, h1, hs1, m1⟩
  have hsz := twV_short t ht
  rw [show (2 : Nat) ^ (5 + 1) = 64 by decide] at hsz
  clear hs h
  go_wp2_with fail
  refine (sTurnWord_c t W1).mono ?_
  rintro e W2 ⟨rfl, hb2⟩
  have H2 := Lib.hid (h1.keep hb2)
  have M2 := Lib.hid (m1.below hb2)
  clear h1 hs1 hb2 m1
  obtain ⟨T, hT⟩ : ∃ T, T = selW (wdB 10 t) (turnsL (toL t)) := ⟨_, rfl⟩
  have hT2 : T.size ≤ 63 := by rw [hT]; omega
  rw [show twV t = .tuple #[.string T, .bool (wdB 10 t)] by rw [hT]]
  clear hsz ht hT
  generalize wdB 10 t = ok at *
  go_upto_region 2 with fail
  go_cut [18] (fun s18 wx => ∃ (b : Bool) (p' : Int), s18 = .bool b ∧ p ≤ p' ∧ p' ≤ p + 111 ∧ Rd rb sv p' wx ∧ Moved rb w wx)
  case first =>
    go_wp2_with fail
    refine (pick_d rb sv p1 3 W2 (HS.out.moved M2.out) H2.out ⟨by omega, by omega⟩ ⟨by omega, by omega⟩).mono ?_
    rintro e W3 ⟨v, p2, ⟨k, rfl, k0, k1⟩, rfl, r0, r1, h3, hs3, m3⟩
    go_wp2_with fail
    go_meet
    exact ⟨_, p2, rfl, by omega, by omega, h3, M2.out.trans m3⟩
  case rest =>
  clear H2 M2
  obtain ⟨b, p2, rfl, r0, r1, h3, m3⟩ := hcut
  have H3 := Lib.hid h3
  have M3 := Lib.hid m3
  clear h3 m3
  have fin : ∀ (v : Value) (L : List (Int × Int)) (w' : World) (p' : Int), w'.ownsRow w.heap.size 27 1 v L.length (L.map encP) → L.length ≤ 70 → (∀ z ∈ L, Bp 200 z) → p ≤ p' → p' ≤ p + 400 → Rd rb sv p' w' → Moved rb w w' → PathDr rb sv p w (.returned v) w' :=
    fun v L w' p' h1 h2 h3 h4 h5 h6 h7 => FIN.out v (L.map canQ) w' p' (own_can h1) (by rw [List.length_map]; exact h2) (can_in h3 (Nat.le_refl _)) h4 h5 h6 h7
  have FINP := Lib.hid fin
  clear fin
  rcases b with _ | _
  case' false =>
    generalize hTT : T = t' at *
    generalize p2 = p3 at *
    clear hTT
    have r2 : p3 ≤ p + 230 := by omega
    go_upto_region 4 with fail
  case' true =>
    go_wp2_with fail
    refine (l92Word_s rb sv p2 12 _ (HS.out.moved M3.out) H3.out ⟨by omega, by omega⟩ (by omega)).mono ?_
    rintro e W4 ⟨v', p3, ⟨t', rfl, ht'⟩, rfl, y0, y1, h4, hs4, m4⟩
    replace hT2 : t'.size ≤ 63 := by omega
    replace r0 : p ≤ p3 := by omega
    have r2 : p3 ≤ p + 230 := by omega
    have M4 := Lib.hid (M3.out.trans m4)
    clear H3 M3
    have H3 := Lib.hid h4
    have M3 := Lib.hid M4.out
    clear M4 h4 m4 hs4 ht' y0 y1
    go_upto_region 4 with fail
  all_goals
    go_wp2_with fail
    refine (sCurveOf_c t' _).mono ?_
    rintro e W5 ⟨v0, rfl, ho, hb5⟩
    have H5 := Lib.hid (H3.out.keep hb5)
    have M5 := Lib.hid (M3.out.below hb5)
    have HO := Lib.hid (ownsRow_low M3.out.1 ho)
    have z5 : w.heap.size ≤ W5.heap.size := M5.out.1
    clear H3 M3 ho hb5
    rcases Bool.eq_false_or_eq_true (wdB 1023 t') with hw | hw
    · have hlen : (crvA t').length = t'.size + 2 := crvA_len hw
      have hin : ∀ z ∈ crvA t', Bp 64 z := fun z hz => by
        rw [crvA_t hw] at hz
        have := crvL_in _ z hz
        rw [toL_len] at this
        unfold Bp; omega
      generalize crvA t' = L at *
      have hL : L.length ≤ 65 := by omega
      have hL2 : 2 ≤ L.length := by omega
      obtain ⟨g, cp, rfl, hg, hgw⟩ := own_some HO.out (by omega)
      clear hT2 hlen
      have HIN := Lib.hid hin
      clear hin
      go_wp2_with fail
      refine (pick_h rb sv p3 16 W5 (HS.out.moved M5.out) H5.out ⟨by omega, by omega⟩ ⟨by omega, by omega⟩).mono ?_
      rintro e W6 ⟨⟨v, p4, ⟨k, rfl, k0, k1⟩, rfl, s0, s1, h6, hs6, m6⟩, hbl⟩
      have H6 := Lib.hid h6
      have M6 := Lib.hid (M5.out.trans m6)
      have HO6 := Lib.hid (own_pick HO.out hrb hbl)
      have z6 : g < W6.heap.size := Nat.lt_of_lt_of_le hgw m6.1
      have z7 : w.heap.size ≤ W6.heap.size := M6.out.1
      clear h6 hs6 m6 hbl H5 M5 HO
      by_cases e0 : k = 0
      · subst e0
        go_wp2_with fail
        go_ret
        exact FINP.out _ [] _ p4 (World.ownsRow_lit W6 #[] 0 z7 (by unfold maxLen; omega) rfl) (by simp) (by simp) (by omega) (by omega) (H6.out.keep (by (first | ((repeat' with_reducible first | assumption | exact Below.refl _ _ | apply Blw.alloc | apply Blw.drew | apply Blw.drewN | (refine Blw.after ?_ (by assumption)) | (refine Blw.set ?_ (by first | (dsimp only; omega) | (simp; omega)) _)); done) | (repeat' (first | assumption | exact Below.refl _ _ | apply Blw.alloc | apply Blw.drew | apply Blw.drewN | (refine Blw.after ?_ (by assumption)) | (refine Blw.set ?_ (by first | (dsimp only; omega) | (simp; done) | (simp; omega)) _)))))) (M6.out.below (by (first | ((repeat' with_reducible first | assumption | exact Below.refl _ _ | apply Blw.alloc | apply Blw.drew | apply Blw.drewN | (refine Blw.after ?_ (by assumption)) | (refine Blw.set ?_ (by first | (dsimp only; omega) | (simp; omega)) _)); done) | (repeat' (first | assumption | exact Below.refl _ _ | apply Blw.alloc | apply Blw.drew | apply Blw.drewN | (refine Blw.after ?_ (by assumption)) | (refine Blw.set ?_ (by first | (dsimp only; omega) | (simp; done) | (simp; omega)) _))))))
      · by_cases e1 : k = 1
        · subst e1
          have f1 := neg_run
          have f2 := fun w => run_float_arith (P := Try.prog) w .mul 38 .f32 _ _ _ nz_one
          go_wp2_with (at_builtin; refine wpList_append_own _ rfl _ _ 23 rfl w.heap.size 27 i0 (.complex .f32 0 0) 1 8 Try.underlying23 hi hz0 hz1 hz2 rfl (by decide) _ _ _ rfl (HO6.out.alloc _) ⟨W6.heap.size, 0, none⟩ 1 1 [_] rfl rfl (cells1 _ _ _) (one1 _ rfl) (by unfold maxLen; omega) (by omega) (by simp; omega) ?_)
          intro v' W7 hown' hgrow _
          have M7 : Moved rb w W7 := moved_grown (M6.out.alloc _) hgrow (fun k hk => by have e' : g = k := (by cases hk; rfl); omega)
          have R7 : Rd rb sv p4 W7 := rd_grown (H6.out.keep ((Below.refl _ _).alloc (Nat.le_refl _) _)) hgrow (fun e => by have e' : rb = g := (by cases e; rfl); omega)
          have HO7 := Lib.hid hown'
          clear hgrow hown' HO6 H6 M6
          go_wp2_with fail
          go_ret
          exact FIN.out _ (L.map canQ ++ [((true, 0), (false, 1))]) W7 p4 (by
            rw [List.map_append, canQ_map, List.map_singleton, enc_nz, List.length_append, List.length_map]; exact HO7.out) (by simp; omega) (fun q hq => by
            rcases List.mem_append.1 hq with hq | hq
            · exact can_in HIN.out (by omega) q hq
            · rw [List.mem_singleton] at hq; subst hq; unfold Bq; decide) (by omega) (by omega) R7 M7
        · obtain ⟨N1, hN1⟩ : ∃ N1, L.length = N1 + 1 := ⟨L.length - 1, by omega⟩
          have n1 : ((L.length : Nat) : Int) - 1 = (N1 : Nat) := by omega
          have lN : N1 < L.length := by omega
          clear hN1
          have cN : W6.cell? ⟨g, N1, none⟩ = some (encP L[N1]) := by
            rw [HO6.out.cellAt N1 (by omega), List.getElem?_map, List.getElem?_eq_getElem lN]; rfl
          have hbz := HIN.out L[N1] (List.getElem_mem lN)
          by_cases e2 : k = 2
          · subst e2
            generalize L[N1] = z at *
            have f1 := fun w t => run_padd (P := Try.prog) w t (p := z) (q := (2, 0)) ⟨Nat.le_trans hbz.1 (by omega), Nat.le_trans hbz.2 (by omega)⟩ (by unfold Sm; decide)
            rw [enc20] at f1
            have HBZ := Lib.hid hbz
            clear hbz
            go_wp2_with (at_builtin; refine wpList_append_own _ rfl _ _ 23 rfl w.heap.size 27 i0 (.complex .f32 0 0) 1 8 Try.underlying23 hi hz0 hz1 hz2 rfl (by decide) _ _ _ rfl (HO6.out.alloc _) ⟨W6.heap.size, 0, none⟩ 1 1 [encP (addP z (2, 0))] rfl rfl (cells1 _ _ _) (one1 _ rfl) (by unfold maxLen; omega) (by omega) (by simp; omega) ?_)
            intro v' W7 hown' hgrow _
            have M7 : Moved rb w W7 := moved_grown (M6.out.alloc _) hgrow (fun k hk => by have e' : g = k := (by cases hk; rfl); omega)
            have R7 : Rd rb sv p4 W7 := rd_grown (H6.out.keep ((Below.refl _ _).alloc (Nat.le_refl _) _)) hgrow (fun e => by have e' : rb = g := (by cases e; rfl); omega)
            have HO7 := Lib.hid hown'
            clear hgrow hown' HO6 H6 M6
            go_wp2_with fail
            go_ret
            exact FINP.out _ (L ++ [addP z (2, 0)]) W7 p4 (by rw [List.map_append, List.length_append]; exact HO7.out) (by simp; omega) (bp_app (bp_up HIN.out (by omega)) (bp_one HBZ.out (by unfold Bp; decide) (by omega))) (by omega) (by omega) R7 M7
          · by_cases e3 : k = 3
            · subst e3
              generalize L[N1] = z at *
              have f1 := fun w t => run_padd (P := Try.prog) w t (p := z) (q := (2, 0)) ⟨Nat.le_trans hbz.1 (by omega), Nat.le_trans hbz.2 (by omega)⟩ (by unfold Sm; decide)
              have f2 := fun w t => run_padd (P := Try.prog) w t (p := z) (q := (1, 0)) ⟨Nat.le_trans hbz.1 (by omega), Nat.le_trans hbz.2 (by omega)⟩ (by unfold Sm; decide)
              rw [enc20] at f1
              rw [enc10] at f2
              have HBZ := Lib.hid hbz
              clear hbz
              go_upto_region 17 with fail
              have hd : Below W6.heap.size W6 W6.drew := (Below.refl _ _).drew
              refine wp_region_held_drew (S := fun w' => w'.cell? ⟨g, N1, none⟩ = some (encP z)) (by kernel_rfl) (keepcell hd cN) ?_
              intro hS0
              have HOd := Lib.hid (own_below HO6.out hd)
              have Hd := Lib.hid (H6.out.keep hd)
              have Md := Lib.hid (M6.out.below hd)
              have zd : g < W6.drew.heap.size := z6
              have zw : w.heap.size ≤ W6.drew.heap.size := z7
              generalize W6.drew = V0 at *
              clear hd cN HO6 H6 M6
              refine wpAnyH_take (i := 0) (v := ?_) rfl (by kernel_rfl) (by kernel_rfl) (by kernel_rfl) (fun _ _ _ h => h) (Or.inl ⟨by rfl, ?_⟩) hS0 ?_
              case refine_1 => exact Value.slice (some ⟨g, 0, none⟩) L.length cp
              · intro w hSw; go_simp
              refine wpAnyH_take (i := 1) (v := ?_) rfl (by kernel_rfl) (by kernel_rfl) (by kernel_rfl) (fun _ _ _ h => h) (Or.inl ⟨by rfl, ?_⟩) hS0 ?_
              case refine_1 => exact Value.slice (some ⟨g, 0, none⟩) L.length cp
              · intro w hSw; go_simp
              refine wpAnyH_take (i := 2) (v := ?_) rfl (by kernel_rfl) (by kernel_rfl) (by kernel_rfl) (fun _ _ _ h => h) (Or.inl ⟨by rfl, ?_⟩) hS0 ?_
              case refine_1 => exact .int .i64 (L.length : Nat)
              · intro w hSw; go_simp
              refine wpAnyH_take (i := 3) (v := ?_) rfl (by kernel_rfl) (by kernel_rfl) (by kernel_rfl) (fun _ _ _ h => h) (Or.inl ⟨by rfl, ?_⟩) hS0 ?_
              case refine_1 => exact .int .i64 (N1 : Nat)
              · intro w hSw; go_simp; exact IntWalk.i64_in _ (by omega)
              refine wpAnyH_take (i := 4) (v := ?_) rfl (by kernel_rfl) (by kernel_rfl) (by kernel_rfl) (fun _ _ _ h => h) (Or.inl ⟨by rfl, ?_⟩) hS0 ?_
              case refine_1 => exact .pointer (some ⟨g, N1, none⟩)
              · intro w hSw; go_simp
              refine wpAnyH_take (i := 5) (v := ?_) rfl (by kernel_rfl) (by kernel_rfl) (by kernel_rfl) (fun _ _ _ h => h) (Or.inl ⟨by rfl, ?_⟩) hS0 ?_
              case refine_1 => exact encP z
              · intro w hSw; go_simp
              refine wpAnyH_take (i := 6) (v := ?_) rfl (by kernel_rfl) (by kernel_rfl) (by kernel_rfl) (fun _ _ _ h => h) (Or.inl ⟨by rfl, ?_⟩) hS0 ?_
              case refine_1 => exact encP (addP z (1, 0))
              · intro w hSw; go_simp
              refine wpAnyH_take (i := 7) (v := ?_) rfl (by kernel_rfl) (by kernel_rfl) (by kernel_rfl) (fun _ _ _ h => h) (Or.inl ⟨by rfl, ?_⟩) hS0 ?_
              case refine_1 => exact Value.slice (some ⟨g, 0, none⟩) L.length cp
              · intro w hSw; go_simp
              refine wpAnyH_take (i := 8) (v := ?_) rfl (by kernel_rfl) (by kernel_rfl) (by kernel_rfl) (fun _ _ _ h => h) (Or.inl ⟨by rfl, ?_⟩) hS0 ?_
              case refine_1 => exact .int .i64 (L.length : Nat)
              · intro w hSw; go_simp
              refine wpAnyH_take (i := 9) (v := ?_) rfl (by kernel_rfl) (by kernel_rfl) (by kernel_rfl) (fun _ _ _ h => h) (Or.inl ⟨by rfl, ?_⟩) hS0 ?_
              case refine_1 => exact .int .i64 (N1 : Nat)
              · intro w hSw; go_simp; exact IntWalk.i64_in _ (by omega)
              refine wpAnyH_take (i := 10) (v := ?_) rfl (by kernel_rfl) (by kernel_rfl) (by kernel_rfl) (fun _ _ _ h => h) (Or.inl ⟨by rfl, ?_⟩) hS0 ?_
              case refine_1 => exact .pointer (some ⟨g, N1, none⟩)
              · intro w hSw; go_simp
              refine wpAnyH_take (i := 11) (v := ?_) rfl (by kernel_rfl) (by kernel_rfl) (by kernel_rfl) (fun _ _ _ h => h) (Or.inl ⟨by rfl, ?_⟩) hS0 ?_
              case refine_1 => exact encP z
              · intro w hSw; go_simp
              refine wpAnyH_take (i := 12) (v := ?_) rfl (by kernel_rfl) (by kernel_rfl) (by kernel_rfl) (fun _ _ _ h => h) (Or.inl ⟨by rfl, ?_⟩) hS0 ?_
              case refine_1 => exact encP (addP z (2, 0))
              · intro w hSw; go_simp
              refine wpAnyH_ready (rs := [13]) (by kernel_rfl) (by simp) ?_
              refine AllReadyH.cons rfl (fun K hK => ?_) AllReadyH.nil
              rw [if_pos ?hw]
              case hw => kernel_rfl
              go_wp2_with fail
              refine hK.out _ _ (keepcell ((Below.refl _ _).alloc (Nat.le_refl _) _) hS0) ?_
              clear hK K
              intro _
              refine wpAnyH_ready (rs := [14]) (by kernel_rfl) (by simp) ?_
              refine AllReadyH.cons rfl (fun K hK => ?_) AllReadyH.nil
              rw [if_pos ?hw]
              case hw => kernel_rfl
              refine wp_append_keep _ _ 23 rfl w.heap.size 27 i0 (.complex .f32 0 0) 8 Try.underlying23 hi hz0 hz1 hz2 rfl g L.length cp (L.map encP) rfl (HOd.out.alloc _) (by omega) ⟨V0.heap.size, 0, none⟩ 2 2 [encP (addP z (1, 0)), encP (addP z (2, 0))] rfl rfl (cells2c _ _ _ _) (one2c _ _ rfl rfl) (by omega) (by unfold maxLen; omega) (by omega) (by simp; omega) ?_
              intro v' W7 hown' hgrow hkeep
              have M7 : Moved rb w W7 := moved_grown (Md.out.alloc _) hgrow (fun k hk => by have e' : g = k := (by cases hk; rfl); omega)
              have R7 : Rd rb sv p4 W7 := rd_grown (Hd.out.keep ((Below.refl _ _).alloc (Nat.le_refl _) _)) hgrow (fun e => by have e' : rb = g := (by cases e; rfl); omega)
              have HO7 := Lib.hid hown'
              have hS7 : W7.cell? ⟨g, N1, none⟩ = some (encP z) := (hkeep N1 lN).trans (keepcell ((Below.refl _ _).alloc (Nat.le_refl _) _) hS0)
              clear hgrow hown' hkeep HOd Hd Md
              refine hK.out _ _ hS7 ?_
              clear hK K
              intro _
              refine wpAnyH_ready (rs := [15]) (by kernel_rfl) (by simp) ?_
              refine AllReadyH.cons rfl (fun K hK => ?_) AllReadyH.nil
              rw [if_pos ?hw]
              case hw => kernel_rfl
              go_simp
              refine hK.out _ _ hS7 ?_
              clear hK K
              intro _
              refine wpAnyH_done (by kernel_rfl) ?_ _
              go_wp2_with fail
              go_ret
              exact FINP.out _ (L ++ [addP z (1, 0), addP z (2, 0)]) W7 p4 (by rw [List.map_append, List.length_append]; exact HO7.out) (by simp; omega) (bp_app (bp_up HIN.out (by omega)) (fun q hq => by
                simp only [List.mem_cons, List.not_mem_nil, or_false] at hq
                rcases hq with rfl | rfl
                · exact bp_one HBZ.out (d := (1, 0)) (by unfold Bp; decide) (by omega) _ (by simp)
                · exact bp_one HBZ.out (d := (2, 0)) (by unfold Bp; decide) (by omega) _ (by simp))) (by omega) (by omega) R7 M7
            · by_cases e4 : k = 4
              · subst e4
                obtain ⟨N2, hN2⟩ : ∃ N2, L.length = N2 + 2 := ⟨L.length - 2, by omega⟩
                have n2 : ((L.length : Nat) : Int) - 2 = (N2 : Nat) := by omega
                have lN2 : N2 < L.length := by omega
                clear hN2
                have cN2 : W6.cell? ⟨g, N2, none⟩ = some (encP L[N2]) := by
                  rw [HO6.out.cellAt N2 (by omega), List.getElem?_map, List.getElem?_eq_getElem lN2]; rfl
                have HBZ := Lib.hid (HIN.out L[N2] (List.getElem_mem lN2))
                generalize L[N2] = y at *
                go_wp2_with (at_builtin; refine wpList_append_own _ rfl _ _ 23 rfl w.heap.size 27 i0 (.complex .f32 0 0) 1 8 Try.underlying23 hi hz0 hz1 hz2 rfl (by decide) _ _ _ rfl (HO6.out.alloc _) ⟨W6.heap.size, 0, none⟩ 1 1 [encP y] rfl rfl (cells1 _ _ _) (one1 _ rfl) (by unfold maxLen; omega) (by omega) (by simp; omega) ?_)
                intro v' W7 hown' hgrow _
                have M7 : Moved rb w W7 := moved_grown (M6.out.alloc _) hgrow (fun k hk => by have e' : g = k := (by cases hk; rfl); omega)
                have R7 : Rd rb sv p4 W7 := rd_grown (H6.out.keep ((Below.refl _ _).alloc (Nat.le_refl _) _)) hgrow (fun e => by have e' : rb = g := (by cases e; rfl); omega)
                have HO7 := Lib.hid hown'
                clear hgrow hown' HO6 H6 M6
                go_wp2_with fail
                go_ret
                exact FINP.out _ (L ++ [y]) W7 p4 (by rw [List.map_append, List.length_append]; exact HO7.out) (by simp; omega) (bp_app (bp_up HIN.out (by omega)) (fun q hq => by rw [List.mem_singleton] at hq; subst hq; exact ⟨Nat.le_trans HBZ.out.1 (by omega), Nat.le_trans HBZ.out.2 (by omega)⟩)) (by omega) (by omega) R7 M7
              · have h7 : ∃ a7 : Int, ((L.length : Nat) : Int).tmod 7 = a7 ∧ 0 ≤ a7 ∧ a7 ≤ 6 := ⟨_, rfl, by rw [Int.tmod_eq_emod_of_nonneg (by omega)]; omega, by rw [Int.tmod_eq_emod_of_nonneg (by omega)]; omega⟩
                have h5 : ∃ a5 : Int, ((L.length : Nat) : Int).tmod 5 = a5 ∧ 0 ≤ a5 ∧ a5 ≤ 4 := ⟨_, rfl, by rw [Int.tmod_eq_emod_of_nonneg (by omega)]; omega, by rw [Int.tmod_eq_emod_of_nonneg (by omega)]; omega⟩
                obtain ⟨a7, e7, l7, u7⟩ := h7
                obtain ⟨a5, e5, l5, u5⟩ := h5
                clear cN hbz n1 lN
                have x0 : (k == 0) = false := by simp [e0]
                have x1 : (k == 1) = false := by simp [e1]
                have x2 : (k == 2) = false := by simp [e2]
                have x3 : (k == 3) = false := by simp [e3]
                have x4 : (k == 4) = false := by simp [e4]
                clear e0 e1 e2 e3 e4
                have S0 := Lib.hid (show MvRel L (a7 - 3, a5 - 2) rb sv p4 g cp w L.length (.int .i64 0) W6 from ⟨0, by omega, rfl, by rw [mvL_zero]; exact HO6.out, H6.out, M6.out⟩)
                clear HO6 H6 M6
                go_wp2_with fail
                go_loopg [9] L.length (fun m i wr => MvRel L (a7 - 3, a5 - 2) rb sv p4 g cp w m i wr)
                case atStart => exact S0.out
                case round =>
                  clear S0
                  obtain ⟨j, hj, rfl, hown, hrd, hmv⟩ := hrel
                  have HO := Lib.hid hown
                  have HR := Lib.hid hrd
                  have HM := Lib.hid hmv
                  have zr : w.heap.size ≤ wr.heap.size := hmv.1
                  clear hown hrd hmv
                  by_cases hlt : j < L.length
                  · have cV : wr.cell? ⟨g, j, none⟩ = some (encP L[j]) := by
                      rw [HO.out.cellAt j (by omega), List.getElem?_map, mvL_get L _ hlt]; rfl
                    have fV : wr.frozen? ⟨g, j, none⟩ = false := HO.out.frozenAt j
                    have hbz := HIN.out L[j] (List.getElem_mem hlt)
                    have f1 := fun w t => run_padd (P := Try.prog) w t (p := L[j]) (q := (a7 - 3, a5 - 2)) ⟨Nat.le_trans hbz.1 (by omega), Nat.le_trans hbz.2 (by omega)⟩ (by unfold Sm; dsimp only; omega)
                    change ∀ w t, (binOp .add t _ (.complex .f32 (floatOfInt .f32 (a7 - 3)) (floatOfInt .f32 (a5 - 2)))).run _ w = _ at f1
                    have fs := fun W a x y m => run_store Try.prog W a (.complex .f32 x y) m rfl
                    have HST := Lib.hid (HO.out.stored j (encP (addP (a7 - 3, a5 - 2) L[j]))).1
                    have HSL := Lib.hid (mvL_set L (a7 - 3, a5 - 2) hlt)
                    have HCM := Lib.hid (show addP L[j] (a7 - 3, a5 - 2) = addP (a7 - 3, a5 - 2) L[j] from Prod.ext (Int.add_comm _ _) (Int.add_comm _ _))
                    have hge : (⟨g, j, none⟩ : Addr).block ≠ rb := by show g ≠ rb; omega
                    have HR2 := Lib.hid (HR.out.set (a := ⟨g, j, none⟩) hge (encP (addP (a7 - 3, a5 - 2) L[j])))
                    have HM2 := Lib.hid (HM.out.set (a := ⟨g, j, none⟩) hg hrb (encP (addP (a7 - 3, a5 - 2) L[j])))
                    rw [HCM.out] at f1
                    clear hbz HCM HO HR HM
                    generalize addP (a7 - 3, a5 - 2) L[j] = z' at *
                    generalize L[j] = z at *
                    go_wp2_with fail
                    go_roundg (gk - 1)
                    case measure => omega
                    case rel => exact ⟨j + 1, by omega, by go_num, by rw [← HSL.out, List.map_set]; exact HST.out, HR2.out, HM2.out⟩
                  · obtain rfl : j = L.length := by omega
                    have HLN := Lib.hid (mvL_len L (a7 - 3, a5 - 2) (Nat.le_refl _))
                    go_wp2_with fail
                    go_ret
                    exact FINP.out _ (mvL L (a7 - 3, a5 - 2) L.length) wr p4 (by rw [HLN.out]; exact HO.out) (by rw [HLN.out]; omega) (bp_up (mvL_in HIN.out (show Bp 10 (a7 - 3, a5 - 2) by unfold Bp; dsimp only; omega)) (by omega)) (by omega) (by omega) HR.out HM.out
    · have hA := crvA_f hw
      have hlen : (crvA t').length = 0 := by rw [hA]; rfl
      generalize crvA t' = L at *
      obtain ⟨a0, c0, rfl, -, -⟩ := own_csl HO.out
      rw [List.length_map]
      clear HO hA
      go_wp2_with fail
      go_ret
      exact FINP.out _ [(0, 0), (1, 0), (1, 1)] _ p3 (by
        rw [show [((0 : Int), (0 : Int)), (1, 0), (1, 1)].map encP = [.complex .f32 0 0, .complex .f32 1065353216 0, .complex .f32 1065353216 1065353216] by
          rw [List.map_cons, List.map_cons, List.map_cons, List.map_nil, enc00, enc10, enc11]]
        exact World.ownsRow_lit W5 #[.complex .f32 0 0, .complex .f32 1065353216 0, .complex .f32 1065353216 1065353216] 3 z5 (by unfold maxLen; omega) rfl) (by simp) (by
        intro z hz
        simp only [List.mem_cons, List.not_mem_nil, or_false] at hz
        rcases hz with rfl | rfl | rfl <;> (unfold Bp; decide)) (by omega) (by omega) (H5.out.keep (by (first | ((repeat' with_reducible first | assumption | exact Below.refl _ _ | apply Blw.alloc | apply Blw.drew | apply Blw.drewN | (refine Blw.after ?_ (by assumption)) | (refine Blw.set ?_ (by first | (dsimp only; omega) | (simp; omega)) _)); done) | (repeat' (first | assumption | exact Below.refl _ _ | apply Blw.alloc | apply Blw.drew | apply Blw.drewN | (refine Blw.after ?_ (by assumption)) | (refine Blw.set ?_ (by first | (dsimp only; omega) | (simp; done) | (simp; omega)) _)))))) (M5.out.below (by (first | ((repeat' with_reducible first | assumption | exact Below.refl _ _ | apply Blw.alloc | apply Blw.drew | apply Blw.drewN | (refine Blw.after ?_ (by assumption)) | (refine Blw.set ?_ (by first | (dsimp only; omega) | (simp; omega)) _)); done) | (repeat' (first | assumption | exact Below.refl _ _ | apply Blw.alloc | apply Blw.drew | apply Blw.drewN | (refine Blw.after ?_ (by assumption)) | (refine Blw.set ?_ (by first | (dsimp only; omega) | (simp; done) | (simp; omega)) _))))))
end Go.Proofs.Ytmdnfamjdogogaa

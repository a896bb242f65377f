/- Chapter 4, the program's side: TurnFold. No law is stated here. -/
import Derived.Test.YtljmmmkehieboaaDoorWd
import Derived.Test.YtljmmmkehieboaaDoorWf
import Derived.Sort.QuietTacIn
namespace Go.Proofs.YtljmmmkehieboaaDoor
set_option linter.unusedSimpArgs false
set_option linter.unusedVariables false
open Go.RowKit Go.Shelf

attribute [local go_sem] Oper.semAt_some

theorem wpQuietIn_wide {n : Nat} {P : Program} {ops : Array Oper} {C : World → Prop} {Q : Act → Prop} {a : Act} {o : Oper} {rest : List Oper}
    (h : ∀ K : Act → Prop, (∀ a, wpQuietIn Fence.wide n P ops C Q rest a → K a) → if Region.wanted o (yielded ops a.tmps) then o.quietIn Fence.wide n P a C K else K (a.put o.dst undef)) : wpQuietIn Fence.wide n P ops C Q (o :: rest) a :=
  wpQuietIn_step (fun _ _ _ _ => trivial) h
theorem boxed_below {w w' : World} {B : Nat} {t : TypeId} {v : Value} (h : Boxed w B t v) (hb : Below w.heap.size w w') : Boxed w' B t v := (hb.block B h.lt).trans h
theorem fold_len {s : ByteArray} {k : Nat} (h1 : s.size < 2 ^ k) (h0 : k = 0 ∨ 2 ^ (k - 1) ≤ s.size) {cs : List UInt8} (h : turnsL cs = toL s) : cs.length = k := by
  have hl := turnsL_len cs
  rw [h, toL_len] at hl
  have e1 : cs.length ≤ k := by
    have : 2 ^ cs.length ≤ 2 ^ k := by omega
    exact (Nat.pow_le_pow_iff_right (by omega)).1 this
  rcases h0 with rfl | h0
  · omega
  · have : 2 ^ (k - 1) < 2 ^ cs.length := by omega
    have := (Nat.pow_lt_pow_iff_right (by omega : 1 < 2)).1 this
    omega
theorem fold_only {s : ByteArray} {k : Nat} (hw : ∀ c ∈ toL s, wdC c = true) (h1 : s.size < 2 ^ k) (h0 : k = 0 ∨ 2 ^ (k - 1) ≤ s.size) {cs : List UInt8} (h : turnsL cs = toL s) : cs = powL (toL s) k := by
  have hl := fold_len h1 h0 h
  have hwc := turnsL_wd_of cs (by rw [h]; exact hw)
  rw [← h, ← hl, powL_turns hwc]
theorem powL_wd {s : ByteArray} {k : Nat} (hw : ∀ c ∈ toL s, wdC c = true) (h0 : k = 0 ∨ 2 ^ (k - 1) ≤ s.size) : ∀ c ∈ powL (toL s) k, wdC c = true := by
  intro c hc
  simp only [powL, List.mem_map, List.mem_range] at hc
  obtain ⟨j, hj, rfl⟩ := hc
  have h2 : 2 ^ j ≤ 2 ^ (k - 1) := Nat.pow_le_pow_right (by omega) (by omega)
  have hp := two_pos j
  have hlt : 2 ^ j - 1 < (toL s).length := by rw [toL_len]; omega
  rw [List.getElem?_eq_getElem hlt]
  exact hw _ (by simp)
def IFoRel (s : ByteArray) (w : World) (lv iv : Value) (wr : World) : Prop :=
  ∃ k : Nat, iv = .int .i64 ((2 ^ k : Nat) : Int) ∧ wr.ownsRow (w.heap.size + 1 + 1 + 1) 5 1 lv k ((powL (toL s) k).map encB) ∧ k ≤ 10 ∧ (k = 0 ∨ 2 ^ (k - 1) ≤ s.size) ∧ Below w.heap.size w wr ∧
    Boxed wr w.heap.size 9 (.string s) ∧ Boxed wr (w.heap.size + 1) 9 (.string ⟨#[]⟩) ∧ Boxed wr (w.heap.size + 1 + 1) 4 (.bool false)
set_option maxRecDepth 100000 in
set_option maxHeartbeats 4000000 in
theorem iTurnFold_c (s : ByteArray) (w : World) (hT : Tz w) : Calls Tryd.prog 12 #[.string s] w fun e w' => e = .returned (foldV s) ∧ Below w.heap.size w w' := by
  have h6 := hT.pos
  rcases Bool.eq_false_or_eq_true (wdB 1023 s) with h | h
  · have HW := Lib.hid h
    have HT := Lib.hid hT
    have hsz := wdB_len h
    obtain ⟨i0, hi, hz0, hz1, hz2⟩ := info_parts infoB
    clear hT
    refine (callsIn_wide (n := 6)).1 ?_
    refine callsIn_of_wp_marks Tryd.func12 rfl trivial ?_ rfl
    simp only [Tryd.ntmps12, List.size_toArray, List.length_cons, List.length_nil, Nat.reduceAdd, Nat.reduceSub, Array.replicate_succ, Array.replicate_zero, List.push_toArray, List.append_toArray, List.nil_append, List.cons_append]
    gi_wp2_with (first | (refine ⟨trivial, ?_⟩; gi_at_call 23; refine (callsIn_wide.2 (isWord_c _ _)).mono ?_; rintro e w1 ⟨rfl, hb⟩))
    obtain ⟨W0, hW0⟩ : ∃ W0, ((w.alloc (.cells #[.string s] 9)).alloc (.cells #[.string ⟨#[]⟩] 9)).alloc (.cells #[.bool false] 4) = W0 := ⟨_, rfl⟩
    rw [hW0] at hb
    have q0 : Boxed W0 w.heap.size 9 (.string s) := by rw [← hW0]; exact ((Boxed.new w _ _).alloc _).alloc _
    have q1 : Boxed W0 (w.heap.size + 1) 9 (.string ⟨#[]⟩) := by
      have h := Boxed.new (w.alloc (.cells #[.string s] 9)) 9 (.string ⟨#[]⟩)
      rw [World.size_alloc] at h
      rw [← hW0]; exact h.alloc _
    have q2 : Boxed W0 (w.heap.size + 1 + 1) 4 (.bool false) := by
      have h := Boxed.new ((w.alloc (.cells #[.string s] 9)).alloc (.cells #[.string ⟨#[]⟩] 9)) 4 (.bool false)
      rw [World.size_alloc, World.size_alloc] at h
      rw [← hW0]; exact h
    have hB0 : Below w.heap.size w W0 := by rw [← hW0]; exact (((Below.refl _ w).alloc (Nat.le_refl _) _).alloc (by simp) _).alloc (by simp; omega) _
    have hBw := hB0.trans (hb.mono hB0.size)
    have S0 := Lib.hid (show IFoRel s w (.slice none 0 0) (.int .i64 1) w1 from ⟨0, rfl, World.ownsRow_nil _ _ _ _, by omega, Or.inl rfl, hBw, boxed_below q0 hb, boxed_below q1 hb, boxed_below q2 hb⟩)
    clear q0 q1 q2 hW0 hB0 hb hBw h
    gi_loopw [4, 5] (fun lv iv wr => IFoRel s w lv iv wr) (fun _ iv _ => 3000 - (intOf iv).toNat)
    case atStart => exact S0.out
    case round =>
      clear S0
      obtain ⟨k, rfl, hown, hk10, hk0, hB, b0, b1, b2⟩ := hrel
      have c0 := b0.cell
      have HO := Lib.hid hown
      have L2 := b2.lt
      clear hown
      by_cases hle : 2 ^ k ≤ s.size
      · have hk9 : k < 10 := by
          rcases Nat.lt_or_ge k 10 with h | h
          · exact h
          · exfalso
            obtain rfl : k = 10 := by omega
            have : (2 : Nat) ^ 10 = 1024 := by decide
            omega
        have hQ1 := two_pos k
        have hlt : 2 ^ k - 1 < s.size := by omega
        have HP := Lib.hid (show powL (toL s) (k + 1) = powL (toL s) k ++ [s[2 ^ k - 1]] by rw [powL_succ, toL_get s _ hlt]; rfl)
        have HQ := Lib.hid (show ((2 ^ (k + 1) : Nat) : Int) = ((2 ^ k : Nat) : Int) * 2 by rw [Nat.pow_succ]; push_cast; rfl)
        have HK := Lib.hid (show k + 1 = 0 ∨ 2 ^ (k + 1 - 1) ≤ s.size from Or.inr hle)
        have e1 : (((2 ^ k : Nat) : Int) - 1).toNat = 2 ^ k - 1 := by omega
        clear hk0
        generalize hQ : 2 ^ k = Q at *
        clear hQ
        gi_wp2_with (gi_at_builtin; refine wpListIn_append_own _ rfl _ _ 22 rfl (w.heap.size + 1 + 1 + 1) 5 i0 (.int .u8 0) 1 1 Tryd.underlying22 hi hz0 hz1 hz2 rfl (by decide) _ _ _ rfl (HO.out.alloc _) ⟨wr.heap.size, 0, none⟩ 1 1 [encB s[Q - 1]] rfl rfl (cells1 _ _ _) (one1 _ rfl) (by unfold maxLen; omega) (by omega) (by simp; omega) ?_; intro v' W3 hown' hgrow' _)
        go_roundw
        case rel =>
          refine ⟨k + 1, by rw [HQ.out], ?_, by omega, HK.out, ?_, (b0.alloc _).kept hgrow' (own_ne HO.out (by omega)), (b1.alloc _).kept hgrow' (own_ne HO.out (by omega)), (b2.alloc _).kept hgrow' (own_ne HO.out (by omega))⟩
          · rw [HP.out, List.map_append]; exact hown'
          · exact Below.grown (hB.alloc hB.size _) hgrow' (by have := hB.size; simp; omega) (fun j hj => by have := (HO.out.lt j hj).1; omega)
        case measure => simp [intOf]; omega
      · have hcv := conv_row HO.out
        have hwa := wdB_all HW.out
        have hC : (bs (powL (toL s) k)).size = k := by rw [bsz, powL_len]
        have hlt2 : s.size < 2 ^ k := by omega
        have hCw : wdB 10 (bs (powL (toL s) k)) = true := by
          rw [wdB_of (by rw [hC]; exact hk10)]
          exact onlyW_good (by rw [toL_bs]; exact powL_wd hwa hk0)
        have HCw := Lib.hid hCw
        have HON := Lib.hid (fun cs => fold_only (cs := cs) hwa hlt2 hk0)
        have HLN := Lib.hid (fun cs => fold_len (cs := cs) hlt2 hk0)
        have HCC := Lib.hid (show ∀ w, Calls Tryd.prog 21 #[.string (bs (powL (toL s) k))] w fun e w' => e = .returned (.int .i64 ((2 ^ k - 1 : Nat) : Int)) ∧ w' = w from fun w => by
          have h := count_c (bs (powL (toL s) k)) w (by omega)
          rw [hC] at h
          exact h.mono fun e w' ⟨x, y⟩ => ⟨x, y.symm⟩)
        have hP2 : 2 ^ k ≤ 1024 := (shl_one hk10).2.2
        generalize hN : 2 ^ k - 1 = N at *
        have hN2 : N ≤ 1023 := by omega
        have hQ0 := two_pos k
        generalize hQ : 2 ^ k = Q at *
        have hle2 : s.size < Q := by omega
        by_cases hNs : N = s.size
        · have hcmp : ((N : Int) != (s.size : Int)) = false := by simp; omega
          have HQQ := Lib.hid hQ
          have HNN := Lib.hid hN
          have hCN := Lib.hid (show 2 ^ (bs (powL (toL s) k)).size - 1 = N by rw [hC, hQ, hN])
          have HNs := Lib.hid hNs
          have HCL := Lib.hid (show toL (bs (powL (toL s) k)) = powL (toL s) k from toL_bs _)
          clear hN hle hlt2 hk0 hCw hwa hC hQ hNs
          generalize bs (powL (toL s) k) = C at *
          gi_wp2
          refine wpIn_region_quiet_lit rfl (by kernel_rfl) (by kernel_rfl) ?_
          repeat
            (with_reducible refine wpQuietIn_wide ?_
             intro K hK
             go_simp
             first
               | (refine hK _ ?_; clear hK K)
               | (apply Exists.intro
                  refine ⟨fun _ => ?_, hK _ ?_⟩
                  (gi_at_call 21; refine CallsIn.quiet_of_same (callsIn_wide.2 (HCC.out _)))
                  clear hK K))
          with_reducible refine wpQuietIn_nil ?_
          intro _ hw'
          obtain ⟨nq, hw''⟩ := hw'
          subst hw''
          gi_wp2_with (first | (refine ⟨trivial, ?_⟩; gi_at_call 22; refine (callsIn_wide.2 (turns_c _ _)).mono ?_; rintro e w2 ⟨rfl, rfl⟩))
          have L3 : wr.heap.size = (wr.drewN nq).heap.size := rfl
          have hBq : Below wr.heap.size wr (wr.drewN nq) := Blw.drewN _ (Below.refl _ _)
          have d0 := boxed_below b0 hBq
          have d1 := boxed_below b1 hBq
          have d2 := boxed_below b2 hBq
          have hBw : Below w.heap.size w (wr.drewN nq) := Blw.drewN _ hB
          generalize wr.drewN nq = W3 at *
          rw [L3]
          have bN := Boxed.new W3 9 (.string C)
          have hB3 : Below w.heap.size w (W3.alloc (.cells #[.string C] 9)) := hBw.alloc hBw.size _
          have HT3 := HT.out.keep h6 hB3
          have hst := letters_stops (α := { x : Nat // x < N }) (·.1) (6 - 1) W3.heap.size w.heap.size (by omega) C (fun k h => ⟨k, by rw [← hCN.out]; exact h⟩) (fun _ _ => rfl) HCw.out (W3.alloc (.cells #[.string C] 9)) (by simp) h6 (by have := hBw.size; simp; omega) bN.cell HT3
          rw [hCN.out] at hst
          refine wpIn_rangeFunc_ownG rfl (by omega) (gf := 36) (lb := #[.pointer (some ⟨W3.heap.size, 0, none⟩)]) rfl trivial (enters_of Tryd.func36 (by kernel_rfl) rfl)
            hst KpL.trans (KpL.put (by have := hBw.size; simp; omega) (by simp)) (Below.refl _ _) (fun _ => rfl)
            (fun pre W => (((((∀ x ∈ pre, ltC (toL C) x.1 = (toL s)[x.1]?.getD 0) ∧ Boxed W w.heap.size 9 (.string s)) ∧ Boxed W (w.heap.size + 1) 9 (.string ⟨#[]⟩)) ∧ Boxed W (w.heap.size + 1 + 1) 4 (.bool false)) ∧ Below w.heap.size w W))
            (fun c pre W => (((c = .ret ∧ ∃ x ∈ pre, ltC (toL C) x.1 ≠ (toL s)[x.1]?.getD 0) ∧ Boxed W (w.heap.size + 1) 9 (.string ⟨#[]⟩)) ∧ Boxed W (w.heap.size + 1 + 1) 4 (.bool false)) ∧ Below w.heap.size w W)
            (OwnFrom.and (OwnFrom.and (OwnFrom.and (OwnFrom.and (ownFrom_pure _ _) (Own.from (boxed_own w.heap.size 9 (fun _ => .string s)) _)) (Own.from (boxed_own (w.heap.size + 1) 9 (fun _ => .string ⟨#[]⟩)) _)) (Own.from (boxed_own (w.heap.size + 1 + 1) 4 (fun _ => .bool false)) _)) (ownFrom_below (Nat.le_refl _) (by have := hBw.size; simp; omega)))
            (fun c => OwnFrom.and (OwnFrom.and (OwnFrom.and (ownFrom_pure _ _) (Own.from (boxed_own (w.heap.size + 1) 9 (fun _ => .string ⟨#[]⟩)) _)) (Own.from (boxed_own (w.heap.size + 1 + 1) 4 (fun _ => .bool false)) _)) (ownFrom_below (Nat.le_refl _) (by have := hBw.size; simp; omega)))
            ⟨⟨⟨⟨by simp, d0.alloc _⟩, d1.alloc _⟩, d2.alloc _⟩, hB3⟩
            (fun x => { tmps := #[.string s, .pointer (some ⟨w.heap.size, 0, none⟩), .pointer (some ⟨w.heap.size + 1, 0, none⟩), .pointer (some ⟨w.heap.size + 1 + 1, 0, none⟩), u4, .int .i64 Q, .string C, .int .i64 ((x.1 : Int) + 1), .int .u8 ((ltC (toL C) x.1).toNat : Int), .string s, .bool true, .bool false, .int .i64 Q, .string s, .int .i64 s.size, .bool false, u16, u17, u18, u19, u20, u21, u22, u23, u24, u4, .string C, .string C, .int .i64 N, .string s, .int .i64 s.size, .bool false, .string C, .func (.func 36) #[] #[.pointer (some ⟨W3.heap.size, 0, none⟩)], .int .i64 ((x.1 : Int) + 1), .int .u8 ((ltC (toL C) x.1).toNat : Int), undef, undef, undef, undef, undef, undef, undef], defers := [] }) ?assign ?body ?done ?stop
          case assign =>
            intro l x W K hK
            gi_wp2
            exact hK
          case body =>
            rintro l pre x W ⟨⟨⟨⟨hm, e0⟩, e1⟩, e2⟩, hBW⟩ hlt
            have hx : x.1 < s.size := by have := HNs.out; have := x.2; omega
            have g0 := e0.cell
            have g1 := e1.cell
            have g2 := e2.cell
            have k1 := e1.frozen
            have k2 := e2.frozen
            have HGX := Lib.hid (show (toL s)[x.1]?.getD 0 = s[x.1] by rw [toL_get s _ hx]; rfl)
            by_cases he : ltC (toL C) x.1 = s[x.1]
            · have a1 : ((s[x.1].toNat : Int) != ((ltC (toL C) x.1).toNat : Int)) = false := by rw [he]; simp
              have HE := Lib.hid he
              have HM := Lib.hid hm
              clear he hm
              gi_wp2
              refine ⟨KeepsFrom.refl _ _, KpL.refl _ _ _, ⟨⟨⟨fun y hy => ?_, e0⟩, e1⟩, e2⟩, hBW⟩
              rcases List.mem_append.1 hy with hy | hy
              · exact HM.out y hy
              · rw [List.mem_singleton] at hy; rw [hy, HE.out, HGX.out]
            · have a1 : ((s[x.1].toNat : Int) != ((ltC (toL C) x.1).toNat : Int)) = true := by
                simp
                intro e
                exact he (UInt8.toNat_inj.1 (by omega))
              have HE := Lib.hid he
              clear he hm
              gi_wp2
              refine ⟨((KeepsOthers.setCell _ _ _).trans (KeepsOthers.setCell _ _ _)).from _, ⟨⟨⟨rfl, x, by simp, by rw [HGX.out]; exact HE.out⟩, ?_⟩, ?_⟩, by (repeat' (first | assumption | exact Below.refl _ _ | apply Blw.alloc | apply Blw.drew | apply Blw.drewN | (refine Blw.after ?_ (by assumption)) | (refine Blw.set ?_ (by first | (dsimp only; omega) | (simp; done) | (simp; omega)) _)))⟩
              · exact (Boxed.set _ e1).other (by omega) _
              · exact Boxed.set _ (e2.other (by omega) _)
          case done =>
            rintro D ys W hD hys ⟨⟨⟨⟨hm, e0⟩, e1⟩, e2⟩, hBW⟩ hK
            have g1 := e1.cell
            have g2 := e2.cell
            have k1 := e1.frozen
            have k2 := e2.frozen
            have HF := Lib.hid (foldV_some (o := C) HW.out (by
              have hl := turnsL_len (toL C)
              have hc := hCN.out
              rw [toL_len] at hl
              apply List.ext_getElem
              · rw [toL_len, ← HNs.out]; omega
              · intro i h1 h2
                have hiN : i < N := by rw [toL_len, ← HNs.out] at h2; exact h2
                have hi2 : i ∈ ys.map (·.1) := by rw [hys]; exact List.mem_range.2 hiN
                obtain ⟨x, hx, rfl⟩ := List.mem_map.1 hi2
                have := hm x hx
                unfold ltC at this
                rw [List.getElem?_eq_getElem h1, List.getElem?_eq_getElem h2] at this
                exact this))
            clear hm hys
            gi_wp2
            have hK' := ((KeepsOthers.setCell W ⟨w.heap.size + 1, 0, none⟩ (.string C)).trans (KeepsOthers.setCell _ ⟨w.heap.size + 1 + 1, 0, none⟩ (.bool true))).same D _ hK rfl
            refine ⟨by simp, .inl ⟨_, _, rfl, run_takeDeferred hK', ?_⟩⟩
            have m1 := ((Boxed.set (.string C) e1).other (B' := w.heap.size + 1 + 1) (by omega) (.bool true)).cell
            have m2 := (Boxed.set (.bool true) (e2.other (B' := w.heap.size + 1) (by omega) (.string C))).cell
            have n1 := cell_kept m1 (grownBy_putObj' _ D (.deferred none)) (fun r e => by cases e; exact ⟨_, hK', rfl⟩)
            have n2 := cell_kept m2 (grownBy_putObj' _ D (.deferred none)) (fun r e => by cases e; exact ⟨_, hK', rfl⟩)
            have hD2 : w.heap.size ≤ D := by have := hBw.size; simp at hD; omega
            have hBz : Below w.heap.size w ((W.setCell ⟨w.heap.size + 1, 0, none⟩ (.string C)).setCell ⟨w.heap.size + 1 + 1, 0, none⟩ (.bool true)) := by (repeat' (first | assumption | exact Below.refl _ _ | apply Blw.alloc | apply Blw.drew | apply Blw.drewN | (refine Blw.after ?_ (by assumption)) | (refine Blw.set ?_ (by first | (dsimp only; omega) | (simp; done) | (simp; omega)) _)))
            refine ⟨.tuple #[.string C, .bool true], by simp [results, Tryd.results12, go_sem, n1, n2], by rw [HF.out], hBz.trans (belowK_b (w := w) (Nat.le_refl _) _ D _ _ hD2 hK' rfl rfl)⟩
          case stop =>
            rintro D c pre W hD _ ⟨⟨⟨⟨rfl, x, hx, hne⟩, e1⟩, e2⟩, hBW⟩ hK
            have HF := Lib.hid (foldV_none HW.out (fun cs e => by
              have h1 := HON.out cs e
              rw [← HCL.out] at h1
              apply hne
              rw [← e, h1]; rfl))
            gi_wp2
            refine ⟨by simp, .inl ⟨_, _, rfl, run_takeDeferred hK, ?_⟩⟩
            have n1 := cell_kept e1.cell (grownBy_putObj' _ D (.deferred none)) (fun r e => by cases e; exact ⟨_, hK, rfl⟩)
            have n2 := cell_kept e2.cell (grownBy_putObj' _ D (.deferred none)) (fun r e => by cases e; exact ⟨_, hK, rfl⟩)
            have hD2 : w.heap.size ≤ D := by have := hBw.size; simp at hD; omega
            refine ⟨.tuple #[.string ⟨#[]⟩, .bool false], by simp [results, Tryd.results12, go_sem, n1, n2], by rw [HF.out], hBW.trans (belowK_b (w := w) (Nat.le_refl _) _ D _ _ hD2 hK rfl rfl)⟩
        · have HF := Lib.hid (foldV_none HW.out (fun cs e => by
            have h1 := HLN.out cs e
            have h2 := turnsL_len cs
            rw [e, toL_len, h1, hQ] at h2
            omega))
          have f1 := b1.frozen
          have f2 := b2.frozen
          have c1 := b1.cell
          have c2 := b2.cell
          have hcmp : ((N : Int) != (s.size : Int)) = true := by simp; omega
          have HQQ := Lib.hid hQ
          clear hN hle hlt2 hk0 hCw hwa hC hQ
          generalize bs (powL (toL s) k) = C at *
          gi_wp2
          refine wpIn_region_quiet_lit rfl (by kernel_rfl) (by kernel_rfl) ?_
          repeat
            (with_reducible refine wpQuietIn_wide ?_
             intro K hK
             go_simp
             first
               | (refine hK _ ?_; clear hK K)
               | (apply Exists.intro
                  refine ⟨fun _ => ?_, hK _ ?_⟩
                  (gi_at_call 21; refine CallsIn.quiet_of_same (callsIn_wide.2 (HCC.out _)))
                  clear hK K))
          with_reducible refine wpQuietIn_nil ?_
          intro _ hw'
          obtain ⟨nq, hw''⟩ := hw'
          subst hw''
          gi_wp2
          exact ⟨.tuple #[.string ⟨#[]⟩, .bool false], by simp [results, Tryd.results12, go_sem, *], by rw [HF.out], by (repeat' (first | assumption | exact Below.refl _ _ | apply Blw.alloc | apply Blw.drew | apply Blw.drewN | (refine Blw.after ?_ (by assumption)) | (refine Blw.set ?_ (by first | (dsimp only; omega) | (simp; done) | (simp; omega)) _)))⟩
  · have H := Lib.hid (foldV_no h)
    clear hT
    go_enter Tryd.func12, Tryd.ntmps12
    go_wp2_with fail
    generalize hW : World.alloc _ _ = W0
    have q1 : Boxed W0 (w.heap.size + 1) 9 (.string ⟨#[]⟩) := by
      have h := Boxed.new (w.alloc (.cells #[.string s] 9)) 9 (.string ⟨#[]⟩)
      rw [World.size_alloc] at h
      rw [← hW]; exact h.alloc _
    have q2 : Boxed W0 (w.heap.size + 1 + 1) 4 (.bool false) := by
      have h := Boxed.new ((w.alloc (.cells #[.string s] 9)).alloc (.cells #[.string ⟨#[]⟩] 9)) 4 (.bool false)
      rw [World.size_alloc, World.size_alloc] at h
      rw [← hW]; exact h
    have hB0 : Below w.heap.size w W0 := by rw [← hW]; (repeat' (first | assumption | exact Below.refl _ _ | apply Blw.alloc | apply Blw.drew | apply Blw.drewN | (refine Blw.after ?_ (by assumption)) | (refine Blw.set ?_ (by first | (dsimp only; omega) | (simp; done) | (simp; omega)) _)))
    clear hW
    refine (isWord_c s W0).mono ?_
    rintro e w1 ⟨rfl, hb⟩
    have p1 := boxed_below q1 hb
    have p2 := boxed_below q2 hb
    have f1 := p1.frozen
    have f2 := p2.frozen
    have c1 := p1.cell
    have c2 := p2.cell
    have hBw := hB0.trans (hb.mono hB0.size)
    clear q1 q2 hb hB0
    go_wp2_with fail
    exact bodyPost_ret (v := .tuple #[.string ⟨#[]⟩, .bool false]) (by simp [results, Tryd.results12, go_sem, *]) rfl ⟨by rw [H.out], by (repeat' (first | assumption | exact Below.refl _ _ | apply Blw.alloc | apply Blw.drew | apply Blw.drewN | (refine Blw.after ?_ (by assumption)) | (refine Blw.set ?_ (by first | (dsimp only; omega) | (simp; done) | (simp; omega)) _)))⟩
end Go.Proofs.YtljmmmkehieboaaDoor

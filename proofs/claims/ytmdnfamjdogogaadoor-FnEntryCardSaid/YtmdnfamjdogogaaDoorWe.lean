/- Chapter 4, the program's side: TurnWord. No law is stated here. -/
import Derived.Test.YtmdnfamjdogogaaDoorWd
namespace Go.Proofs.YtmdnfamjdogogaaDoor
set_option linter.unusedSimpArgs false
set_option linter.unusedVariables false
open Go.RowKit Go.Shelf

attribute [local go_sem] Oper.semAt_some

/-- the row of the letters that have come -/
def ltR (cs : ByteArray) (pre : List Nat) : List Value := pre.map fun x => encB (ltC (toL cs) x)
theorem ltR_snoc (cs : ByteArray) (pre : List Nat) (x : Nat) : ltR cs (pre ++ [x]) = ltR cs pre ++ [encB (ltC (toL cs) x)] := by simp [ltR]
theorem ltR_all (cs : ByteArray) : ltR cs (List.range (2 ^ cs.size - 1)) = (turnsL (toL cs)).map encB := by
  have := ltC_map (toL cs)
  rw [toL_len] at this
  rw [← this, List.map_map]; rfl
set_option maxRecDepth 100000 in
set_option maxHeartbeats 8000000 in
theorem iTurnWord_c (s : ByteArray) (w : World) (hT : Tz w) : Calls Tryd.prog 37 #[.string s] w fun e w' => e = .returned (twV s) ∧ Below w.heap.size w w' := by
  have h6 := hT.pos
  rcases Bool.eq_false_or_eq_true (wdB 10 s) with h | h
  · have H := Lib.hid (twV_t h)
    have HW := Lib.hid h
    have HT := Lib.hid hT
    have h10 := wdB_len h
    obtain ⟨i0, hi, hz0, hz1, hz2⟩ := info_parts infoB
    have hp2 : 2 ^ s.size ≤ 1024 := (shl_one h10).2.2
    have hp1 := two_pos s.size
    have HR := Lib.hid (ltR_all s)
    clear hT
    refine (callsIn_wide (n := 6)).1 ?_
    refine callsIn_of_wp_marks Tryd.func37 rfl trivial ?_ rfl
    simp only [Tryd.ntmps37, List.size_toArray, List.length_cons, List.length_nil, Nat.reduceAdd, Nat.reduceSub, Array.replicate_succ, Array.replicate_zero, List.push_toArray, List.append_toArray, List.nil_append, List.cons_append]
    gi_wp2_with (first | (refine ⟨trivial, ?_⟩; gi_at_call 51; refine (callsIn_wide.2 (areCreases_c _ _)).mono ?_; rintro e w1 ⟨rfl, hb⟩) | (refine ⟨trivial, ?_⟩; gi_at_call 52; refine (callsIn_wide.2 (count_c s _ h10)).mono ?_; rintro e w' ⟨rfl, rfl⟩))
    generalize hP : 2 ^ s.size - 1 = P at *
    have hP2 : P ≤ 1023 := by omega
    obtain ⟨W1, hrun, hown, hgrow⟩ := run_make_own (P := Tryd.prog) w1 w1.heap.size 25 5 i0 (.int .u8 0) 1 Tryd.underlying25 hi hz0 hz1 .i64 .i64 P (by rw [hz2]; omega) (by unfold maxLen; omega) (Nat.le_refl _)
    rw [hrun]
    gi_wp2_with (first | (refine ⟨trivial, ?_⟩; gi_at_call 53; refine (callsIn_wide.2 (turns_c _ _)).mono ?_; rintro e w2 ⟨rfl, rfl⟩))
    have hs1 := hb.size
    have hg1 := hgrow.size
    have hL1 : w1.heap.size < W1.heap.size := (hown.lt _ rfl).2
    have hBw : Below w.heap.size w W1 := hb.trans (Below.grown (Below.refl _ _) hgrow hs1 (fun k hk => by cases hk))
    have hBw1 : Below w1.heap.size w1 W1 := Below.grown (Below.refl _ _) hgrow (Nat.le_refl _) (fun k hk => by cases hk)
    have bO := Boxed.new W1 25 (.slice (some ⟨w1.heap.size, 0, none⟩) 0 P)
    have bN := Boxed.new (W1.alloc (.cells #[.slice (some ⟨w1.heap.size, 0, none⟩) 0 P] 25)) 9 (.string s)
    rw [World.size_alloc] at bN
    have hB0 : Below w.heap.size w ((W1.alloc (.cells #[.slice (some ⟨w1.heap.size, 0, none⟩) 0 P] 25)).alloc (.cells #[.string s] 9)) := (hBw.alloc (by omega) _).alloc (by simp; omega) _
    have HT0 := HT.out.keep h6 hB0
    have hst := letters_stops (α := Nat) id (6 - 1) (W1.heap.size + 1) w1.heap.size (by omega) s (fun k _ => k) (fun _ _ => rfl) HW.out ((W1.alloc (.cells #[.slice (some ⟨w1.heap.size, 0, none⟩) 0 P] 25)).alloc (.cells #[.string s] 9)) (by simp) (by omega) (by simp; omega) bN.cell HT0
    rw [hP] at hst
    simp only [id_eq, List.map_id_fun, id] at hst
    refine wpIn_rangeFunc_ownG rfl (by omega) (gf := 68) (lb := #[.pointer (some ⟨W1.heap.size + 1, 0, none⟩)]) rfl trivial (enters_of Tryd.func68 (by kernel_rfl) rfl)
      hst KpL.trans (KpL.put (by simp; omega) (by simp)) (Below.refl _ _) (fun _ => rfl)
      (fun pre W => ((∃ v, Boxed W W1.heap.size 25 v ∧ W.ownsRow w1.heap.size 5 1 v pre.length (ltR s pre) ∧ True) ∧ Boxed W (W1.heap.size + 1) 9 (.string s)) ∧ Below w.heap.size w W)
      (fun _ _ _ => False)
      (OwnFrom.and (OwnFrom.and (Own.from (holdsRow_own w1.heap.size W1.heap.size 25 5 1 (fun pre : List Nat => pre.length) (fun pre => ltR s pre) (fun _ _ => True)) _) (Own.from (boxed_own (W1.heap.size + 1) 9 (fun _ => .string s)) _)) (ownFrom_below (Nat.le_refl _) (by simp; omega)))
      (fun _ _ _ _ _ hs _ _ => hs)
      ⟨⟨⟨_, bO.alloc _, (hown.alloc _).alloc _, trivial⟩, bN⟩, hB0⟩
      (fun x => { tmps := #[.string s, undef, .string ⟨#[]⟩, .bool false, .pointer (some ⟨W1.heap.size, 0, none⟩), undef, .int .u8 ((ltC (toL s) x).toNat : Int), .string s, .bool true, .bool false, .string s, .int .i64 P, .slice (some ⟨w1.heap.size, 0, none⟩) 0 P, .string s, .func (.func 68) #[] #[.pointer (some ⟨W1.heap.size + 1, 0, none⟩)], .int .i64 ((x : Int) + 1), .int .u8 ((ltC (toL s) x).toNat : Int), undef, undef, undef, undef, undef, undef], defers := [] }) ?assign ?body ?done ?stop
    case assign =>
      intro l x W K hK
      gi_wp2
      exact hK
    case body =>
      rintro l pre x W ⟨⟨⟨v, hv, hrow, -⟩, hbn⟩, hB⟩ hlt
      have hc := hv.cell
      have hWs := hB.size
      have hvl := hv.lt
      gi_wp2_with (gi_at_builtin; refine wpListIn_append_own _ rfl _ _ 25 rfl w1.heap.size 5 i0 (.int .u8 0) 1 1 Tryd.underlying25 hi hz0 hz1 hz2 rfl (by decide) _ _ _ rfl (hrow.alloc _) ⟨W.heap.size, 0, none⟩ 1 1 [encB (ltC (toL s) x)] rfl rfl (cell_one_new _ _ _) (one1 _ rfl) (by unfold maxLen; omega) (by omega) (by simp; omega) ?_; intro v' w3 hown' hgrow' _; obtain ⟨g', cap', rfl⟩ := ownsRow_succ hown'; obtain ⟨hv1, hv2, hr2, hk2, hb2⟩ := hv.appended (by decide) hrow (by omega) (by omega) hown' hgrow'; have hc1 := hv1.cell; have hf1 := hv1.frozen)
      have hbn3 : Boxed w3 (W1.heap.size + 1) 9 (.string s) := (hbn.alloc _).kept hgrow' (hbn.not_row (by decide) hrow)
      have hbn4 := hbn3.other (B' := W1.heap.size) (by omega) (.slice (some ⟨g', 0, none⟩) (pre.length + 1) cap')
      refine ⟨hk2.from _, ⟨hb2, hbn4.trans hbn.symm⟩, ⟨⟨_, hv2, ?_, trivial⟩, hbn4⟩, hB.trans (hb2.mono (by omega))⟩
      rw [ltR_snoc, List.length_append]
      exact hr2
    case done =>
      rintro D ys W hD rfl ⟨⟨⟨v, hv, hrow, -⟩, hbn⟩, hB⟩ hK
      have hc := hv.cell
      rw [HR.out] at hrow
      have hcv := conv_row hrow
      gi_wp2
      refine ⟨by simp, .inl ⟨_, _, rfl, run_takeDeferred hK, ?_⟩⟩
      refine ⟨_, results_tmp2 rfl _ _ _, by rw [H.out]; rfl, hB.trans (belowK_b (w := w) (Nat.le_refl _) W D _ _ (by simp at hD; omega) hK rfl rfl)⟩
    case stop =>
      rintro D c pre W _ _ h _
      exact h.elim
  · have H := Lib.hid (twV_f h)
    clear hT
    go_enter Tryd.func37, Tryd.ntmps37
    go_wp2_with (first | (go_at_call 51; refine (areCreases_c _ _).mono ?_; rintro e w1 ⟨rfl, hb⟩; obtain ⟨hc, hf⟩ := bcell hb; have hz := bsize hb; have hs := hb.size; try simp at hs))
    go_ret2
    exact ⟨by rw [H.out]; rfl, by (first | ((repeat' with_reducible first | assumption | exact Below.refl _ _ | apply Blw.alloc | apply Blw.drew | apply Blw.drewN | (refine Blw.after ?_ (by assumption)) | (refine Blw.set ?_ (by first | (dsimp only; omega) | (simp; omega)) _)); done) | (repeat' (first | assumption | exact Below.refl _ _ | apply Blw.alloc | apply Blw.drew | apply Blw.drewN | (refine Blw.after ?_ (by assumption)) | (refine Blw.set ?_ (by first | (dsimp only; omega) | (simp; done) | (simp; omega)) _))))⟩
end Go.Proofs.YtmdnfamjdogogaaDoor

/- Chapter 4, the model's side: TurnFold and TurnAt. No law is stated here. -/
import Derived.Test.YtljmmmkehieboaaDoorWc
namespace Go.Proofs.YtljmmmkehieboaaDoor
set_option linter.unusedSimpArgs false
set_option linter.unusedVariables false
open Go.RowKit

/-! ### TurnFold -/
def foldOk (s : ByteArray) : Bool := wdB 1023 s && (foldO (toL s)).isSome
def foldL (s : ByteArray) : List UInt8 := (foldO (toL s)).getD []
abbrev foldV (s : ByteArray) : Value := strV (foldOk s) (foldL s)
theorem foldV_no {s : ByteArray} (h : wdB 1023 s = false) : foldV s = .tuple #[.string ⟨#[]⟩, .bool false] := strV_f (by unfold foldOk; rw [h]; rfl) _
theorem foldV_none {s : ByteArray} (h : wdB 1023 s = true) (h1 : ∀ cs, turnsL cs ≠ toL s) : foldV s = .tuple #[.string ⟨#[]⟩, .bool false] :=
  strV_f (by unfold foldOk; rw [foldO_none (wdB_all h) (fun cs _ => h1 cs)]; simp) _
theorem foldV_some {s o : ByteArray} (h : wdB 1023 s = true) (h1 : turnsL (toL o) = toL s) : foldV s = .tuple #[.string o, .bool true] := by
  have hw := turnsL_wd_of (toL o) (by rw [h1]; exact wdB_all h)
  have e : foldO (toL s) = some (toL o) := by rw [← h1]; exact foldO_some hw
  rw [show foldV s = _ from strV_t (by unfold foldOk; rw [h, e]; rfl) _]
  unfold foldL
  rw [e, Option.getD_some, bs_toL]
def SFoRel (s : ByteArray) (w : World) (m : Nat) (v wv : Value) (wr : World) : Prop :=
  ∃ (t o : ByteArray), v = .string o ∧ wv = .string t ∧ t.size = m ∧ t.size ≤ 1023 ∧ o.size + t.size ≤ 1100 ∧ Half (toL s) (toL t) (toL o) ∧ Below w.heap.size w wr
theorem half_cases (t : ByteArray) : t.size = 0 ∨ t.size ≠ 0 ∧ t.size % 2 = 0 ∨ t.size ≠ 0 ∧ t.size % 2 = 1 := by omega
set_option maxRecDepth 100000 in
set_option maxHeartbeats 2000000 in
theorem sTurnFold_c (s : ByteArray) (w : World) : Calls Tryd.prog 13 #[.string s] w fun e w' => e = .returned (foldV s) ∧ Below w.heap.size w w' := by
  rcases Bool.eq_false_or_eq_true (wdB 1023 s) with h | h
  · have HW := Lib.hid h
    have hsz := wdB_len h
    have S0 := Lib.hid (show SFoRel s w s.size (.string ⟨#[]⟩) (.string s) w from ⟨s, ⟨#[]⟩, rfl, rfl, rfl, hsz, by show 0 + s.size ≤ 1100; omega, Half.start _, Below.refl _ _⟩)
    go_enter Tryd.func13, Tryd.ntmps13
    go_wp2_with (first | (go_at_call 19; refine (l4Word_c _ 1023 _ (by decide)).mono ?_; rintro e w1 ⟨rfl, rfl⟩))
    clear h
    go_loopg [4, 5] s.size (fun m v wv wr => SFoRel s w m v wv wr)
    case atStart => exact S0.out
    case round =>
      clear S0
      obtain ⟨t, o, rfl, rfl, rfl, ht, ho, hH, hB⟩ := hrel
      have HH := Lib.hid hH
      clear hH
      rcases half_cases t with h0 | ⟨h0, h2⟩ | ⟨h0, h2⟩
      · have HE := Lib.hid (foldV_some (o := o) HW.out (by
          have : toL t = [] := List.eq_nil_of_length_eq_zero (by rw [toL_len]; exact h0)
          have h := HH.out
          rw [this] at h
          exact h.done))
        go_wp2
        go_ret2
        exact ⟨by rw [HE.out]; rfl, hB⟩
      · have HE := Lib.hid (foldV_none HW.out (HH.out.bad (by intro e; apply h0; rw [← toL_len, e]; rfl) (Or.inl (by rw [toL_len]; exact h2))))
        have a1 : ((t.size : Int).tmod 2 == 0) = true := by rw [Int.tmod_eq_emod_of_nonneg (by omega)]; simp; omega
        obtain ⟨n, hn⟩ : ∃ n, t.size = 2 * n := ⟨t.size / 2, by omega⟩
        have a2 : (t.size : Int) / 2 = (n : Int) := by omega
        clear h2 hn
        go_upto_region 7 with fail
        have hNE : ∀ w, Nonempty (BelowW w) := BelowW.none
        refine wp_region_below (by kernel_rfl) (by kernel_rfl) ?_
        repeat
          (with_reducible refine wpQuiet_step ?_
           intro K hK
           go_simp
           first
             | (refine hK _ ?_; clear hK K)
             | (apply Exists.intro
                refine ⟨fun xW => ?_, hK _ ?_⟩
                (fail)
                clear hK K))
        with_reducible refine wpQuiet_nil ?_
        rintro _ ⟨⟨w2, hb2⟩, rfl⟩
        try dsimp only
        go_wp2_with fail
        go_ret2
        exact ⟨by rw [HE.out]; rfl, by (repeat' (first | assumption | exact Below.refl _ _ | apply Blw.alloc | apply Blw.drew | apply Blw.drewN | (refine Blw.after ?_ (by assumption)) | (refine Blw.set ?_ (by first | (dsimp only; omega) | (simp; done) | (simp; omega)) _)))⟩
      · obtain ⟨n, hn⟩ : ∃ n, t.size = 2 * n + 1 := ⟨t.size / 2, by omega⟩
        have a1 : ((t.size : Int).tmod 2 == 0) = false := by rw [Int.tmod_eq_emod_of_nonneg (by omega)]; simp; omega
        have a2 : (t.size : Int) / 2 = (n : Int) := by omega
        have hlt : n < t.size := by omega
        have HX := Lib.hid (extract_one t n hlt)
        have z0 : (t.extract 0 n).size = n := by rw [ByteArray.size_extract]; omega
        have z1 : (t.extract n (n + 1)).size = 1 := by rw [← toL_len, HX.out]; rfl
        have HL := Lib.hid (show toL (t.extract 0 n) = (toL t).take n by rw [toL_extract]; simp)
        have HR := Lib.hid (show toL (t.extract (n + 1) t.size) = (toL t).drop (n + 1) by rw [toL_extract, List.take_of_length_le (by rw [toL_len]; exact Nat.le_refl _)])
        have hnl : n ≤ 1023 := by omega
        have hnle : n ≤ t.size := by omega
        obtain ⟨K, hK⟩ : ∃ K, K = n + 1 := ⟨_, rfl⟩
        have q3 : (n : Int) + 1 = (K : Nat) := by omega
        have hKs : K ≤ t.size := by omega
        have hnK : n ≤ K := by omega
        rw [← hK] at z1
        have q0 : IntKind.i64.wrap ((K : Nat) : Int) = (K : Int) := by rw [IntKind.wrap_i64]; omega
        rcases Bool.eq_false_or_eq_true ((t.extract K t.size).toList == (bs (backL (toL (t.extract 0 n)))).toList) with hq | hq
        · have hq' : (toL t).drop (n + 1) = backL ((toL t).take n) := by
            have := eq_of_beq hq
            rw [toList_toL, toList_toL, toL_bs, hK, HR.out, HL.out] at this
            exact this
          have HS := Lib.hid (HH.out.step (n := n) (c := t[n]) (by rw [toL_len]; exact hn) (toL_get t n hlt) hq')
          have HN := Lib.hid (show toL (t.extract n K ++ o) = t[n] :: toL o by rw [toL_app, hK, HX.out]; rfl)
          have z2 : (t.extract n K ++ o).size = 1 + o.size := by rw [ByteArray.size_append, z1]
          have HK := Lib.hid hK
          have HNN := Lib.hid hn
          have hnm : n < t.size := by omega
          clear h2 hq' hK hn
          go_upto_region 7 with fail
          have hNE : ∀ w, Nonempty (BelowW w) := BelowW.none
          refine wp_region_below (by kernel_rfl) (by kernel_rfl) ?_
          repeat
            (with_reducible refine wpQuiet_step ?_
             intro K hK
             go_simp
             first
               | (refine hK _ ?_; clear hK K)
               | (apply Exists.intro
                  refine ⟨fun xW => ?_, hK _ ?_⟩
                  ((go_at_call 30; exact Calls.below (sBack_c _ _ (by omega))))
                  clear hK K))
          with_reducible refine wpQuiet_nil ?_
          rintro _ ⟨⟨w2, hb2⟩, rfl⟩
          try dsimp only
          go_wp2_with fail
          go_roundg n
          case measure => omega
          case rel => exact ⟨t.extract 0 n, t.extract n K ++ o, by rfl, by rfl, z0, by omega, by omega, by rw [HL.out, HN.out]; exact HS.out, by (repeat' (first | assumption | exact Below.refl _ _ | apply Blw.alloc | apply Blw.drew | apply Blw.drewN | (refine Blw.after ?_ (by assumption)) | (refine Blw.set ?_ (by first | (dsimp only; omega) | (simp; done) | (simp; omega)) _)))⟩
        · have hq' : (toL t).drop (n + 1) ≠ backL ((toL t).take n) := by
            intro e
            rw [toList_toL, toList_toL, toL_bs, hK, HR.out, HL.out, e] at hq
            simp at hq
          have HE := Lib.hid (foldV_none HW.out (HH.out.bad (by intro e; apply h0; rw [← toL_len, e]; rfl) (Or.inr (by rw [toL_len, hn, show (2 * n + 1) / 2 = n by omega]; exact hq'))))
          clear h2 hq' hK hn
          go_upto_region 7 with fail
          have hNE : ∀ w, Nonempty (BelowW w) := BelowW.none
          refine wp_region_below (by kernel_rfl) (by kernel_rfl) ?_
          repeat
            (with_reducible refine wpQuiet_step ?_
             intro K hK
             go_simp
             first
               | (refine hK _ ?_; clear hK K)
               | (apply Exists.intro
                  refine ⟨fun xW => ?_, hK _ ?_⟩
                  ((go_at_call 30; exact Calls.below (sBack_c _ _ (by omega))))
                  clear hK K))
          with_reducible refine wpQuiet_nil ?_
          rintro _ ⟨⟨w2, hb2⟩, rfl⟩
          try dsimp only
          go_wp2_with fail
          go_ret2
          exact ⟨by rw [HE.out]; rfl, by (repeat' (first | assumption | exact Below.refl _ _ | apply Blw.alloc | apply Blw.drew | apply Blw.drewN | (refine Blw.after ?_ (by assumption)) | (refine Blw.set ?_ (by first | (dsimp only; omega) | (simp; done) | (simp; omega)) _)))⟩
  · have H := Lib.hid (foldV_no h)
    go_enter Tryd.func13, Tryd.ntmps13
    go_wp2_with (first | (go_at_call 19; refine (l4Word_c _ 1023 _ (by decide)).mono ?_; rintro e w1 ⟨rfl, rfl⟩))
    go_ret2
    exact ⟨by rw [H.out]; rfl, by (repeat' (first | assumption | exact Below.refl _ _ | apply Blw.alloc | apply Blw.drew | apply Blw.drewN | (refine Blw.after ?_ (by assumption)) | (refine Blw.set ?_ (by first | (dsimp only; omega) | (simp; done) | (simp; omega)) _)))⟩
end Go.Proofs.YtljmmmkehieboaaDoor

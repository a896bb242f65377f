/- Chapter 3: places that change nothing, the program's. -/
import Derived.Test.YtlcafjdinjdllabPlost
import Derived.Test.YtlcafjdinjdllabRep
import Derived.Test.YtlcafjdinjdllabBq
import Derived.Deep.Cut
namespace Go.Proofs.Ytlcafjdinjdllab
set_option linter.unusedSimpArgs false
set_option linter.unusedVariables false
open Go.RowKit

theorem ixT_c (s : ByteArray) (n : Int) (hn : Lib.indexByte s.data.toList 46 = n) (w : World) : Calls Try.prog 49 #[.string s, .int .u8 46] w fun e w' => e = .returned (.int .i64 n) ∧ w = w' := by
  go_enter Try.func49, Try.ntmps49
  go_wp2_with (go_at_call 66; refine (ixS_c _ _ hn _).mono ?_; rintro e w1 ⟨rfl, rfl⟩)
  go_ret
  exact ⟨rfl, rfl⟩
def LiRel (s : ByteArray) (w : World) (m : Nat) (v : Value) (wr : World) : Prop :=
  m ≤ (tlS s).size ∧ v = .int .i64 (m : Nat) ∧ (∀ i, m < i → i ≤ (tlS s).size → noCh s i = false) ∧ Below w.heap.size w wr
set_option maxHeartbeats 4000000 in
theorem iPlacesLost_c (s : ByteArray) (w : World) (hsz : s.size ≤ 1500000) : Calls Try.prog 28 #[.string s] w fun e w' => e = .returned (loV s) ∧ Below w.heap.size w w' := by
  rcases Bool.eq_false_or_eq_true (ptB s) with hp | hp
  · have hc := ptB_cut hp
    obtain ⟨c0, -, -, c3⟩ := cutB_facts hc
    have hP : ∀ w, Calls Try.prog 14 #[.string s] w fun e w' => e = .returned (.tuple #[.complex .f32 (reP s) (imP s), .bool true]) ∧ Below w.heap.size w w' := fun w => by
      have := iPointSingle_c s w (by omega)
      rw [ptV_words, hp] at this
      exact this
    have hX : ∀ w, Calls Try.prog 49 #[.string s, .int .u8 46] w fun e w' => e = .returned (.int .i64 (atP s : Nat)) ∧ w = w' := fun w => ixT_c s _ (by rw [index_dot, if_pos c0]) w
    have H := Lib.hid (loV_yes hp)
    have hts := tlS_size s
    have e0 : (s.size : Int) - 1 - (atP s : Nat) = ((tlS s).size : Nat) := by omega
    have hle : (tlS s).size + 1 ≤ s.size := by omega
    clear hc hp
    go_enter Try.func28, Try.ntmps28
    go_wp2_with (first | (go_at_call 14; refine (hP _).mono ?_; rintro e w1 ⟨rfl, hb⟩; obtain ⟨hc, hf⟩ := bcell hb; have hz := bsize hb; have hs := hb.size; try simp at hs) | (go_at_call 49; refine (hX _).mono ?_; rintro e w1 ⟨rfl, rfl⟩))
    go_loopg [6] (tlS s).size (fun m v wr => LiRel s w m v wr)
    case atStart => exact ⟨Nat.le_refl _, by go_num, fun i h1 h2 => by omega, by (repeat' (first | assumption | exact Below.refl _ _ | apply Blw.alloc | apply Blw.drew | apply Blw.drewN | (refine Blw.after ?_ (by assumption)) | (refine Blw.set ?_ (by first | (dsimp only; omega) | (simp; done) | (simp; omega)) _)))⟩
    case round =>
      obtain ⟨hm, rfl, hno, hBw⟩ := hrel
      have HO := Lib.hid hno
      clear hno
      by_cases hlt : 0 < gk
      · obtain ⟨q, hq⟩ : ∃ q, s.size = q + gk := ⟨s.size - gk, by omega⟩
        have e1 : (s.size : Int) - (gk : Int) = (q : Nat) := by omega
        have e3 : s.extract 0 q ++ zz gk = clr s gk := by unfold clr; rw [show s.size - gk = q by omega]
        have z2 := zz_size gk
        have z3 : (s.extract 0 q).size = q := by rw [ByteArray.size_extract]; omega
        have z4 : (clr s gk).size = s.size := by rw [← e3, ByteArray.size_append, z2, z3]; omega
        have hQ : ∀ w, Calls Try.prog 14 #[.string (clr s gk)] w fun e w' => e = .returned (.tuple #[.complex .f32 (reP (clr s gk)) (imP (clr s gk)), .bool (ptB (clr s gk))]) ∧ Below w.heap.size w w' := fun w => iPointSingle_c _ w (by omega)
        have hq1 : gk ≤ s.size := by omega
        have hq2 : q ≤ s.size := by omega
        have ew : IntKind.i64.wrap ((q : Nat) : Int) = (q : Nat) := IntWalk.i64_in _ (by omega)
        have hs9 : ¬ (9223372036854775807 < q + gk) := by omega
        clear hq
        rcases Bool.eq_false_or_eq_true (noCh s gk) with hn | hn
        · have HN := Lib.hid (show top (noCh s) (tlS s).size = gk from top_eq (.inr hn) _ hm HO.out)
          unfold noCh at hn
          go_upto_region 6 with fail
          have hNE : ∀ w, Nonempty (BelowW w) := BelowW.none
          refine wp_region_below (by kernel_rfl) (by kernel_rfl) ?_
          repeat
            (with_reducible refine wpQuiet_step ?_
             intro K hK
             go_simp
             first
               | (refine hK _ ?_; clear hK K)
               | (apply Exists.intro
                  refine ⟨fun xW => ?_, hK _ ?_⟩
                  (first | (go_at_call 50; exact Calls.below (rep_c gk _ (by omega))) | (go_at_call 14; exact Calls.below (hQ _)))
                  clear hK K))
          with_reducible refine wpQuiet_nil ?_
          rintro _ ⟨⟨w2, hb2⟩, rfl⟩
          try dsimp only
          go_wp2_with fail
          go_ret2
          exact ⟨by rw [H.out]; unfold loN; rw [HN.out]; rfl, by (repeat' (first | assumption | exact Below.refl _ _ | apply Blw.alloc | apply Blw.drew | apply Blw.drewN | (refine Blw.after ?_ (by assumption)) | (refine Blw.set ?_ (by first | (dsimp only; omega) | (simp; done) | (simp; omega)) _)))⟩
        · have HN := Lib.hid (show ∀ i, gk - 1 < i → i ≤ (tlS s).size → noCh s i = false from fun i h1 h2 => by
            rcases Nat.lt_or_ge gk i with c | c
            · exact HO.out i c h2
            · rw [show i = gk by omega]; exact hn)
          unfold noCh at hn
          go_upto_region 6 with fail
          have hNE : ∀ w, Nonempty (BelowW w) := BelowW.none
          refine wp_region_below (by kernel_rfl) (by kernel_rfl) ?_
          repeat
            (with_reducible refine wpQuiet_step ?_
             intro K hK
             go_simp
             first
               | (refine hK _ ?_; clear hK K)
               | (apply Exists.intro
                  refine ⟨fun xW => ?_, hK _ ?_⟩
                  (first | (go_at_call 50; exact Calls.below (rep_c gk _ (by omega))) | (go_at_call 14; exact Calls.below (hQ _)))
                  clear hK K))
          with_reducible refine wpQuiet_nil ?_
          rintro _ ⟨⟨w2, hb2⟩, rfl⟩
          try dsimp only
          go_wp2_with fail
          go_roundg (gk - 1)
          case measure => omega
          case rel => exact ⟨by omega, by go_num, HN.out, by (repeat' (first | assumption | exact Below.refl _ _ | apply Blw.alloc | apply Blw.drew | apply Blw.drewN | (refine Blw.after ?_ (by assumption)) | (refine Blw.set ?_ (by first | (dsimp only; omega) | (simp; done) | (simp; omega)) _)))⟩
      · have hk0 : gk = 0 := by omega
        subst hk0
        have HN := Lib.hid (show top (noCh s) (tlS s).size = 0 from top_eq (.inl rfl) _ (by omega) HO.out)
        go_wp2
        go_ret2
        exact ⟨by rw [H.out]; unfold loN; rw [HN.out]; rfl, by (repeat' (first | assumption | exact Below.refl _ _ | apply Blw.alloc | apply Blw.drew | apply Blw.drewN | (refine Blw.after ?_ (by assumption)) | (refine Blw.set ?_ (by first | (dsimp only; omega) | (simp; done) | (simp; omega)) _)))⟩
  · have hP : ∀ w, Calls Try.prog 14 #[.string s] w fun e w' => e = .returned (.tuple #[.complex .f32 (reP s) (imP s), .bool false]) ∧ Below w.heap.size w w' := fun w => by
      have := iPointSingle_c s w (by omega)
      rw [ptV_words, hp] at this
      exact this
    have H := Lib.hid (loV_no hp)
    go_enter Try.func28, Try.ntmps28
    go_wp2_with (go_at_call 14; refine (hP _).mono ?_; rintro e w1 ⟨rfl, hb⟩; obtain ⟨hc, hf⟩ := bcell hb; have hz := bsize hb; have hs := hb.size; try simp at hs)
    go_ret2
    exact ⟨by rw [H.out]; rfl, by (repeat' (first | assumption | exact Below.refl _ _ | apply Blw.alloc | apply Blw.drew | apply Blw.drewN | (refine Blw.after ?_ (by assumption)) | (refine Blw.set ?_ (by first | (dsimp only; omega) | (simp; done) | (simp; omega)) _)))⟩
end Go.Proofs.Ytlcafjdinjdllab

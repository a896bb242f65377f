/- Chapter 1: products and norms, of both sides. -/
import Derived.Test.YtlcafjdinjdllaaGc
import Derived.Test.YtlcafjdinjdllaaMath
namespace Go.Proofs.Ytlcafjdinjdllaa
set_option linter.unusedSimpArgs false
set_option linter.unusedVariables false
open Go.RowKit

/-- both are small, and so is the product -/
def mulB (x y x' y' : Int) : Bool := inB 1000000 x y && inB 1000000 x' y' && inB 1000000 (x * x' - y * y') (x * y' + y * x')

theorem times_c (x y x' y' : Int) (w : World) (h : in9 x y) (h' : in9 x' y') : Calls Try.prog 48 #[pr x y, pr x' y'] w fun e w' => e = .returned (pr (x * x' - y * y') (x * y' + y * x')) ∧ Below w.heap.size w w' := by
  obtain ⟨h1, h2, h3, h4⟩ := h
  obtain ⟨h5, h6, h7, h8⟩ := h'
  obtain ⟨a1, a2⟩ := mul9 ⟨h1, h2⟩ ⟨h5, h6⟩
  obtain ⟨a3, a4⟩ := mul9 ⟨h3, h4⟩ ⟨h7, h8⟩
  obtain ⟨a5, a6⟩ := mul9 ⟨h1, h2⟩ ⟨h7, h8⟩
  obtain ⟨a7, a8⟩ := mul9 ⟨h3, h4⟩ ⟨h5, h6⟩
  go_enter Try.func48, Try.ntmps48
  go_wp2
  exact bodyPost_ret (v := pr (x * x' - y * y') (x * y' + y * x')) (by simp [results, Try.results48, go_sem]) rfl ⟨rfl, by (repeat' (first | assumption | exact Below.refl _ _ | apply Blw.alloc | apply Blw.drew | apply Blw.drewN | (refine Blw.after ?_ (by assumption)) | (refine Blw.set ?_ (by first | (dsimp only; omega) | (simp; done) | (simp; omega)) _)))⟩

theorem l1Times_c (x y x' y' : Int) (w : World) (h : in9 x y) (h' : in9 x' y') : Calls Try.prog 26 #[pr x y, pr x' y'] w fun e w' => e = .returned (pr (x * x' - y * y') (x * y' + y * x')) ∧ Below w.heap.size w w' := by
  obtain ⟨h1, h2, h3, h4⟩ := h
  obtain ⟨h5, h6, h7, h8⟩ := h'
  obtain ⟨a1, a2⟩ := mul9 ⟨h1, h2⟩ ⟨h5, h6⟩
  obtain ⟨a3, a4⟩ := mul9 ⟨h3, h4⟩ ⟨h7, h8⟩
  obtain ⟨a5, a6⟩ := mul9 ⟨h1, h2⟩ ⟨h7, h8⟩
  obtain ⟨a7, a8⟩ := mul9 ⟨h3, h4⟩ ⟨h5, h6⟩
  go_enter Try.func26, Try.ntmps26
  go_wp2
  exact bodyPost_ret (v := pr (x * x' - y * y') (x * y' + y * x')) (by simp [results, Try.results26, go_sem]) rfl ⟨rfl, by (repeat' (first | assumption | exact Below.refl _ _ | apply Blw.alloc | apply Blw.drew | apply Blw.drewN | (refine Blw.after ?_ (by assumption)) | (refine Blw.set ?_ (by first | (dsimp only; omega) | (simp; done) | (simp; omega)) _)))⟩

theorem norm_c (x y : Int) (w : World) (h : in9 x y) : Calls Try.prog 38 #[pr x y] w fun e w' => e = .returned (.int .i64 (x * x + y * y)) ∧ Below w.heap.size w w' := by
  obtain ⟨h1, h2, h3, h4⟩ := h
  obtain ⟨a1, a2⟩ := mul9 ⟨h1, h2⟩ ⟨h1, h2⟩
  obtain ⟨a3, a4⟩ := mul9 ⟨h3, h4⟩ ⟨h3, h4⟩
  go_enter Try.func38, Try.ntmps38
  go_wp2
  go_ret
  exact ⟨rfl, by (repeat' (first | assumption | exact Below.refl _ _ | apply Blw.alloc | apply Blw.drew | apply Blw.drewN | (refine Blw.after ?_ (by assumption)) | (refine Blw.set ?_ (by first | (dsimp only; omega) | (simp; done) | (simp; omega)) _)))⟩

theorem l1Norm_c (x y : Int) (w : World) (h : in9 x y) : Calls Try.prog 41 #[pr x y] w fun e w' => e = .returned (.int .i64 (x * x + y * y)) ∧ Below w.heap.size w w' := by
  obtain ⟨h1, h2, h3, h4⟩ := h
  obtain ⟨a1, a2⟩ := mul9 ⟨h1, h2⟩ ⟨h1, h2⟩
  obtain ⟨a3, a4⟩ := mul9 ⟨h3, h4⟩ ⟨h3, h4⟩
  go_enter Try.func41, Try.ntmps41
  go_wp2
  go_ret
  exact ⟨rfl, by (repeat' (first | assumption | exact Below.refl _ _ | apply Blw.alloc | apply Blw.drew | apply Blw.drewN | (refine Blw.after ?_ (by assumption)) | (refine Blw.set ?_ (by first | (dsimp only; omega) | (simp; done) | (simp; omega)) _)))⟩

/-- the norm, or -1: the walk does not look into it -/
def normV (x y : Int) : Int := if inB 1000000 x y then x * x + y * y else -1

theorem iGaussNorm_c (x y : Int) (w : World) : Calls Try.prog 15 #[pr x y] w fun e w' => e = .returned (.int .i64 (normV x y)) ∧ Below w.heap.size w w' := by
  rcases Bool.eq_false_or_eq_true (inB 1000000 x y) with h1 | h1
  · have H1 := inB_le h1
    go_enter Try.func15, Try.ntmps15
    go_wp2_with (first | (go_at_call 27; refine (gPair_c _ _ _).mono ?_; rintro e w1 ⟨rfl, hb⟩; obtain ⟨hc, hf⟩ := bcell hb; have hz := bsize hb; have hs := hb.size; try simp at hs) | (go_at_call 28; refine (small_c _ _ _).mono ?_; rintro e w1 ⟨rfl, hb⟩; obtain ⟨hc, hf⟩ := bcell hb; have hz := bsize hb; have hs := hb.size; try simp at hs) | (go_at_call 38; refine (norm_c _ _ _ (small9 H1)).mono ?_; rintro e w1 ⟨rfl, hb⟩; obtain ⟨hc, hf⟩ := bcell hb; have hz := bsize hb; have hs := hb.size; try simp at hs))
    go_ret
    exact ⟨by simp [normV, h1], by (repeat' (first | assumption | exact Below.refl _ _ | apply Blw.alloc | apply Blw.drew | apply Blw.drewN | (refine Blw.after ?_ (by assumption)) | (refine Blw.set ?_ (by first | (dsimp only; omega) | (simp; done) | (simp; omega)) _)))⟩
  · go_enter Try.func15, Try.ntmps15
    go_wp2_with (first | (go_at_call 27; refine (gPair_c _ _ _).mono ?_; rintro e w1 ⟨rfl, hb⟩; obtain ⟨hc, hf⟩ := bcell hb; have hz := bsize hb; have hs := hb.size; try simp at hs) | (go_at_call 28; refine (small_c _ _ _).mono ?_; rintro e w1 ⟨rfl, hb⟩; obtain ⟨hc, hf⟩ := bcell hb; have hz := bsize hb; have hs := hb.size; try simp at hs))
    go_ret
    exact ⟨by simp [normV, h1], by (repeat' (first | assumption | exact Below.refl _ _ | apply Blw.alloc | apply Blw.drew | apply Blw.drewN | (refine Blw.after ?_ (by assumption)) | (refine Blw.set ?_ (by first | (dsimp only; omega) | (simp; done) | (simp; omega)) _)))⟩

end Go.Proofs.Ytlcafjdinjdllaa

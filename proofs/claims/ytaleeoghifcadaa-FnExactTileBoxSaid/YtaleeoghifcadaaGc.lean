/- Chapter 1: sums and products of the program. -/
import Derived.Test.YtaleeoghifcadaaGa
import Derived.Outline
namespace Go.Proofs.Ytaleeoghifcadaa
set_option linter.unusedSimpArgs false
set_option linter.unusedVariables false
open Go.RowKit

/-- x if b, else 0: the walk does not look into it -/
def sel (b : Bool) (x : Int) : Int := if b then x else 0
abbrev res2 (b : Bool) (x y : Int) : Value := .tuple #[pr (sel b x) (sel b y), .bool b]
theorem sel_t (x : Int) : sel true x = x := rfl
theorem sel_f (x : Int) : sel false x = 0 := rfl

theorem inB_le {l x y : Int} (h : inB l x y = true) : -l ≤ x ∧ x ≤ l ∧ -l ≤ y ∧ y ≤ l := by
  simp only [inB, inR, Bool.and_eq_true, decide_eq_true_eq] at h; omega

theorem plus_c (x y x' y' : Int) (w : World) (h : -1000000 ≤ x ∧ x ≤ 1000000 ∧ -1000000 ≤ y ∧ y ≤ 1000000) (h' : -1000000 ≤ x' ∧ x' ≤ 1000000 ∧ -1000000 ≤ y' ∧ y' ≤ 1000000) : Calls Try.prog 11 #[pr x y, pr x' y'] w fun e w' => e = .returned (pr (x + x') (y + y')) ∧ Below w.heap.size w w' := by
  obtain ⟨h1, h2, h3, h4⟩ := h
  obtain ⟨h1', h2', h3', h4'⟩ := h'
  go_enter Try.func11, Try.ntmps11
  go_wp2
  exact bodyPost_ret (v := pr (x + x') (y + y')) (by simp [results, Try.results11, go_sem]) rfl ⟨rfl, by (first | ((repeat' with_reducible first | assumption | exact Below.refl _ _ | apply Blw.alloc | apply Blw.drew | apply Blw.drewN | (refine Blw.after ?_ (by assumption)) | (refine Blw.set ?_ (by first | (dsimp only; omega) | (simp; omega)) _)); done) | (repeat' (first | assumption | exact Below.refl _ _ | apply Blw.alloc | apply Blw.drew | apply Blw.drewN | (refine Blw.after ?_ (by assumption)) | (refine Blw.set ?_ (by first | (dsimp only; omega) | (simp; done) | (simp; omega)) _))))⟩

/-- both are small, and so is the sum -/
def addB (x y x' y' : Int) : Bool := inB 1000000 x y && inB 1000000 x' y' && inB 1000000 (x + x') (y + y')

/-! ### the model's side -/
end Go.Proofs.Ytaleeoghifcadaa

/- Chapter 1: products and norms, of both sides. -/
import Derived.Test.YtaleeoghifcadaaGc
import Derived.Test.YtaleeoghifcadaaMath
namespace Go.Proofs.Ytaleeoghifcadaa
set_option linter.unusedSimpArgs false
set_option linter.unusedVariables false
open Go.RowKit

/-- both are small, and so is the product -/
def mulB (x y x' y' : Int) : Bool := inB 1000000 x y && inB 1000000 x' y' && inB 1000000 (x * x' - y * y') (x * y' + y * x')

theorem times_c (x y x' y' : Int) (w : World) (h : in9 x y) (h' : in9 x' y') : Calls Try.prog 10 #[pr x y, pr x' y'] w fun e w' => e = .returned (pr (x * x' - y * y') (x * y' + y * x')) ∧ Below w.heap.size w w' := by
  obtain ⟨h1, h2, h3, h4⟩ := h
  obtain ⟨h5, h6, h7, h8⟩ := h'
  obtain ⟨a1, a2⟩ := mul9 ⟨h1, h2⟩ ⟨h5, h6⟩
  obtain ⟨a3, a4⟩ := mul9 ⟨h3, h4⟩ ⟨h7, h8⟩
  obtain ⟨a5, a6⟩ := mul9 ⟨h1, h2⟩ ⟨h7, h8⟩
  obtain ⟨a7, a8⟩ := mul9 ⟨h3, h4⟩ ⟨h5, h6⟩
  go_enter Try.func10, Try.ntmps10
  go_wp2
  exact bodyPost_ret (v := pr (x * x' - y * y') (x * y' + y * x')) (by simp [results, Try.results10, go_sem]) rfl ⟨rfl, by (first | ((repeat' with_reducible first | assumption | exact Below.refl _ _ | apply Blw.alloc | apply Blw.drew | apply Blw.drewN | (refine Blw.after ?_ (by assumption)) | (refine Blw.set ?_ (by first | (dsimp only; omega) | (simp; omega)) _)); done) | (repeat' (first | assumption | exact Below.refl _ _ | apply Blw.alloc | apply Blw.drew | apply Blw.drewN | (refine Blw.after ?_ (by assumption)) | (refine Blw.set ?_ (by first | (dsimp only; omega) | (simp; done) | (simp; omega)) _))))⟩

/-- the norm, or -1: the walk does not look into it -/
def normV (x y : Int) : Int := if inB 1000000 x y then x * x + y * y else -1

end Go.Proofs.Ytaleeoghifcadaa

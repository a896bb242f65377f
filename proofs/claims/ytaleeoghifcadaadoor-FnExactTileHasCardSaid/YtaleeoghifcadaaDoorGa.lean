/- Chapter 1, contracts of the small functions of both sides: tests of ranges, and what turns one kind of pair into the other. -/
import Derived.Test.YtaleeoghifcadaaDoorRows
import Derived.Test.YtaleeoghifcadaaDoorReg
import Derived.WalkKit
import Derived.ProofKit
import Derived.WalkSpells
import Derived.WalkLawsBesides
import Derived.Lib.Hide
import Derived.Laws.ResultCell
namespace Go.Proofs.YtaleeoghifcadaaDoor
set_option linter.unusedSimpArgs false
set_option linter.unusedVariables false
open Go.RowKit

/-- in a range, as a Bool that the walk does not take apart -/
def inR (a b n : Int) : Bool := decide (a ≤ n) && decide (n ≤ b)
/-- both parts in the range -l to l -/
def inB (l x y : Int) : Bool := inR (-l) l x && inR (-l) l y
/-- a pair as the value of a struct or of an array -/
abbrev pr (x y : Int) : Value := .agg #[.int .i64 x, .int .i64 y]

theorem l6In_c (n a b : Int) (w : World) : Calls Tryd.prog 48 #[.int .i64 n, .int .i64 a, .int .i64 b] w fun e w' => e = .returned (.bool (inR a b n)) ∧ w = w' := by
  by_cases h1 : a ≤ n <;> by_cases h2 : n ≤ b
  all_goals
    go_enter Tryd.func48, Tryd.ntmps48
    go_wp2
    go_ret
    exact ⟨by simp [inR, h1, h2], rfl⟩

theorem sGaussSmall_c (x y : Int) (w : World) : Calls Tryd.prog 49 #[pr x y] w fun e w' => e = .returned (.bool (inB 1000000 x y)) ∧ Below w.heap.size w w' := by
  rcases Bool.eq_false_or_eq_true (inR (-1000000) 1000000 x) with h1 | h1
  all_goals
    go_enter Tryd.func49, Tryd.ntmps49
    go_wp2_with (go_at_call 48; refine (l6In_c _ _ _ _).mono ?_; rintro e w1 ⟨rfl, rfl⟩)
    go_ret
    exact ⟨by simp [inB, h1], by (repeat' (first | assumption | exact Below.refl _ _ | apply Blw.alloc | apply Blw.drew | apply Blw.drewN | (refine Blw.after ?_ (by assumption)) | (refine Blw.set ?_ (by first | (dsimp only; omega) | (simp; done) | (simp; omega)) _)))⟩

theorem gPair_c (x y : Int) (w : World) : Calls Tryd.prog 51 #[pr x y] w fun e w' => e = .returned (pr x y) ∧ Below w.heap.size w w' := by
  go_enter Tryd.func51, Tryd.ntmps51
  go_wp2
  exact bodyPost_ret (v := pr x y) (by simp [results, Tryd.results51, go_sem]) rfl ⟨rfl, by (repeat' (first | assumption | exact Below.refl _ _ | apply Blw.alloc | apply Blw.drew | apply Blw.drewN | (refine Blw.after ?_ (by assumption)) | (refine Blw.set ?_ (by first | (dsimp only; omega) | (simp; done) | (simp; omega)) _)))⟩

theorem within_c (x y l : Int) (w : World) (hl : 0 ≤ l ∧ l ≤ 1000000) : Calls Tryd.prog 71 #[pr x y, .int .i64 l] w fun e w' => e = .returned (.bool (inB l x y)) ∧ Below w.heap.size w w' := by
  obtain ⟨hl0, hl1⟩ := hl
  by_cases h1 : -l ≤ x <;> by_cases h2 : x ≤ l <;> by_cases h3 : -l ≤ y <;> by_cases h4 : y ≤ l
  all_goals
    go_enter Tryd.func71, Tryd.ntmps71
    go_wp2
    go_ret
    exact ⟨by simp [inB, inR, h1, h2, h3, h4], by (repeat' (first | assumption | exact Below.refl _ _ | apply Blw.alloc | apply Blw.drew | apply Blw.drewN | (refine Blw.after ?_ (by assumption)) | (refine Blw.set ?_ (by first | (dsimp only; omega) | (simp; done) | (simp; omega)) _)))⟩

theorem small_c (x y : Int) (w : World) : Calls Tryd.prog 52 #[pr x y] w fun e w' => e = .returned (.bool (inB 1000000 x y)) ∧ Below w.heap.size w w' := by
  go_enter Tryd.func52, Tryd.ntmps52
  go_wp2_with (go_at_call 71; refine (within_c _ _ _ _ (by omega)).mono ?_; rintro e w1 ⟨rfl, hb⟩; obtain ⟨hc, hf⟩ := bcell hb; have hz := bsize hb; have hs := hb.size; try simp at hs)
  go_ret
  exact ⟨rfl, by (repeat' (first | assumption | exact Below.refl _ _ | apply Blw.alloc | apply Blw.drew | apply Blw.drewN | (refine Blw.after ?_ (by assumption)) | (refine Blw.set ?_ (by first | (dsimp only; omega) | (simp; done) | (simp; omega)) _)))⟩

theorem gauss_c (x y : Int) (w : World) : Calls Tryd.prog 57 #[pr x y] w fun e w' => e = .returned (pr x y) ∧ Below w.heap.size w w' := by
  go_enter Tryd.func57, Tryd.ntmps57
  go_wp2
  exact bodyPost_ret (v := pr x y) (by simp [results, Tryd.results57, go_sem]) rfl ⟨rfl, by (repeat' (first | assumption | exact Below.refl _ _ | apply Blw.alloc | apply Blw.drew | apply Blw.drewN | (refine Blw.after ?_ (by assumption)) | (refine Blw.set ?_ (by first | (dsimp only; omega) | (simp; done) | (simp; omega)) _)))⟩
end Go.Proofs.YtaleeoghifcadaaDoor

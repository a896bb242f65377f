/- Chapter 1, contracts of the small functions of both sides: tests of ranges, and what turns one kind of pair into the other. -/
import Derived.Test.YtlcafjdinjdllabRows
import Derived.Test.YtlcafjdinjdllabReg
import Derived.WalkKit
import Derived.ProofKit
import Derived.WalkSpells
import Derived.WalkLawsBesides
import Derived.Lib.Hide
import Derived.Laws.ResultCell
namespace Go.Proofs.Ytlcafjdinjdllab
set_option linter.unusedSimpArgs false
set_option linter.unusedVariables false
open Go.RowKit

/-- in a range, as a Bool that the walk does not take apart -/
def inR (a b n : Int) : Bool := decide (a ≤ n) && decide (n ≤ b)
/-- both parts in the range -l to l -/
def inB (l x y : Int) : Bool := inR (-l) l x && inR (-l) l y
/-- a pair as the value of a struct or of an array -/
abbrev pr (x y : Int) : Value := .agg #[.int .i64 x, .int .i64 y]

theorem l6In_c (n a b : Int) (w : World) : Calls Try.prog 51 #[.int .i64 n, .int .i64 a, .int .i64 b] w fun e w' => e = .returned (.bool (inR a b n)) ∧ w = w' := by
  by_cases h1 : a ≤ n <;> by_cases h2 : n ≤ b
  all_goals
    go_enter Try.func51, Try.ntmps51
    go_wp2
    go_ret
    exact ⟨by simp [inR, h1, h2], rfl⟩

theorem sGaussSmall_c (x y : Int) (w : World) : Calls Try.prog 74 #[pr x y] w fun e w' => e = .returned (.bool (inB 1000000 x y)) ∧ Below w.heap.size w w' := by
  rcases Bool.eq_false_or_eq_true (inR (-1000000) 1000000 x) with h1 | h1
  all_goals
    go_enter Try.func74, Try.ntmps74
    go_wp2_with (go_at_call 51; refine (l6In_c _ _ _ _).mono ?_; rintro e w1 ⟨rfl, rfl⟩)
    go_ret
    exact ⟨by simp [inB, h1], by (repeat' (first | assumption | exact Below.refl _ _ | apply Blw.alloc | apply Blw.drew | apply Blw.drewN | (refine Blw.after ?_ (by assumption)) | (refine Blw.set ?_ (by first | (dsimp only; omega) | (simp; done) | (simp; omega)) _)))⟩

theorem gPair_c (x y : Int) (w : World) : Calls Try.prog 61 #[pr x y] w fun e w' => e = .returned (pr x y) ∧ Below w.heap.size w w' := by
  go_enter Try.func61, Try.ntmps61
  go_wp2
  exact bodyPost_ret (v := pr x y) (by simp [results, Try.results61, go_sem]) rfl ⟨rfl, by (repeat' (first | assumption | exact Below.refl _ _ | apply Blw.alloc | apply Blw.drew | apply Blw.drewN | (refine Blw.after ?_ (by assumption)) | (refine Blw.set ?_ (by first | (dsimp only; omega) | (simp; done) | (simp; omega)) _)))⟩

theorem within_c (x y l : Int) (w : World) (hl : 0 ≤ l ∧ l ≤ 1000000) : Calls Try.prog 76 #[pr x y, .int .i64 l] w fun e w' => e = .returned (.bool (inB l x y)) ∧ Below w.heap.size w w' := by
  obtain ⟨hl0, hl1⟩ := hl
  by_cases h1 : -l ≤ x <;> by_cases h2 : x ≤ l <;> by_cases h3 : -l ≤ y <;> by_cases h4 : y ≤ l
  all_goals
    go_enter Try.func76, Try.ntmps76
    go_wp2
    go_ret
    exact ⟨by simp [inB, inR, h1, h2, h3, h4], by (repeat' (first | assumption | exact Below.refl _ _ | apply Blw.alloc | apply Blw.drew | apply Blw.drewN | (refine Blw.after ?_ (by assumption)) | (refine Blw.set ?_ (by first | (dsimp only; omega) | (simp; done) | (simp; omega)) _)))⟩

theorem small_c (x y : Int) (w : World) : Calls Try.prog 65 #[pr x y] w fun e w' => e = .returned (.bool (inB 1000000 x y)) ∧ Below w.heap.size w w' := by
  go_enter Try.func65, Try.ntmps65
  go_wp2_with (go_at_call 76; refine (within_c _ _ _ _ (by omega)).mono ?_; rintro e w1 ⟨rfl, hb⟩; obtain ⟨hc, hf⟩ := bcell hb; have hz := bsize hb; have hs := hb.size; try simp at hs)
  go_ret
  exact ⟨rfl, by (repeat' (first | assumption | exact Below.refl _ _ | apply Blw.alloc | apply Blw.drew | apply Blw.drewN | (refine Blw.after ?_ (by assumption)) | (refine Blw.set ?_ (by first | (dsimp only; omega) | (simp; done) | (simp; omega)) _)))⟩

theorem gauss_c (x y : Int) (w : World) : Calls Try.prog 45 #[pr x y] w fun e w' => e = .returned (pr x y) ∧ Below w.heap.size w w' := by
  go_enter Try.func45, Try.ntmps45
  go_wp2
  exact bodyPost_ret (v := pr x y) (by simp [results, Try.results45, go_sem]) rfl ⟨rfl, by (repeat' (first | assumption | exact Below.refl _ _ | apply Blw.alloc | apply Blw.drew | apply Blw.drewN | (refine Blw.after ?_ (by assumption)) | (refine Blw.set ?_ (by first | (dsimp only; omega) | (simp; done) | (simp; omega)) _)))⟩
end Go.Proofs.Ytlcafjdinjdllab

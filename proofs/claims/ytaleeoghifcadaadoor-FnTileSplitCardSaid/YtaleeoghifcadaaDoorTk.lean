/- Chapter 6: the expansion of a number is that of what stands ahead, and the last digits behind it. No law is stated here. -/
import Derived.Test.YtaleeoghifcadaaDoorTh
import Derived.Test.YtaleeoghifcadaaDoorDVal
import Derived.Test.YtaleeoghifcadaaDoorDs
namespace Go.Proofs.YtaleeoghifcadaaDoor
set_option linter.unusedSimpArgs false
set_option linter.unusedVariables false
open Go.RowKit

theorem qr_inj (n : Nat) : ∀ z z' : ZZ, qn n z = qn n z' → rn n z = rn n z' → z = z' := by
  induction n with
  | zero => intro z z' h _; exact h
  | succ n ih =>
    intro z z' h1 h2
    rw [rn_back, rn_back] at h2
    have e1 : ld z = ld z' := by
      have := congrArg ld h2
      rw [ld_sd _ (ld_01 z), ld_sd _ (ld_01 z')] at this; exact this
    have e2 : rn n (nx z) = rn n (nx z') := by
      have := congrArg nx h2
      rw [nx_sd _ (ld_01 z), nx_sd _ (ld_01 z')] at this; exact this
    rw [← qn_nx, ← qn_nx] at h1
    have e3 := ih _ _ h1 e2
    rw [← sd_nx z, ← sd_nx z', e1, e3]
theorem val_cat (a : List UInt8) : ∀ (b : List UInt8), (∀ c ∈ b, bitC c = true) → qn b.length (valF (a ++ b)) = valF a ∧ rn b.length (valF (a ++ b)) = valF b := by
  intro b
  induction b using rev_ind with
  | h0 => intro _; rw [List.append_nil]; exact ⟨rfl, rfl⟩
  | h1 l c ih =>
    intro hb
    obtain ⟨h1, h2⟩ := ih (fun d hd => hb d (by simp [hd]))
    have hc := dg_bit (hb c (by simp))
    have hd : dg c = 0 ∨ dg c = 1 := by omega
    rw [← List.append_assoc, valF_snoc, valF_snoc, List.length_append, List.length_singleton, ← qn_nx, rn_back, nx_sd _ hd, ld_sd _ hd, h1, h2]
    exact ⟨rfl, rfl⟩
theorem qn_rn (n : Nat) : ∀ z : ZZ, qn n (rn n z) = (0, 0) := by
  induction n with
  | zero => intro z; rfl
  | succ n ih => intro z; rw [← qn_nx, rn_back, nx_sd _ (ld_01 z)]; exact ih _
theorem val_zerosF (m : Nat) (l : List UInt8) : valF (List.replicate m 48 ++ l) = valF l := by
  induction m with
  | zero => rfl
  | succ m ih => rw [List.replicate_succ, List.cons_append, valF_leadV, ih]
theorem val_tx (x y : Int) : valF (txL x y) = (x, y) := by
  rw [txL_eq]
  split
  · rename_i h; rw [h]; decide
  · exact val_dgz _ _ rfl
theorem strip_tx {l : List UInt8} {x y : Int} (h : ∀ c ∈ l, bitC c = true) (hn : l ≠ []) (hv : valF l = (x, y)) : strip l = txL x y := by
  have := strip_val h hn
  rw [this]
  show (dgs1 _ _).reverse = _
  rw [show valX l = x from congrArg Prod.fst hv, show valY l = y from congrArg Prod.snd hv]; rfl
/-- the digits of q, and those of the rest filled up behind it -/
theorem join_tx {n : Nat} {x y : Int} {b : List UInt8} (hb : ∀ c ∈ b, bitC c = true) (hl : b.length = n) (hv : valF b = rn n (x, y)) : strip (txL (qn n (x, y)).1 (qn n (x, y)).2 ++ b) = txL x y := by
  have hq := val_tx (qn n (x, y)).1 (qn n (x, y)).2
  refine strip_tx ?_ (by intro e; exact txL_ne _ _ (List.append_eq_nil_iff.1 e).1) ?_
  · intro c hc
    rcases List.mem_append.1 hc with hc | hc
    · exact txL_bits _ _ c hc
    · exact hb c hc
  · obtain ⟨h1, h2⟩ := val_cat (txL (qn n (x, y)).1 (qn n (x, y)).2) b hb
    rw [hl] at h1 h2
    exact qr_inj n _ _ (by rw [h1, hq]) (by rw [h2, hv])
theorem rest_len {n : Nat} {x y : Int} (hn : 1 ≤ n) : (txL (rn n (x, y)).1 (rn n (x, y)).2).length ≤ n := by
  rw [txL_eq]
  split
  · simpa using hn
  · rw [List.length_reverse]; exact (dgz_len n _).2 (qn_rn n _)
theorem rest_small {n : Nat} {x y : Int} (hn : n ≤ 12) : inB 1000000 (rn n (x, y)).1 (rn n (x, y)).2 = true := by
  have := rn_in (x, y) n (by omega)
  simp only [inB, inR, Bool.and_eq_true, decide_eq_true_eq]; omega
theorem rest_has {n : Nat} {x y : Int} (hn : n ≤ 12) : hasT n (rn n (x, y)).1 (rn n (x, y)).2 = true := by
  simp only [hasT, okT, rest_small hn, Bool.and_eq_true, decide_eq_true_eq, Int.toNat_natCast]
  refine ⟨⟨?_, trivial⟩, qn_rn n _⟩
  simp only [inR, Bool.and_eq_true, decide_eq_true_eq]; omega
end Go.Proofs.YtaleeoghifcadaaDoor

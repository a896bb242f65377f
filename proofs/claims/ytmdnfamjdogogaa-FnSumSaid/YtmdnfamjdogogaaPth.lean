/- Chapter 5: CurvePath, of both sides. No law is stated here. -/
import Derived.Test.YtmdnfamjdogogaaCq
import Derived.Test.YtmdnfamjdogogaaCs
import Derived.Test.YtmdnfamjdogogaaGc
import Derived.Sort.AtCall
namespace Go.Proofs.Ytmdnfamjdogogaa
set_option linter.unusedSimpArgs false
set_option linter.unusedVariables false
open Go.RowKit Ieee

theorem lowC : floatOfInt .f64 (-1000000) = 13920209183539462144 := by decide +kernel
theorem highC : floatOfInt .f64 1000000 = 4696837146684686336 := by decide +kernel
theorem low32 : floatOfInt .f32 (-100000) = 3351465984 := by decide +kernel
theorem high32 : floatOfInt .f32 100000 = 1203982336 := by decide +kernel
theorem upZ (s : Bool) {n : Nat} (h : n ≤ 1000000) : floatToFloatBits .f32 (sw .f32 s n) .f64 = some (sw .f64 s n) := sw_conv _ _ _ (by omega)
def Bq (B : Nat) (q : SZ) : Prop := q.1.2 ≤ B ∧ q.2.2 ≤ B
theorem inB_big {x y : Int} {l : Int} (h1 : -l ≤ x ∧ x ≤ l) (h2 : -l ≤ y ∧ y ≤ l) : inB l x y = true := by
  unfold inB inR; simp [h1, h2]
/-! ### neighbours -/
def sqN (d : Int × Int) : Int := d.1 * d.1 + d.2 * d.2
def nbr (a b : Int × Int) : Bool := decide (sqN (subP b a) = 1)
def Bp (B : Nat) (z : Int × Int) : Prop := z.1.natAbs ≤ B ∧ z.2.natAbs ≤ B
theorem sq_bound {a : Int} {B : Nat} (h : a.natAbs ≤ B) : (a * a).natAbs ≤ B * B := by
  rw [Int.natAbs_mul]; exact Nat.mul_le_mul h h
/-! ### paths -/
def okL (L : List SZ) (i : Nat) : Prop := ∃ q, L[i]? = some q ∧ okQ q = true
/-- what the loop asks of the place i -/
def stL (L : List SZ) (i : Nat) : Prop := okL L i ∧ ∀ j, i = j + 1 → ∃ a b, L[j]? = some a ∧ L[i]? = some b ∧ nbr (val a) (val b) = true
def PathZ (L : List SZ) : Prop := 1 ≤ L.length ∧ L.length ≤ 1025 ∧ ∀ i, i < L.length → stL L i
open Classical in
noncomputable def pathZ (L : List SZ) : Bool := decide (PathZ L)
open Classical in
theorem pathZ_t {L : List SZ} (h : PathZ L) : pathZ L = true := by unfold pathZ; exact decide_eq_true h
open Classical in
theorem pathZ_f {L : List SZ} (h : ¬ PathZ L) : pathZ L = false := by unfold pathZ; exact decide_eq_false h
open Classical in
theorem pathZ_iff {L : List SZ} : pathZ L = true ↔ PathZ L := by unfold pathZ; exact decide_eq_true_iff
def PaRel (L : List SZ) (w : World) (m : Nat) (i : Value) (wr : World) : Prop := ∃ k : Nat, k + m = L.length ∧ i = .int .i64 k ∧ (∀ j, j < k → stL L j) ∧ Below w.heap.size w wr
theorem stL_no {L : List SZ} {k : Nat} {q : SZ} (hk : k < L.length) (hq : L[k]? = some q) (h : okQ q = false) : ¬ PathZ L := by
  rintro ⟨_, _, h3⟩
  obtain ⟨⟨q', e, h4⟩, _⟩ := h3 k hk
  rw [hq] at e; cases e
  rw [h] at h4; cases h4
theorem stL_nb {L : List SZ} {k : Nat} {a b : SZ} (hk : k + 1 < L.length) (ha : L[k]? = some a) (hb : L[k + 1]? = some b) (h : nbr (val a) (val b) = false) : ¬ PathZ L := by
  rintro ⟨_, _, h3⟩
  obtain ⟨_, h4⟩ := h3 (k + 1) hk
  obtain ⟨a', b', e1, e2, h5⟩ := h4 k rfl
  rw [ha] at e1; cases e1
  rw [hb] at e2; cases e2
  rw [h] at h5; cases h5
theorem stL_zero {L : List SZ} {q : SZ} (hq : L[0]? = some q) (h : okQ q = true) : stL L 0 := ⟨⟨q, hq, h⟩, fun j h => by omega⟩
theorem stL_succ {L : List SZ} {k : Nat} {a b : SZ} (ha : L[k]? = some a) (hb : L[k + 1]? = some b) (h : okQ b = true) (hn : nbr (val a) (val b) = true) : stL L (k + 1) :=
  ⟨⟨b, hb, h⟩, fun j e => by
    obtain rfl : j = k := by omega
    exact ⟨a, b, ha, hb, hn⟩⟩
theorem stL_ok {L : List SZ} {k : Nat} {q : SZ} (h : stL L k) (hq : L[k]? = some q) : okQ q = true := by
  obtain ⟨⟨q', e, h4⟩, _⟩ := h
  rw [hq] at e; cases e; exact h4
theorem stL_all {L : List SZ} {k : Nat} (h : ∀ j, j < k → stL L j) (h1 : stL L k) : ∀ j, j < k + 1 → stL L j := fun j hj => by
  rcases Nat.lt_or_eq_of_le (Nat.lt_succ_iff.1 hj) with h2 | h2
  · exact h j h2
  · rw [h2]; exact h1
theorem val_bp {q : SZ} {B : Nat} (h : Bq B q) : Bp B (val q) := by
  unfold Bp val
  rw [sg_abs, sg_abs]; exact h
/-! ### the model's side -/
theorem inf_pos : floatBits .quo .f32 1065353216 0 = some 2139095040 := by decide +kernel
theorem inf_neg : floatBits .quo .f32 1065353216 2147483648 = some 4286578688 := by decide +kernel
end Go.Proofs.Ytmdnfamjdogogaa

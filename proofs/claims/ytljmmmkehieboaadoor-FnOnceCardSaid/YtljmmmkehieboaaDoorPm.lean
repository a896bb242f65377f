/- Paths as lists of points. Plain mathematics; no law is stated here. -/
import Derived.Test.YtljmmmkehieboaaDoorDrawK
import Derived.Test.YtljmmmkehieboaaDoorPtS
namespace Go.Proofs.YtljmmmkehieboaaDoor
set_option linter.unusedSimpArgs false
set_option linter.unusedVariables false
open Go.RowKit Ieee

theorem okQ_can (z : Int × Int) : okQ (canQ z) = true := by
  unfold okQ okN canQ
  simp only [Bool.and_eq_true, Bool.not_eq_true', Bool.and_eq_false_iff, decide_eq_false_iff_not]
  constructor <;> omega
theorem val_can (z : Int × Int) : val (canQ z) = z := by
  unfold val canQ
  rw [own_sg, own_sg]
def PathP (Z : List (Int × Int)) : Prop := 1 ≤ Z.length ∧ Z.length ≤ 1025 ∧ ∀ j a b, Z[j]? = some a → Z[j + 1]? = some b → nbr a b = true
theorem pathZ_can {Z : List (Int × Int)} (h : PathP Z) : PathZ (Z.map canQ) := by
  obtain ⟨h1, h2, h3⟩ := h
  refine ⟨by rw [List.length_map]; exact h1, by rw [List.length_map]; exact h2, fun i hi => ?_⟩
  rw [List.length_map] at hi
  have e : (Z.map canQ)[i]? = some (canQ Z[i]) := by rw [List.getElem?_map, List.getElem?_eq_getElem hi]; rfl
  refine ⟨⟨_, e, okQ_can _⟩, fun j hj => ?_⟩
  subst hj
  have hj : j < Z.length := by omega
  refine ⟨canQ Z[j], canQ Z[j + 1], by rw [List.getElem?_map, List.getElem?_eq_getElem hj]; rfl, e, ?_⟩
  rw [val_can, val_can]
  exact h3 j _ _ (List.getElem?_eq_getElem hj) (List.getElem?_eq_getElem hi)
theorem pathP_of {L : List SZ} (h : PathZ L) : PathP (L.map val) := by
  obtain ⟨h1, h2, h3⟩ := h
  refine ⟨by rw [List.length_map]; exact h1, by rw [List.length_map]; exact h2, fun j a b ha hb => ?_⟩
  rw [List.getElem?_map] at ha hb
  obtain ⟨p, hp, rfl⟩ := Option.map_eq_some_iff.1 ha
  obtain ⟨q, hq, rfl⟩ := Option.map_eq_some_iff.1 hb
  obtain ⟨_, h4⟩ := h3 (j + 1) (List.getElem?_eq_some_iff.1 hq).1
  obtain ⟨a', b', e1, e2, h5⟩ := h4 j rfl
  rw [hp] at e1; cases e1
  rw [hq] at e2; cases e2
  exact h5
theorem enc_of {L : List SZ} (h : PathZ L) : L.map encZ = (L.map val).map encP := by
  rw [List.map_map]
  apply List.map_congr_left
  intro q hq
  obtain ⟨i, hi, rfl⟩ := List.mem_iff_getElem.1 hq
  exact okQ_enc (stL_ok (h.2.2 i hi) (List.getElem?_eq_getElem hi))
theorem val_map_bp {L : List SZ} {B : Nat} (h : ∀ q ∈ L, Bq B q) : ∀ z ∈ L.map val, Bp B z := by
  intro z hz
  obtain ⟨q, hq, rfl⟩ := List.mem_map.1 hz
  exact val_bp (h q hq)
theorem bq_can {Z : List (Int × Int)} {B : Nat} (h : ∀ z ∈ Z, Bp B z) : ∀ q ∈ Z.map canQ, Bq B q := by
  intro q hq
  obtain ⟨z, hz, rfl⟩ := List.mem_map.1 hq
  exact h z hz
theorem bq_up {L : List SZ} {B C : Nat} (h : ∀ q ∈ L, Bq B q) (hBC : B ≤ C) : ∀ q ∈ L, Bq C q := fun q hq => ⟨Nat.le_trans (h q hq).1 hBC, Nat.le_trans (h q hq).2 hBC⟩
/-- the beginning of a path is one -/
theorem pathZ_take {L : List SZ} (h : PathZ L) {m : Nat} (h1 : 1 ≤ m) : PathZ (L.take m) := by
  obtain ⟨p1, p2, p3⟩ := h
  refine ⟨by rw [List.length_take]; omega, by rw [List.length_take]; omega, fun i hi => ?_⟩
  rw [List.length_take] at hi
  obtain ⟨⟨q, hq, hok⟩, h4⟩ := p3 i (by omega)
  have e : ∀ k, k ≤ i → (L.take m)[k]? = L[k]? := fun k hk => List.getElem?_take_of_lt (by omega)
  refine ⟨⟨q, by rw [e i (Nat.le_refl _)]; exact hq, hok⟩, fun j hj => ?_⟩
  obtain ⟨a, b, e1, e2, h5⟩ := h4 j hj
  exact ⟨a, b, by rw [e j (by omega)]; exact e1, by rw [e i (Nat.le_refl _)]; exact e2, h5⟩
theorem csl_take {a : Option Addr} {l : List Value} {w : World} (h : CSl a l w) (m : Nat) : CSl a (l.take m) w := by
  rcases h with rfl | ⟨g, o, rfl, hc⟩
  · exact Or.inl (by simp)
  · refine Or.inr ⟨g, o, rfl, fun k x hk => hc k x ?_⟩
    have := List.getElem?_eq_some_iff.1 hk
    obtain ⟨h1, h2⟩ := this
    rw [List.getElem_take] at h2
    rw [List.length_take] at h1
    rw [← h2]
    exact List.getElem?_eq_getElem (by omega)
theorem own_cap {w : World} {B n m c : Nat} {a : Option Addr} {l : List Value} (h : w.ownsRow B 24 1 (.slice a m c) n l) : n ≤ c := by
  rcases h.2 with ⟨_, h0⟩ | ⟨g, cap, cur, h1, _, _, h2, _⟩
  · omega
  · simp only [Value.slice.injEq] at h1
    omega
/-- mirrored -/
def mir (z : Int × Int) : Int × Int := (z.1, -z.2)
theorem nbr_mir (a b : Int × Int) : nbr (mir a) (mir b) = nbr a b := by
  unfold nbr sqN subP mir
  dsimp only
  rw [show (-b.2 - -a.2) * (-b.2 - -a.2) = (b.2 - a.2) * (b.2 - a.2) by
    rw [show -b.2 - -a.2 = -(b.2 - a.2) by omega, Int.neg_mul_neg]]
theorem pathP_mir {Z : List (Int × Int)} (h : PathP Z) : PathP (Z.map mir) := by
  obtain ⟨h1, h2, h3⟩ := h
  refine ⟨by rw [List.length_map]; exact h1, by rw [List.length_map]; exact h2, fun j a b ha hb => ?_⟩
  rw [List.getElem?_map] at ha hb
  obtain ⟨p, hp, rfl⟩ := Option.map_eq_some_iff.1 ha
  obtain ⟨q, hq, rfl⟩ := Option.map_eq_some_iff.1 hb
  rw [nbr_mir]
  exact h3 j p q hp hq
theorem mir_bp {Z : List (Int × Int)} {B : Nat} (h : ∀ z ∈ Z, Bp B z) : ∀ z ∈ Z.map mir, Bp B z := by
  intro z hz
  obtain ⟨y, hy, rfl⟩ := List.mem_map.1 hz
  have := h y hy
  unfold Bp mir at *
  dsimp only
  omega
theorem take_map_snoc {α β : Type} {l : List α} {k : Nat} {z : α} (h : l[k]? = some z) (f : α → β) : (l.take (k + 1)).map f = (l.take k).map f ++ [f z] := by
  rw [List.take_add_one, h, List.map_append]; rfl
end Go.Proofs.YtljmmmkehieboaaDoor

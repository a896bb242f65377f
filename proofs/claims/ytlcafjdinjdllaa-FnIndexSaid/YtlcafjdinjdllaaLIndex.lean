/- FnIndex: whatever the code draws, the binary number of both sides is the same, and it lies where it must. -/
import Derived.Test.YtlcafjdinjdllaaDb
import Derived.Test.YtlcafjdinjdllaaDrawD
import Derived.Test.YtlcafjdinjdllaaBaseP
namespace Go.Proofs.Ytlcafjdinjdllaa
set_option linter.unusedSimpArgs false
set_option linter.unusedVariables false
open Go.ChangeShapes Go.WideShapes Go.ChangeAt Go.RowKit Go.Joins

theorem idx_lower : ∀ (l : List UInt8), (∀ c ∈ l, bitC c = true) → l.head? = some 49 → ((2 ^ l.length : Nat) : Int) ≤ 2 * idxF l := by
  intro l
  induction l using rev_ind with
  | h0 => intro _ h; simp at h
  | h1 l c ih =>
    intro hb hh
    have hc := dg_bit (hb c (by simp))
    rw [idxF_snoc, List.length_append, List.length_singleton, Nat.pow_succ]
    cases l with
    | nil =>
      simp at hh
      subst hh
      decide
    | cons a r =>
      have := ih (fun c hc => hb c (by simp at hc ⊢; rcases hc with h | h; exact Or.inl h; exact Or.inr (Or.inl h))) (by simpa using hh)
      push_cast at this ⊢
      omega
theorem wrap64_small {x : Int} (h : 0 ≤ x ∧ x ≤ 4611686018427387904) : wrap64 x = x := by unfold wrap64; omega
theorem idx_place {t : ByteArray} (h : idxB t = true) : 0 ≤ idxF (toL t) ∧ idxF (toL t) ≤ 1125899906842623 ∧ idxF (toL t) < wrap64 (2 ^ min t.size 64) ∧ ((t.toList == [48]) = true ∨ (t.toList == [48]) = false ∧ wrap64 (2 ^ min t.size 64) ≤ 2 * idxF (toL t)) := by
  have hv : vldB t = true ∧ t.size ≤ 40 := by simpa [idxB] using h
  obtain ⟨hv, h40⟩ := hv
  obtain ⟨l1, l2, l3, l4⟩ := (vldL_iff (toL t)).1 hv
  have hin := idx_in l4 l2
  have hle := idx_le (toL t) l4
  rw [toL_len] at hle
  have hp : ((2 : Int) ^ min t.size 64) = ((2 ^ t.size : Nat) : Int) := by
    rw [show min t.size 64 = t.size by omega]; push_cast; rfl
  have hp40 : 2 ^ t.size ≤ 2 ^ 40 := Nat.pow_le_pow_right (by decide) h40
  have e40 : (2 : Nat) ^ 40 = 1099511627776 := by decide
  have hw : wrap64 (2 ^ min t.size 64) = ((2 ^ t.size : Nat) : Int) := by
    rw [hp]; exact wrap64_small (by omega)
  rw [hw, ByteArray.toList_eq]
  refine ⟨hin.1, hin.2, by omega, ?_⟩
  rcases Bool.eq_false_or_eq_true (toL t == [48]) with hz | hz
  · exact Or.inl hz
  · right
    refine ⟨hz, ?_⟩
    have hne : toL t ≠ [48] := by intro e; rw [e] at hz; simp at hz
    have hh : (toL t).head? = some 49 := by
      have h3 := l3.resolve_left hne
      cases hL : toL t with
      | nil => rw [hL] at l1; simp at l1
      | cons c r =>
        rw [hL] at h3
        have hc := l4 c (by rw [hL]; simp)
        rw [bitC_iff] at hc
        rcases hc with hc | hc
        · exfalso; apply h3; simp; exact UInt8.toNat_inj.1 (by rw [hc]; rfl)
        · simp; exact UInt8.toNat_inj.1 (by rw [hc]; rfl)
    have := idx_lower (toL t) l4 hh
    rwa [toL_len] at this

set_option maxHeartbeats 4000000 in
set_option maxRecDepth 10000 in
theorem lawIndex_c (a : Option Addr) (len cap : Nat) (w : World) (hc : len ≤ 1048576 → Code (.slice a len cap) w) : Calls Try.prog 6 #[.slice a len cap] w fun e w' => e = .returned (.bool true) ∧ Below w.heap.size w w' := by
  by_cases hl : 1048576 < len
  · go_enter Try.func6, Try.ntmps6
    go_wp2_with fail
    go_ret
    exact ⟨rfl, by (repeat' (first | assumption | exact Below.refl _ _ | apply Blw.alloc | apply Blw.drew | apply Blw.drewN | (refine Blw.after ?_ (by assumption)) | (refine Blw.set ?_ (by first | (dsimp only; omega) | (simp; done) | (simp; omega)) _)))⟩
  · have hc' := hc (by omega)
    clear hc
    go_enter Try.func6, Try.ntmps6
    go_wp2_with fail
    refine (drawIndex_c _ w hc').mono ?_
    rintro e W1 ⟨t, rfl, ht, hb1⟩
    clear hc'
    have hc := (bcell hb1).1
    have hf := (bcell hb1).2
    have hz := bsize hb1
    have hs := hb1.size
    rcases Bool.eq_false_or_eq_true (idxB t) with hi | hi
    · have hV := idxV_yes hi
      obtain ⟨i0, i1, i2, i3⟩ := idx_place hi
      go_wp2_with fail
      refine (iDigitsIndex_c t W1).mono ?_
      rintro e W2 ⟨rfl, hb2⟩
      rw [hV]
      go_wp2_with fail
      refine (sDigitsIndex_c t W2).mono ?_
      rintro e W3 ⟨rfl, hb3⟩
      rw [hV]
      have hB : Below w.heap.size w W3 := Blw.after (Blw.after hb1 hb2) hb3
      clear hV hi
      generalize idxF (toL t) = I at *
      rcases i3 with iz | ⟨iz, i4⟩
      · go_wp2_with fail
        all_goals
          go_ret
          refine ⟨?_, hB⟩
          first
          | rfl
          | exact absurd (eq_of_beq iz) (by assumption)
          | (have e := eq_of_beq iz; simp [e]; done)
      · go_wp2_with fail
        all_goals
          go_ret
          refine ⟨?_, hB⟩
          first
          | rfl
          | rw [decide_eq_true i4, Bool.or_true]
          | (simp [i4]; done)
    · have hV := idxV_no hi
      go_wp2_with fail
      refine (iDigitsIndex_c t W1).mono ?_
      rintro e W2 ⟨rfl, hb2⟩
      rw [hV]
      go_wp2_with fail
      refine (sDigitsIndex_c t W2).mono ?_
      rintro e W3 ⟨rfl, hb3⟩
      rw [hV]
      have hB : Below w.heap.size w W3 := Blw.after (Blw.after hb1 hb2) hb3
      go_wp2_with fail
      go_ret
      exact ⟨rfl, hB⟩

namespace lawFnIndex
set_option maxRecDepth 100000 in
theorem lifted (os : Os) (started : os.Started) (H : Type) (enc : TypeId × Value → H) :
    ReturnsInHanded {} Try.checked os 6 .any (Rows.fnIndexSpec.pre6 enc Try.prog Try.f6 Rows.fnIndexRow.domain false) (Rows.fnIndexSpec.post enc Try.prog Try.f6 false true false false) := by
  refine returnsInHanded_of_change (C := Try.checked) own started (by kernel_rfl) Try.func6
    (ChangeSpec.witness6 (enc := enc) (C := Try.checked) false ⟨#[], #[.slice none 0 0], []⟩ 8 (by kernel_rfl) (by kernel_rfl) (by kernel_rfl) (by kernel_rfl)) ?_
  intro W base args ds gs before hval0 hW _ _
  have hval : ∀ (j : Nat) t v, Try.f6.params[j]? = some t → args[j]? = some v → Value.okWide Try.prog W .any base t v := hval0
  have hW' := hW
  obtain ⟨p, q, hA0, hV, rfl, _, _⟩ := hW
  have hA : DataW.TrodAll enc Try.prog W 0 (fun _ => true) true Try.f6.params.toList args.toList ds p := hA0
  rw [Try.params6] at hA hval
  obtain ⟨v0, vs0, d0, ds0, p0, q0, hargs, rfl, rfl, h0, r0⟩ := trodAll_cons hA
  obtain ⟨rfl, rfl, rfl⟩ := trodAll_nil r0
  obtain rfl : args = #[v0] := by cases args; simp_all
  obtain ⟨rfl, rfl⟩ := trodVars_none hV
  obtain ⟨a, len, cap, rfl⟩ := okWide_slice Try.underlying22 (hval 0 22 v0 rfl rfl)
  clear hA0 hval0
  simp only [List.append_nil] at hW'
  have hlt : ∀ x ∈ p0, x.block < W.heap.size := fun x hx => by simpa using hW'.lt x hx
  refine (lawIndex_c a len cap W (code_of h0)).mono fun e W' ⟨he, hg⟩ => ?_
  subst he
  have harg := Below.trod laidOut (by kernel_rfl) (of_decide_eq_true (by kernel_rfl)) h0 hg hlt
  refine ⟨_, rfl, _, _, _, [], p0, [], hW', ?_, ?_, ?_, hg.frame _, fun h => by cases h⟩
  · exact trodAll_cons_mk (shut_bool Try.underlying4 _) trodAll_mk0
  · exact trodAll_mk1 harg
  · rfl

theorem proved : Rows.FnIndexSaid :=
  OpenClaim.holds_of_wide 6 Try.f6 rfl rfl rfl rfl rfl rfl rfl ⟨rfl, rfl, rfl, rfl, rfl⟩ rfl rfl rfl rfl rfl (by kernel_rfl) Try.func6 (by kernel_rfl)
    (of_decide_eq_true (by kernel_rfl)) (by unfold Func.isWrapper; first | (rw [if_pos (by decide +kernel)]; kernel_rfl) | (rw [if_neg (by decide +kernel)]; exact ⟨rfl, rfl⟩))
    (fun os started H enc _ => lifted os started H enc)
end lawFnIndex
end Go.Proofs.Ytlcafjdinjdllaa

/- Merged texts: Rm ZB BaseP. No law is stated here. -/
import Derived.WalkKit
import Derived.ProofKit
import Derived.ChangeSame
import Derived.JoinedOf
import Derived.JoinedAt
import Derived.RowKit3
import Derived.Lib.SmallJoins
import Derived.ChangeSlices
import Derived.Carry
import Derived.Test.YtmdnfamjdogogabGreatDoorZ3
namespace Go.Proofs.YtmdnfamjdogogabGreatDoor
set_option linter.unusedSimpArgs false
set_option linter.unusedVariables false
open Go.RowKit

section
variable {P : Program} {ops : Array Oper} {Q : Exit → Act → World → Prop} {S : World → Prop}

def StepMv (P : Program) (ops : Array Oper) (Q : Exit → Act → World → Prop) (D PS : List Nat) (c : Nat) (B : Bool → World → Prop) (R : World → World → Prop) (F : Nat → Value → World → Prop) (l : List Value) (df : List Deferred) (i : Nat) (o : Oper) (j : Nat) : Prop :=
  ∀ (b : Bool) (u : Nat → Value) (w : World), (i = c → b = false) → B b w → (∀ k, (depsAt ops i).contains k = true → F k (u k) w) →
    ∀ K : Act → World → Prop, (∀ v w', B (b || i == c) w' → R w w' → F j v w' → (PS.contains j = true → w.heap.size ≤ blk v) → K ⟨(setU D (upd u j v) 0 l).toArray, df⟩ w') →
      wpList P ops (Exit.then K Q) [o] ⟨(setU D u 0 l).toArray, df⟩ w

theorem region_anyM {m c : Nat} {D T PS : List Nat} {B : Bool → World → Prop} {R : World → World → Prop} {F : Nat → Value → World → Prop} {l : List Value} {df : List Deferred}
    (ok : RegionOk ops m D T) (hcm : c < m) (hRr : ∀ w, R w w) (hBS : ∀ b w, B b w → S w) (hTc : c ∉ T) (hQ : T ≠ [] → ∀ c (a : Act) (d : Nat) v w, Q (.panic c) (a.put (some d) v) w → Q (.panic c) a w)
    (mono : ∀ j v w w', R w w' → F j v w → F j v w')
    (ps : ∀ j, PS.contains j = true → ∀ v w, F j v w → blk v < w.heap.size)
    (tps : ∀ i ∈ T, ∀ j, dstAt ops i = some j → PS.contains j = false)
    (step : ∀ i o j, i < m → i ∉ T → ops[i]? = some o → o.dst = some j → StepMv P ops Q D PS c B R F l df i o j)
    (stepY : ∀ i o j, i ∈ T → ops[i]? = some o → o.dst = some j → StepYOk P ops S D (fun w => ∃ b, B b w) F l df i o j)
    (fin : ∀ u w', B true w' → (∀ j, D.contains j = true → F j (u j) w') → (∀ j j', D.contains j = true → D.contains j' = true → PS.contains j = true → PS.contains j' = true → j ≠ j' → blk (u j) ≠ blk (u j')) →
      wpListS P ops Q S (ops.toList.drop m) ⟨(setU D u 0 l).toArray, df⟩ w') :
    ∀ (fuel : Nat) (L : Array Bool) (u : Nat → Value) (w : World), L.size = ops.size → (List.range ops.size).countP (fun j => !L.getD j true) ≤ fuel →
      (∀ i, m ≤ i → i < ops.size → L.getD i true = false) → (∀ i, L.getD i false = true → ∀ j ∈ edgesAt ops i, L.getD j false = true) → B (L.getD c true) w →
      (∀ i j, i < m → L.getD i false = true → dstAt ops i = some j → F j (u j) w) →
      (∀ i i' j j', i < m → i' < m → L.getD i false = true → L.getD i' false = true → dstAt ops i = some j → dstAt ops i' = some j' → PS.contains j = true → PS.contains j' = true → j ≠ j' → blk (u j) ≠ blk (u j')) →
      wpAnyH P .any ops Q S fuel L ⟨(setU D u 0 l).toArray, df⟩ w := by
  intro fuel
  -- all ahead of the tail have come up
  have toTail : ∀ (fuel : Nat) (L : Array Bool) (u : Nat → Value) (w : World), L.size = ops.size → (List.range ops.size).countP (fun j => !L.getD j true) ≤ fuel →
      (∀ i, m ≤ i → i < ops.size → L.getD i true = false) → B (L.getD c true) w → (∀ i, i < m → L.getD i true = true) →
      (∀ i j, i < m → L.getD i false = true → dstAt ops i = some j → F j (u j) w) →
      (∀ i i' j j', i < m → i' < m → L.getD i false = true → L.getD i' false = true → dstAt ops i = some j → dstAt ops i' = some j' → PS.contains j = true → PS.contains j' = true → j ≠ j' → blk (u j) ≠ blk (u j')) →
      wpAnyH P .any ops Q S fuel L ⟨(setU D u 0 l).toArray, df⟩ w := by
    intro fuel L u w hL hc ht hB hall hF hP
    have hall' : ∀ i, i < m → L.getD i false = true := fun i hi => by rw [getD_any (by have := ok.fit; omega) false true]; exact hall i hi
    have inD : ∀ j, D.contains j = true → ∃ i, i < m ∧ dstAt ops i = some j := by
      intro j hj
      simp only [List.contains_eq_mem, decide_eq_true_eq] at hj
      obtain ⟨i, hi⟩ := List.mem_iff_getElem?.1 hj
      have hi' : i < m := by
        have := (List.getElem?_eq_some_iff.1 hi).1
        rw [ok.len] at this; exact this
      obtain ⟨j', h1, h2⟩ := ok.dst i hi'
      rw [hi] at h1
      cases h1
      exact ⟨i, hi', h2⟩
    refine tail_any ok fuel m L _ w hL (fun j hj => ?_) ok.fit (Nat.le_refl _) ?_ (fin u w (by rw [hall c hcm] at hB; exact hB) ?_ ?_)
    · by_cases h : j < m
      · rw [hall j h]; simp [h]
      · rw [ht j (by omega) hj]; simp [h]
    · have e : (List.range ops.size).countP (fun j => !L.getD j true) = (List.range ops.size).countP (fun j => decide (m ≤ j)) := by
        apply List.countP_congr
        intro j hj
        have hj' : j < ops.size := by simpa using hj
        by_cases h : j < m
        · rw [hall j h]; simp; omega
        · rw [ht j (by omega) hj']; simp; omega
      have key : ∀ k, (List.range k).countP (fun j => decide (m ≤ j)) = k - m := by
        intro k
        induction k with
        | zero => simp
        | succ k ih =>
          rw [List.range_succ, List.countP_append, ih]
          by_cases h : m ≤ k
          · simp [h]; omega
          · simp [h]; omega
      rw [e, key] at hc
      exact hc
    · intro j hj
      obtain ⟨i, hi, hd⟩ := inD j hj
      exact hF i j hi (hall' i hi) hd
    · intro j j' hj hj' hp hp' hne
      obtain ⟨i, hi, hd⟩ := inD j hj
      obtain ⟨i', hi', hd'⟩ := inD j' hj'
      exact hP i i' j j' hi hi' (hall' i hi) (hall' i' hi') hd hd' hp hp' hne
  induction fuel with
  | zero =>
    intro L u w hL hc ht hcl hB hF hP
    refine toTail 0 L u w hL hc ht hB (fun i hi => ?_) hF hP
    have h0 : (List.range ops.size).countP (fun j => !L.getD j true) = 0 := by omega
    rw [List.countP_eq_zero] at h0
    have := h0 i (by have := ok.fit; simp; omega)
    simpa using this
  | succ fuel ih =>
    intro L u w hL hc ht hcl hB hF hP
    by_cases hall : ∀ i, i < m → L.getD i true = true
    · exact toTail (fuel + 1) L u w hL hc ht hB hall hF hP
    · -- the least that has not come up may come up
      have hex : ∃ i, i < m ∧ L.getD i true = false := by
        refine Classical.byContradiction fun h => hall fun i hi => ?_
        cases e : L.getD i true with
        | true => rfl
        | false => exact absurd ⟨i, hi, e⟩ h
      have hne : Region.ready .any ops L ≠ [] := by
        obtain ⟨i0, h01, h02⟩ := hex
        have : ∀ n i, i ≤ n → i < m → L.getD i true = false → ∃ k, k ∈ Region.ready .any ops L := by
          intro n
          induction n with
          | zero =>
            intro i hi hm hf
            have : i = 0 := by omega
            subst this
            exact ⟨0, ready_iff.2 ⟨by have := ok.fit; omega, hf, fun j hj => absurd (ok.low 0 (by have := ok.fit; omega) j hj) (by omega)⟩⟩
          | succ n ihn =>
            intro i hi hm hf
            by_cases hd : ∀ j ∈ edgesAt ops i, L.getD j false = true
            · exact ⟨i, ready_iff.2 ⟨by have := ok.fit; omega, hf, hd⟩⟩
            · simp only [Classical.not_forall] at hd
              obtain ⟨j, hj, hjf⟩ := hd
              have hji := ok.low i (by have := ok.fit; omega) j hj
              refine ihn j (by omega) (by omega) ?_
              rw [getD_any (by have := ok.fit; omega) true false]
              simpa using hjf
        obtain ⟨k, hk⟩ := this i0 i0 (Nat.le_refl _) h01 h02
        intro e
        rw [e] at hk
        cases hk
      -- one more has come up
      have next : ∀ i, i < m → i ∈ Region.ready .any ops L → ∀ j, dstAt ops i = some j → ∀ v w', B (L.getD c true || i == c) w' → R w w' → F j v w' → (PS.contains j = true → w.heap.size ≤ blk v) →
          wpAnyH P .any ops Q S fuel (L.setIfInBounds i true) ⟨(setU D (upd u j v) 0 l).toArray, df⟩ w' := by
        intro i him hi j hdj v w' hB' hbel hFv hpv
        obtain ⟨h1, h2, h3⟩ := ready_iff.1 hi
        obtain ⟨jx, hDj, hdj'⟩ := ok.dst i him
        rw [hdj] at hdj'
        cases hdj'
        have other : ∀ i' j', i' < m → i' ≠ i → dstAt ops i' = some j' → j' ≠ j := by
          intro i' j' hi' hne' hd' e
          subst e
          obtain ⟨x, hx1, hx2⟩ := ok.dst i' hi'
          rw [hd'] at hx2
          cases hx2
          exact hne' (ok.inj i' i j' hx1 hDj)
        have gL : ∀ i' d, (L.setIfInBounds i true).getD i' d = if i' = i then true else L.getD i' d := fun i' d => getD_set d (by omega)
        have hBn : B ((L.setIfInBounds i true).getD c true) w' := by
          rw [gL]
          by_cases e : c = i
          · subst e; simpa using hB'
          · have e2 : (i == c) = false := by simpa using (fun h : i = c => e h.symm)
            rw [e2, Bool.or_false] at hB'
            rw [if_neg e]; exact hB'
        refine ih _ (upd u j v) w' (by simpa using hL) ?_ ?_ ?_ hBn ?_ ?_
        · have := count_set hL h1 h2
          omega
        · intro i' hi' hn'
          rw [gL, if_neg (by omega)]
          exact ht i' hi' hn'
        · intro x hx j' hj'
          rw [gL]
          split
          · rfl
          · rw [gL] at hx
            split at hx
            · rename_i e; subst e; exact h3 j' hj'
            · exact hcl x hx j' hj'
        · intro i' j' hi' hl' hd'
          rw [gL] at hl'
          by_cases e : i' = i
          · subst e
            rw [hdj] at hd'
            cases hd'
            simp only [upd, if_true]
            exact hFv
          · rw [if_neg e] at hl'
            simp only [upd, if_neg (other i' j' hi' e hd')]
            exact mono _ _ _ _ hbel (hF i' j' hi' hl' hd')
        · intro i1 i2 j1 j2 hi1 hi2 hl1 hl2 hd1 hd2 hp1 hp2 hne12
          rw [gL] at hl1 hl2
          by_cases e1 : i1 = i
          · by_cases e2 : i2 = i
            · subst e1; rw [e2, hd1] at hd2; cases hd2; exact absurd rfl hne12
            · subst e1
              rw [hdj] at hd1
              cases hd1
              rw [if_neg e2] at hl2
              simp only [upd, if_true, if_neg (other i2 j2 hi2 e2 hd2)]
              have a1 := hpv hp1
              have a2 := ps j2 hp2 _ _ (hF i2 j2 hi2 hl2 hd2)
              omega
          · rw [if_neg e1] at hl1
            by_cases e2 : i2 = i
            · subst e2
              rw [hdj] at hd2
              cases hd2
              simp only [upd, if_true, if_neg (other i1 j1 hi1 e1 hd1)]
              have a1 := hpv hp2
              have a2 := ps j1 hp1 _ _ (hF i1 j1 hi1 hl1 hd1)
              omega
            · rw [if_neg e2] at hl2
              simp only [upd, if_neg (other i1 j1 hi1 e1 hd1), if_neg (other i2 j2 hi2 e2 hd2)]
              exact hP i1 i2 j1 j2 hi1 hi2 hl1 hl2 hd1 hd2 hp1 hp2 hne12
      have depsHold : ∀ i, i < m → i ∈ Region.ready .any ops L → ∀ k, (depsAt ops i).contains k = true → F k (u k) w := by
        intro i him hi k hk
        obtain ⟨h1, h2, h3⟩ := ready_iff.1 hi
        simp only [List.contains_eq_mem, decide_eq_true_eq, depsAt, List.mem_filterMap] at hk
        obtain ⟨e, he, hek⟩ := hk
        have hei := ok.low i h1 e he
        exact hF e k (by omega) (h3 e he) hek
      have put_eq : ∀ j v, D.contains j = true → (⟨(setU D u 0 l).toArray, df⟩ : Act).put (some j) v = ⟨(setU D (upd u j v) 0 l).toArray, df⟩ := by
        intro j v hj
        simp only [Act.put, List.setIfInBounds_toArray, setU_put D u l j v hj]
      by_cases hT : ∃ i ∈ T, i ∈ Region.ready .any ops L
      · obtain ⟨i, hiT, hi⟩ := hT
        obtain ⟨h1, h2, h3⟩ := ready_iff.1 hi
        have him := (ok.take i hiT).1
        obtain ⟨j, hDj, hdj⟩ := ok.dst i him
        have ho : ops[i]? = some ops[i] := by simp [h1]
        have hdo : ops[i].dst = some j := by simpa [dstAt, ho] using hdj
        have hDc : D.contains j = true := by simp only [List.contains_eq_mem, decide_eq_true_eq]; exact List.mem_of_getElem? hDj
        obtain ⟨v, hy, hv⟩ := stepY i _ j hiT ho hdo u w ⟨_, hB⟩ (depsHold i him hi)
        have hTne : T ≠ [] := fun e => by rw [e] at hiT; cases hiT
        refine wpAnyH_first ho (Region.noSelect_spec (ok.nosel hTne)) (fun c a w => by rw [hdo]; exact hQ hTne c a j v w) fuel L _ w (fun jj oj hoj hne' hun hno => ?_) hi hy (hBS _ w hB) ?_
        · have hjj : jj < ops.size := (Array.getElem?_eq_some_iff.1 hoj).1
          rcases (ok.take i hiT).2 jj hjj hne' with h | h | h
          · have := reach_listed hcl _ i jj h3 h
            rw [getD_any (by omega) false true, hun] at this
            cases this
          · simp only [edgesAt, hoj, Option.map_some, Option.getD_some, List.mem_map, List.mem_filter, Array.mem_toList_iff] at h
            obtain ⟨e, ⟨he, hb⟩, hon⟩ := h
            exact absurd hon (hno e he hb)
          · exact h _ oj ho hoj
        · rw [hdo, put_eq j v hDc]
          exact next i him hi j hdj v w (by rw [show (i == c) = false by simpa using (fun h : i = c => by subst h; exact hTc hiT), Bool.or_false]; exact hB) (hRr w) hv fun hp => by rw [tps i hiT j hdj] at hp; cases hp
      · refine ⟨fun e => absurd e hne, fun i hi => ?_⟩
        obtain ⟨h1, h2, h3⟩ := ready_iff.1 hi
        have him : i < m := by
          rcases Nat.lt_or_ge i m with h | h
          · exact h
          · obtain ⟨k, hk1, hk2⟩ := hex
            have all : ∀ n k, k ≤ n → k < i → L.getD k false = true := by
              intro n
              induction n with
              | zero =>
                intro k hkn hki
                rcases ok.tail i h1 h k hki with hr | ⟨hkm, hkT, hr⟩
                · exact reach_listed hcl _ i k h3 hr
                · cases hl : L.getD k true with
                  | true => rw [getD_any (by have := ok.fit; omega) false true, hl]
                  | false =>
                    exact absurd ⟨k, hkT, ready_iff.2 ⟨by have := ok.fit; omega, hl, fun d hd => absurd (ok.low k (by have := ok.fit; omega) d hd) (by omega)⟩⟩ hT
              | succ n ihn =>
                intro k hkn hki
                rcases ok.tail i h1 h k hki with hr | ⟨hkm, hkT, hr⟩
                · exact reach_listed hcl _ i k h3 hr
                · cases hl : L.getD k true with
                  | true => rw [getD_any (by have := ok.fit; omega) false true, hl]
                  | false =>
                    exact absurd ⟨k, hkT, ready_iff.2 ⟨by have := ok.fit; omega, hl, fun d hd => by
                      have hdk := ok.low k (by have := ok.fit; omega) d hd
                      exact ihn d (by omega) (by omega)⟩⟩ hT
            have := all k k (Nat.le_refl _) (by omega)
            rw [getD_any (by have := ok.fit; omega) false true, hk2] at this
            cases this
        have hiT : i ∉ T := fun h => hT ⟨i, h, hi⟩
        obtain ⟨j, hDj, hdj⟩ := ok.dst i him
        have ho : ops[i]? = some ops[i] := by simp [h1]
        have hdo : ops[i].dst = some j := by simpa [dstAt, ho] using hdj
        exact wpOp_of_list ho (step i _ j him hiT ho hdo _ u w (fun h => by subst h; exact h2) hB (depsHold i him hi) _ (fun v w' hB' hbel hFv hpv => ⟨hBS _ w' hB', next i him hi j hdj v w' hB' hbel hFv hpv⟩))

/-- ████ THE REGION: m operations in whatever order, each by a fact on its slot; then the tail ████ -/
theorem region_move {id : Nat} {l : List Value} {df : List Deferred} {w : World} (hmx : P.follows .mixedOrders = true)
    (m c : Nat) (D T PS : List Nat) (B : Bool → World → Prop) (R : World → World → Prop) (F : Nat → Value → World → Prop)
    (chk : regionOk ops m D T = true) (hcm : c < m) (hTc : c ∉ T) (hRr : ∀ w, R w w) (hBS : ∀ b w, B b w → S w) (hQ : T ≠ [] → ∀ c (a : Act) (d : Nat) v w, Q (.panic c) (a.put (some d) v) w → Q (.panic c) a w)
    (mono : ∀ j v w w', R w w' → F j v w → F j v w')
    (ps : ∀ j, PS.contains j = true → ∀ v w, F j v w → blk v < w.heap.size)
    (hB0 : B false w.drew)
    (tps : ∀ i ∈ T, ∀ j, dstAt ops i = some j → PS.contains j = false)
    (step : ∀ i o j, i < m → i ∉ T → ops[i]? = some o → o.dst = some j → StepMv P ops Q D PS c B R F l df i o j)
    (stepY : ∀ i o j, i ∈ T → ops[i]? = some o → o.dst = some j → StepYOk P ops S D (fun w => ∃ b, B b w) F l df i o j)
    (fin : ∀ u w', B true w' → (∀ j, D.contains j = true → F j (u j) w') → (∀ j j', D.contains j = true → D.contains j' = true → PS.contains j = true → PS.contains j' = true → j ≠ j' → blk (u j) ≠ blk (u j')) →
      wpListS P ops Q S (ops.toList.drop m) ⟨(setU D u 0 l).toArray, df⟩ w') :
    (Code.region id ops true).wp P Q ⟨l.toArray, df⟩ w := by
  have ok := RegionOk.of chk
  refine wp_region_held (S := S) hmx ?_
  have h := region_anyM (P := P) (Q := Q) (l := l) (df := df) ok hcm hRr hBS hTc hQ mono ps tps step stepY fin ops.size (Array.replicate ops.size false) (fun k => l.getD k undef) w.drew (by simp)
    (by have := List.countP_le_length (p := fun j => !(Array.replicate ops.size false).getD j true) (l := List.range ops.size); simpa using this)
    (fun i _ hi => by simp [Array.getD_eq_getD_getElem?, hi])
    (fun i hl => by simp [Array.getD_eq_getD_getElem?, Array.getElem?_replicate] at hl; split at hl <;> simp at hl) (by rw [show (Array.replicate ops.size false).getD c true = false by have hh : c < ops.size := (by have := ok.fit; omega); simp [Array.getD_eq_getD_getElem?, Array.getElem?_replicate, hh]]; exact hB0)
    (fun i j hi hl => by simp [Array.getD_eq_getD_getElem?, Array.getElem?_replicate] at hl; split at hl <;> simp at hl)
    (fun i i' j j' hi hi' hl => by simp [Array.getD_eq_getD_getElem?, Array.getElem?_replicate] at hl; split at hl <;> simp at hl)
  rw [setU_self] at h
  exact h

def StepsM (P : Program) (ops : Array Oper) (Q : Exit → Act → World → Prop) (m : Nat) (D PS : List Nat) (c : Nat) (B : Bool → World → Prop) (R : World → World → Prop) (F : Nat → Value → World → Prop) (l : List Value) (df : List Deferred) : Nat → List Oper → Prop
  | _, [] => True
  | i, o :: os => (i < m → ∀ j, o.dst = some j → StepMv P ops Q D PS c B R F l df i o j) ∧ StepsM P ops Q m D PS c B R F l df (i + 1) os
theorem StepsM.at {m c : Nat} {D PS : List Nat} {B : Bool → World → Prop} {R : World → World → Prop} {F : Nat → Value → World → Prop} {l : List Value} {df : List Deferred} :
    ∀ (os : List Oper) (i : Nat), StepsM P ops Q m D PS c B R F l df i os → ∀ k o j, os[k]? = some o → i + k < m → o.dst = some j → StepMv P ops Q D PS c B R F l df (i + k) o j
  | [], _, _, k, o, j, ho, _, _ => by simp at ho
  | x :: os, i, h, 0, o, j, ho, hm, hj => by
    simp at ho
    subst ho
    exact h.1 hm j hj
  | x :: os, i, h, k + 1, o, j, ho, hm, hj => by
    have := StepsM.at os (i + 1) h.2 k o j (by simpa using ho) (by omega) hj
    rwa [show i + 1 + k = i + (k + 1) by omega] at this
theorem region_mv {id : Nat} {os : List Oper} {l : List Value} {df : List Deferred} {w : World} (m c : Nat) (D : List Nat) (B : Bool → World → Prop) (R : World → World → Prop) (F : Nat → Value → World → Prop)
    (hmx : P.follows .mixedOrders = true) (chk : regionOk os.toArray m D [] = true) (hcm : c < m) (hRr : ∀ w, R w w) (mono : ∀ j v w w', R w w' → F j v w → F j v w') (hB0 : B false w.drew)
    (steps : StepsM P os.toArray Q m D [] c B R F l df 0 os)
    (fin : ∀ u w', B true w' → (∀ j, D.contains j = true → F j (u j) w') → wpList P os.toArray Q (os.drop m) ⟨(setU D u 0 l).toArray, df⟩ w') :
    (Code.region id os.toArray true).wp P Q ⟨l.toArray, df⟩ w := by
  refine region_move (S := fun _ => True) hmx m c D [] [] B R F chk hcm (by simp) hRr (fun _ _ _ => trivial) (fun h => absurd rfl h) mono (fun j hj => by simp at hj) hB0 (fun i hi => by simp at hi) (fun i o j hi _ ho hj => ?_) (fun i o j hi => by simp at hi) (fun u w' hB hF _ => ?_)
  · have := StepsM.at os 0 steps i o j (by simpa using ho) (by omega) hj
    simpa using this
  · have := fin u w' hB hF
    refine wpListS_true ?_
    simpa using this
end
end Go.Proofs.YtmdnfamjdogogabGreatDoor

namespace Go.Proofs.YtmdnfamjdogogabGreatDoor
set_option linter.unusedSimpArgs false
set_option linter.unusedVariables false
open Go.RowKit Ieee

theorem txB_sz (s : ByteArray) (p : Nat × Nat) (n : Nat) : (txB s p n).size = s.size + 27 := by
  have e := txB_len s p n
  unfold txB
  rw [← toL_len, toL_bs, e]
theorem strs5 (w : World) (t : TypeId) : Strs 1 w.heap.size 5 (w.alloc (.cells #[.string ⟨#[48]⟩, .string ⟨#[108]⟩, .string ⟨#[32]⟩, .string ⟨#[102]⟩, .string ⟨#[55]⟩] t)) := by
  intro i hi
  match i, hi with
  | 0, _ => exact ⟨⟨#[48]⟩, by go_simp, by decide⟩
  | 1, _ => exact ⟨⟨#[108]⟩, by go_simp, by decide⟩
  | 2, _ => exact ⟨⟨#[32]⟩, by go_simp, by decide⟩
  | 3, _ => exact ⟨⟨#[102]⟩, by go_simp, by decide⟩
  | 4, _ => exact ⟨⟨#[55]⟩, by go_simp, by decide⟩
def G8 (T : ByteArray) (i rb : Nat) (k : Nat) (v : Value) : Prop :=
  match k - 25 with
  | 0 => v = .string T
  | 1 => v = .int .i64 (i : Int)
  | 2 => v = .string (T.extract 0 i)
  | 3 => v = .pointer (some ⟨rb, 0, none⟩)
  | 4 => True
  | 5 => ∃ t : ByteArray, v = .string t ∧ t.size ≤ 1
  | 6 => ∃ t : ByteArray, v = .string t ∧ t.size ≤ 100
  | 7 => v = .string T
  | 8 => v = .int .i64 (i : Int)
  | 9 => v = .int .i64 ((i : Int) + 1)
  | 10 => v = .string (T.extract (i + 1) T.size)
  | 11 => ∃ t : ByteArray, v = .string t ∧ t.size ≤ 200
  | _ => True
def B8 (rb : Nat) (sv : Value) (W0 : World) (b : Bool) (w : World) : Prop := Moved rb W0 w ∧ (b = false → Src sv rb w ∧ ∃ p : Int, 0 ≤ p ∧ p ≤ 700 ∧ Rd rb sv p w)
def F8 (T : ByteArray) (i rb : Nat) (k : Nat) (v : Value) (w : World) : Prop := if k = 29 then ∃ g : Nat, v = .slice (some ⟨g, 0, none⟩) 5 5 ∧ g ≠ rb ∧ Strs 1 g 5 w else G8 T i rb k v
theorem F8_of {T : ByteArray} {i rb k : Nat} {v : Value} {w : World} (h : k ≠ 29) (g : G8 T i rb k v) : F8 T i rb k v w := by unfold F8; rw [if_neg h]; exact g
theorem F8_get {T : ByteArray} {i rb k : Nat} {v : Value} {w : World} (h : k ≠ 29) (g : F8 T i rb k v w) : G8 T i rb k v := by unfold F8 at g; rw [if_neg h] at g; exact g
theorem F8_mono {T : ByteArray} {i rb : Nat} (k : Nat) (v : Value) (w w' : World) (h : Moved rb w w') (hf : F8 T i rb k v w) : F8 T i rb k v w' := by
  unfold F8 at *
  split
  · rename_i e
    rw [if_pos e] at hf
    obtain ⟨g, h1, h2, h3⟩ := hf
    exact ⟨g, h1, h2, h.strs h2 h3⟩
  · rename_i e
    rw [if_neg e] at hf
    exact hf
def OneT (w : World) (e : Ending) (w' : World) : Prop := ∃ t : ByteArray, e = .returned (.string t) ∧ t.size ≤ 1000 ∧ Below w.heap.size w w'
set_option maxRecDepth 100000 in
set_option maxHeartbeats 2000000 in
theorem drawEntryRead_c (v : Value) (w : World) (h : Code v w) : Calls Tryz.prog 8 #[v] w (OneT w) := by
  go_enter Tryz.func8, Tryz.ntmps8
  go_wp2_with fail
  refine (l6Open_c v w h).mono ?_
  rintro e W1 ⟨sv, rfl, hr, hs, hz, hb⟩
  go_wp2_with fail
  refine (l92Entry_c w.heap.size sv 0 W1 hs hr ⟨by omega, by omega⟩).mono ?_
  rintro e W2 ⟨v', p1, ⟨s, p, n, rfl, e1, e2, e3⟩, rfl, q0, q1, h1, hs1, m1⟩
  have hB2 : Below w.heap.size w W2 := m1.2.2.2 w hb (Nat.le_refl _)
  have HI := sEntryText_c s p n W2 (by omega) e2.w e3
  have hT1 : 1 ≤ (txB s p n).size := by rw [txB_sz]; omega
  have hT2 : (txB s p n).size ≤ 40 := by rw [txB_sz]; omega
  clear h hr hs hz hb m1
  rcases Bool.eq_false_or_eq_true (rtE s p n) with hq | hq
  · rw [etV_t hq] at HI
    generalize txB s p n = T at *
    clear hq
    go_wp2_with fail
    refine HI.mono ?_
    rintro e W3 ⟨rfl, hb3⟩
    have H3 := Lib.hid (h1.keep hb3)
    have S3 := Lib.hid (hs1.keep hb3)
    have hB3 : Below w.heap.size w W3 := Blw.after hB2 hb3
    clear HI h1 hs1 hb3 hB2
    go_wp2_with fail
    refine (pick_d w.heap.size sv p1 T.size W3 S3.out H3.out ⟨by omega, by omega⟩ ⟨by omega, by omega⟩).mono ?_
    rintro e W4 ⟨v, p2, ⟨k, rfl, k0, k1⟩, rfl, r0, r1, h4, hs4, m4⟩
    obtain ⟨i, rfl⟩ : ∃ i : Nat, k = (i : Int) := ⟨k.toNat, by omega⟩
    have hi : i < T.size := by omega
    have hB4 : Below w.heap.size w W4 := m4.2.2.2 w hB3 (Nat.le_refl _)
    clear H3 S3 hB3 m4
    go_wp2_with fail
    refine (pick_d w.heap.size sv p2 6 W4 hs4 h4 ⟨by omega, by omega⟩ ⟨by omega, by omega⟩).mono ?_
    rintro e W5 ⟨v, p3, ⟨c, rfl, c0, c1⟩, rfl, y0, y1, h5, hs5, m5⟩
    have hB5 : Below w.heap.size w W5 := m5.2.2.2 w hB4 (Nat.le_refl _)
    clear h4 hs4 hB4 m5
    by_cases b0 : c = 0
    · subst b0
      have HB0 := Lib.hid (show B8 w.heap.size sv W5 false W5.drew from ⟨(Moved.refl _ _).drew, fun _ => ⟨hs5.keep ((Below.refl _ _).drew), p3, by omega, by omega, h5.keep ((Below.refl _ _).drew)⟩⟩)
      have z5 : w.heap.size < W5.heap.size := World.block_lt_of_cell? W5 _ h5.1
      have HB5 := Lib.hid hB5
      clear h5 hs5 hB5 c0 c1 k0 k1 q0 q1 r0 r1 y0 y1
      go_wp2_with fail
      refine region_mv 12 5 [25, 26, 27, 28, 29, 30, 31, 32, 33, 34, 35, 36] (B8 w.heap.size sv W5) (Moved w.heap.size) (F8 T i w.heap.size) (by kernel_rfl) (by kernel_rfl) (by decide) (Moved.refl _) F8_mono HB0.out ?_ ?_
      · simp only [StepsM]
        refine ⟨fun _ j hj => ?_, fun _ j hj => ?_, fun _ j hj => ?_, fun _ j hj => ?_, fun _ j hj => ?_, fun _ j hj => ?_, fun _ j hj => ?_, fun _ j hj => ?_, fun _ j hj => ?_, fun _ j hj => ?_, fun _ j hj => ?_, fun _ j hj => ?_, fun h => absurd h (by decide), trivial⟩
        · obtain rfl : (25 : Nat) = j := Option.some.inj hj
          clear hj
          intro b u W hb hB hd K hK
          simp only [setU, upd, List.map_cons, List.map_nil, List.contains_cons, List.contains_nil, Nat.reduceBEq, Nat.reduceAdd, Bool.or_false, Bool.false_or, Bool.or_true, Bool.true_or, Bool.false_eq_true, if_false, if_true, ite_true, ite_false, Nat.reduceEqDiff, beq_self_eq_true] at hK ⊢
          go_wp2_with fail
          exact hK _ _ hB (Moved.refl _ _) (F8_of (by decide) rfl) (by simp)
        · obtain rfl : (26 : Nat) = j := Option.some.inj hj
          clear hj
          intro b u W hb hB hd K hK
          simp only [setU, upd, List.map_cons, List.map_nil, List.contains_cons, List.contains_nil, Nat.reduceBEq, Nat.reduceAdd, Bool.or_false, Bool.false_or, Bool.or_true, Bool.true_or, Bool.false_eq_true, if_false, if_true, ite_true, ite_false, Nat.reduceEqDiff, beq_self_eq_true] at hK ⊢
          go_wp2_with fail
          exact hK _ _ hB (Moved.refl _ _) (F8_of (by decide) rfl) (by simp)
        · obtain rfl : (27 : Nat) = j := Option.some.inj hj
          clear hj
          intro b u W hb hB hd K hK
          have f25 : u 25 = .string T := F8_get (by decide) (hd 25 (by kernel_rfl))
          have f26 : u 26 = .int .i64 (i : Int) := F8_get (by decide) (hd 26 (by kernel_rfl))
          simp only [setU, upd, List.map_cons, List.map_nil, List.contains_cons, List.contains_nil, Nat.reduceBEq, Nat.reduceAdd, Bool.or_false, Bool.false_or, Bool.or_true, Bool.true_or, Bool.false_eq_true, if_false, if_true, ite_true, ite_false, Nat.reduceEqDiff, beq_self_eq_true] at hK ⊢
          rw [f25, f26] at hK ⊢
          clear f25 f26
          go_wp2_with fail
          exact hK _ _ hB (Moved.refl _ _) (F8_of (by decide) rfl) (by simp)
        · obtain rfl : (28 : Nat) = j := Option.some.inj hj
          clear hj
          intro b u W hb hB hd K hK
          simp only [setU, upd, List.map_cons, List.map_nil, List.contains_cons, List.contains_nil, Nat.reduceBEq, Nat.reduceAdd, Bool.or_false, Bool.false_or, Bool.or_true, Bool.true_or, Bool.false_eq_true, if_false, if_true, ite_true, ite_false, Nat.reduceEqDiff, beq_self_eq_true] at hK ⊢
          go_wp2_with fail
          exact hK _ _ hB (Moved.refl _ _) (F8_of (by decide) rfl) (by simp)
        · obtain rfl : (29 : Nat) = j := Option.some.inj hj
          clear hj
          intro b u W hb hB hd K hK
          simp only [setU, upd, List.map_cons, List.map_nil, List.contains_cons, List.contains_nil, Nat.reduceBEq, Nat.reduceAdd, Bool.or_false, Bool.false_or, Bool.or_true, Bool.true_or, Bool.false_eq_true, if_false, if_true, ite_true, ite_false, Nat.reduceEqDiff, beq_self_eq_true] at hK ⊢
          have hB' : ∀ t, B8 w.heap.size sv W5 b (W.alloc (.cells #[.string ⟨#[48]⟩, .string ⟨#[108]⟩, .string ⟨#[32]⟩, .string ⟨#[102]⟩, .string ⟨#[55]⟩] t)) := fun t => ⟨hB.1.alloc _, fun h => by
            obtain ⟨a1, p', a2, a3, a4⟩ := hB.2 h
            have hk := (Below.refl W.heap.size W).alloc (Nat.le_refl _) (.cells #[.string ⟨#[48]⟩, .string ⟨#[108]⟩, .string ⟨#[32]⟩, .string ⟨#[102]⟩, .string ⟨#[55]⟩] t)
            exact ⟨a1.keep hk, p', a2, a3, a4.keep hk⟩⟩
          have hne : W.heap.size ≠ w.heap.size := by have := hB.1.1; omega
          go_wp2_with fail
          exact hK _ _ (hB' _) ((Moved.refl _ _).alloc _) ⟨W.heap.size, rfl, hne, strs5 W _⟩ (by simp)
        · obtain rfl : (30 : Nat) = j := Option.some.inj hj
          clear hj
          intro b u W hb hB hd K hK
          have f28 : u 28 = .pointer (some ⟨w.heap.size, 0, none⟩) := F8_get (by decide) (hd 28 (by kernel_rfl))
          obtain ⟨g, f29, hg, hst⟩ : ∃ g : Nat, u 29 = .slice (some ⟨g, 0, none⟩) 5 5 ∧ g ≠ w.heap.size ∧ Strs 1 g 5 W := hd 29 (by kernel_rfl)
          simp only [setU, upd, List.map_cons, List.map_nil, List.contains_cons, List.contains_nil, Nat.reduceBEq, Nat.reduceAdd, Bool.or_false, Bool.false_or, Bool.or_true, Bool.true_or, Bool.false_eq_true, if_false, if_true, ite_true, ite_false, Nat.reduceEqDiff, beq_self_eq_true] at hK ⊢
          rw [f28, f29] at hK ⊢
          clear f28 f29
          obtain rfl : b = false := hb rfl
          obtain ⟨hs6, p6, q6, q7, h6⟩ := hB.2 rfl
          have hm6 := hB.1
          clear hB hb hd
          go_wp2_with fail
          refine (of_c w.heap.size sv p6 1 g 5 5 W hs6 h6 ⟨by omega, by omega⟩ ⟨by omega, by omega⟩ hg hst).mono ?_
          rintro e W6 ⟨v6, p7, ⟨t, rfl, ht⟩, rfl, -, -, -, -, m6⟩
          go_wp2_with fail
          exact hK _ _ ⟨hm6.trans m6, fun h => by cases h⟩ m6 (F8_of (by decide) ⟨t, rfl, ht⟩) (by simp)
        · obtain rfl : (31 : Nat) = j := Option.some.inj hj
          clear hj
          intro b u W hb hB hd K hK
          have f27 : u 27 = .string (T.extract 0 i) := F8_get (by decide) (hd 27 (by kernel_rfl))
          obtain ⟨t30, f30, h30⟩ : ∃ t : ByteArray, u 30 = .string t ∧ t.size ≤ 1 := F8_get (by decide) (hd 30 (by kernel_rfl))
          simp only [setU, upd, List.map_cons, List.map_nil, List.contains_cons, List.contains_nil, Nat.reduceBEq, Nat.reduceAdd, Bool.or_false, Bool.false_or, Bool.or_true, Bool.true_or, Bool.false_eq_true, if_false, if_true, ite_true, ite_false, Nat.reduceEqDiff, beq_self_eq_true] at hK ⊢
          rw [f27, f30] at hK ⊢
          clear f27 f30
          go_wp2_with fail
          exact hK _ _ hB (Moved.refl _ _) (F8_of (by decide) ⟨_, rfl, by rw [ByteArray.size_append, ByteArray.size_extract]; omega⟩) (by simp)
        · obtain rfl : (32 : Nat) = j := Option.some.inj hj
          clear hj
          intro b u W hb hB hd K hK
          simp only [setU, upd, List.map_cons, List.map_nil, List.contains_cons, List.contains_nil, Nat.reduceBEq, Nat.reduceAdd, Bool.or_false, Bool.false_or, Bool.or_true, Bool.true_or, Bool.false_eq_true, if_false, if_true, ite_true, ite_false, Nat.reduceEqDiff, beq_self_eq_true] at hK ⊢
          go_wp2_with fail
          exact hK _ _ hB (Moved.refl _ _) (F8_of (by decide) rfl) (by simp)
        · obtain rfl : (33 : Nat) = j := Option.some.inj hj
          clear hj
          intro b u W hb hB hd K hK
          simp only [setU, upd, List.map_cons, List.map_nil, List.contains_cons, List.contains_nil, Nat.reduceBEq, Nat.reduceAdd, Bool.or_false, Bool.false_or, Bool.or_true, Bool.true_or, Bool.false_eq_true, if_false, if_true, ite_true, ite_false, Nat.reduceEqDiff, beq_self_eq_true] at hK ⊢
          go_wp2_with fail
          exact hK _ _ hB (Moved.refl _ _) (F8_of (by decide) rfl) (by simp)
        · obtain rfl : (34 : Nat) = j := Option.some.inj hj
          clear hj
          intro b u W hb hB hd K hK
          have f33 : u 33 = .int .i64 (i : Int) := F8_get (by decide) (hd 33 (by kernel_rfl))
          simp only [setU, upd, List.map_cons, List.map_nil, List.contains_cons, List.contains_nil, Nat.reduceBEq, Nat.reduceAdd, Bool.or_false, Bool.false_or, Bool.or_true, Bool.true_or, Bool.false_eq_true, if_false, if_true, ite_true, ite_false, Nat.reduceEqDiff, beq_self_eq_true] at hK ⊢
          rw [f33] at hK ⊢
          clear f33
          go_wp2_with fail
          exact hK _ _ hB (Moved.refl _ _) (F8_of (by decide) rfl) (by simp)
        · obtain rfl : (35 : Nat) = j := Option.some.inj hj
          clear hj
          intro b u W hb hB hd K hK
          have f32 : u 32 = .string T := F8_get (by decide) (hd 32 (by kernel_rfl))
          have f34 : u 34 = .int .i64 ((i : Int) + 1) := F8_get (by decide) (hd 34 (by kernel_rfl))
          simp only [setU, upd, List.map_cons, List.map_nil, List.contains_cons, List.contains_nil, Nat.reduceBEq, Nat.reduceAdd, Bool.or_false, Bool.false_or, Bool.or_true, Bool.true_or, Bool.false_eq_true, if_false, if_true, ite_true, ite_false, Nat.reduceEqDiff, beq_self_eq_true] at hK ⊢
          rw [f32, f34] at hK ⊢
          clear f32 f34
          go_wp2_with fail
          exact hK _ _ hB (Moved.refl _ _) (F8_of (by decide) rfl) (by simp)
        · obtain rfl : (36 : Nat) = j := Option.some.inj hj
          clear hj
          intro b u W hb hB hd K hK
          obtain ⟨t31, f31, h31⟩ : ∃ t : ByteArray, u 31 = .string t ∧ t.size ≤ 100 := F8_get (by decide) (hd 31 (by kernel_rfl))
          have f35 : u 35 = .string (T.extract (i + 1) T.size) := F8_get (by decide) (hd 35 (by kernel_rfl))
          simp only [setU, upd, List.map_cons, List.map_nil, List.contains_cons, List.contains_nil, Nat.reduceBEq, Nat.reduceAdd, Bool.or_false, Bool.false_or, Bool.or_true, Bool.true_or, Bool.false_eq_true, if_false, if_true, ite_true, ite_false, Nat.reduceEqDiff, beq_self_eq_true] at hK ⊢
          rw [f31, f35] at hK ⊢
          clear f31 f35
          go_wp2_with fail
          exact hK _ _ hB (Moved.refl _ _) (F8_of (by decide) ⟨_, rfl, by rw [ByteArray.size_append, ByteArray.size_extract]; omega⟩) (by simp)
      · intro u W6 hB6 hF
        obtain ⟨t, ft, ht⟩ : ∃ t : ByteArray, u 36 = .string t ∧ t.size ≤ 200 := F8_get (by decide) (hF 36 (by kernel_rfl))
        have hB7 : Below w.heap.size w W6 := hB6.1.2.2.2 w HB5.out (Nat.le_refl _)
        simp only [List.drop_succ_cons, List.drop_zero]
        simp only [setU, upd, List.map_cons, List.map_nil, List.contains_cons, List.contains_nil, Nat.reduceBEq, Nat.reduceAdd, Bool.or_false, Bool.false_or, Bool.or_true, Bool.true_or, Bool.false_eq_true, if_false, if_true, ite_true, ite_false, Nat.reduceEqDiff, beq_self_eq_true]
        rw [ft]
        clear hF ft hB6 HB0
        go_wp2_with fail
        go_ret
        exact ⟨t, rfl, by omega, hB7⟩
    by_cases b1 : c = 1
    · subst b1
      go_wp2_with fail
      go_ret
      exact ⟨T.extract 0 i, rfl, by rw [ByteArray.size_extract]; omega, hB5⟩
    · go_wp2_with fail
      go_ret
      exact ⟨T, rfl, by omega, hB5⟩
  · rw [etV_f hq] at HI
    clear hq
    go_wp2_with fail
    refine HI.mono ?_
    rintro e W3 ⟨rfl, hb3⟩
    have hB3 : Below w.heap.size w W3 := Blw.after hB2 hb3
    go_wp2_with fail
    go_ret
    exact ⟨⟨#[108, 32, 48, 48, 48, 48, 48, 48, 48, 48, 32, 48, 48, 48, 48, 48, 48, 48, 48, 32, 48, 48, 48, 48, 48, 48, 48, 48]⟩, rfl, by decide, hB3⟩
end Go.Proofs.YtmdnfamjdogogabGreatDoor

namespace Go.Proofs.YtmdnfamjdogogabGreatDoor
set_option linter.unusedSimpArgs false
set_option linter.unusedVariables false
open Go.ChangeShapes Go.WideShapes Go.ChangeAt Go.RowKit Go.Joins

theorem laidOut : laidOutB Tryz.prog = true := by kernel_rfl
theorem cellsB : Tryz.prog.cellsOf 5 = 1 := by kernel_rfl

theorem code_of {H : Type} {enc : TypeId × Value → H} {W : World} {a : Option Addr} {len cap : Nat} {d : DataW H} {p : List MemPlace}
    (h : DataW.Trod enc Tryz.prog W 0 (fun _ => true) true 30 (.slice a len cap) d p) (hl : len ≤ 1048576) : Code (.slice a len cap) W := by
  obtain ⟨fuel, hf⟩ := h
  rcases open_ints Tryz.underlying30 Tryz.underlying5 cellsB hf with ⟨hcs, hx⟩ | ⟨a', len', cap', zs, hcs, _, h1, h2, hz, hx, hcell, hwz⟩
  · simp [Value.cells] at hcs
    obtain ⟨rfl, rfl, rfl⟩ := hcs
    exact ⟨none, 0, 0, rfl, Nat.le_refl _, by omega, Or.inl rfl⟩
  · simp [Value.cells] at hcs
    obtain ⟨rfl, rfl, rfl⟩ := hcs
    simp only [if_true] at hz
    refine ⟨_, _, _, rfl, h1, hl, ?_⟩
    by_cases h0 : len = 0
    · exact Or.inl h0
    right
    obtain ⟨b, off, s⟩ := a'
    obtain rfl : s = none := by simpa [Addr.add] using World.cell?_spot (hcell 0 (by omega))
    refine ⟨b, off, rfl, fun i hi => ⟨zs.getD i 0, ?_, ?_⟩⟩
    · have h := hcell i (by omega)
      rwa [add_plain] at h
    · have hm : zs.getD i 0 ∈ zs := by
        have : zs.getD i 0 = zs[i]'(by omega) := by simp [List.getD, show i < zs.length by omega]
        rw [this]; exact List.getElem_mem _
      have hw := hwz _ hm
      have e1 : IntKind.u8.min = 0 := rfl
      have e2 : IntKind.u8.max = 255 := rfl
      simp only [Lit.wf, Bool.and_eq_true, decide_eq_true_eq] at hw
      omega
end Go.Proofs.YtmdnfamjdogogabGreatDoor

/- A region that draws its order, by facts on its slots: each operation ahead of a forced tail is shown once, whatever has come up before it; then the tail is walked once. No law is stated here. -/
import Derived.Tactics2
import Derived.Orders
import Derived.OrdersHeld
import Derived.Below
import Derived.WalkKit
import Derived.Deep.Quiet
namespace Go.Proofs.YtmdnfamjdogogaaDoor
set_option linter.unusedSimpArgs false
set_option linter.unusedVariables false
open Go.RowKit

section
variable {P : Program} {ops : Array Oper} {Q : Exit → Act → World → Prop} {S : World → Prop}

theorem Oper.wp_then {o : Oper} {a : Act} {w : World} {K : Act → World → Prop} (h : o.wp P a w K (Exit.then K Q)) : o.wp P a w K Q := by
  unfold Oper.wp at *
  generalize (execOp a.eval o).run P w = r at *
  cases r with
  | ok n w' =>
    cases n <;> simp only [Oper.upon] at h ⊢ <;>
      first
        | exact h
        | exact Calls.mono h (fun e w'' he => by cases e <;> exact he)
  | halt x w' => cases x <;> simp only [Oper.upon] at h ⊢ <;> exact h

theorem wpOp_of_list {i : Nat} {o : Oper} {K : Act → World → Prop} {a : Act} {w : World} (ho : ops[i]? = some o)
    (h : wpList P ops (Exit.then K Q) [o] a w) : wpOp P ops Q i K a w := by
  unfold wpOp
  rw [ho]
  simp only [wpList] at h
  simp only []
  split
  · rename_i hw
    rw [if_pos hw] at h
    rcases h with h | ⟨h1, h2⟩
    · exact Or.inl (Oper.wp_then h)
    · exact Or.inr ⟨h1, h2⟩
  · rename_i hw
    rw [if_neg hw] at h
    exact h

/-- the operations in their order; behind each S holds -/
def wpListS (P : Program) (ops : Array Oper) (Q : Exit → Act → World → Prop) (S : World → Prop) : List Oper → Act → World → Prop
  | [], a, w => Q .normal a w
  | o :: rest, a, w =>
    if Region.wanted o (yielded ops a.tmps) then o.wp P a w (fun a' w' => S w' ∧ wpListS P ops Q S rest a' w') Q ∨ (o.asks P a w ∧ LetsOut Q) else S w ∧ wpListS P ops Q S rest (a.put o.dst undef) w

theorem wpListS_step {o : Oper} {rest : List Oper} {a : Act} {w : World}
    (h : ∀ K : Act → World → Prop, (∀ a' w', S w' → wpListS P ops Q S rest a' w' → K a' w') → wpList P ops (Exit.then K Q) [o] a w) : wpListS P ops Q S (o :: rest) a w := by
  have h := h _ (fun a' w' h1 h2 => And.intro h1 h2)
  simp only [wpList] at h
  simp only [wpListS]
  split
  · rename_i hw
    rw [if_pos hw] at h
    rcases h with h | ⟨h1, h2⟩
    · exact Or.inl (Oper.wp_then h)
    · exact Or.inr ⟨h1, h2⟩
  · rename_i hw
    rw [if_neg hw] at h
    exact h

theorem wpListS_nil {a : Act} {w : World} (h : wpList P ops Q [] a w) : wpListS P ops Q S [] a w := h
theorem wpListS_true {l : List Oper} {a : Act} {w : World} (h : wpList P ops Q l a w) : wpListS P ops Q (fun _ => True) l a w := by
  induction l generalizing a w with
  | nil => exact h
  | cons o rest ih =>
    simp only [wpList] at h
    simp only [wpListS]
    split
    · rename_i hw
      rw [if_pos hw] at h
      exact h.imp (Oper.wp_mono fun a w h => ⟨trivial, ih h⟩) id
    · rename_i hw
      rw [if_neg hw] at h
      exact ⟨trivial, ih h⟩

/-- the frame l with u's values in the slots of D -/
def setU (D : List Nat) (u : Nat → Value) : Nat → List Value → List Value
  | _, [] => []
  | k, v :: r => (if D.contains k then u k else v) :: setU D u (k + 1) r
def upd (u : Nat → Value) (j : Nat) (v : Value) : Nat → Value := fun k => if k = j then v else u k

theorem setU_get (D : List Nat) (u : Nat → Value) (l : List Value) : ∀ (k i : Nat), (setU D u k l)[i]? = (l[i]?).map fun v => if D.contains (k + i) then u (k + i) else v := by
  induction l with
  | nil => intro k i; simp [setU]
  | cons v r ih =>
    intro k i
    cases i with
    | zero => simp [setU]
    | succ i => simp only [setU, List.getElem?_cons_succ]; rw [ih]; simp only [show k + 1 + i = k + (i + 1) from by omega]

theorem setU_put (D : List Nat) (u : Nat → Value) (l : List Value) (j : Nat) (v : Value) (hj : D.contains j = true) :
    (setU D u 0 l).set j v = setU D (upd u j v) 0 l := by
  apply List.ext_getElem?
  intro i
  rw [List.getElem?_set, setU_get, setU_get]
  have hlen : (setU D u 0 l).length = l.length := by
    have : ∀ (l : List Value) k, (setU D u k l).length = l.length := by
      intro l; induction l with
      | nil => intro k; rfl
      | cons a r ih => intro k; simp [setU, ih]
    exact this l 0
  by_cases h : j = i
  · subst h
    by_cases hl : j < l.length
    · simp only [List.contains_eq_mem, decide_eq_true_eq] at hj
      simp [hlen, hl, upd, hj]
    · simp [hlen, hl]
  · have h' : ¬ (0 + i = j) := by omega
    rw [if_neg h]
    cases l[i]? with
    | none => rfl
    | some x => simp only [Option.map_some, upd, if_neg h']

def dstAt (ops : Array Oper) (i : Nat) : Option Nat := (ops[i]?).bind (·.dst)
def edgesAt (ops : Array Oper) (i : Nat) : List Nat := ((ops[i]?).map fun o => (o.after.toList.filter (Region.binds .any)).map (·.on)).getD []
def depsAt (ops : Array Oper) (i : Nat) : List Nat := (edgesAt ops i).filterMap (dstAt ops)
/-- the number of the block that a pointer leads to -/
def blk : Value → Nat | .pointer (some a) => a.block | _ => 0

def nodupB : List Nat → Bool
  | [] => true
  | x :: r => !r.contains x && nodupB r
theorem nodupB_inj {l : List Nat} (h : nodupB l = true) : ∀ (i k x : Nat), l[i]? = some x → l[k]? = some x → i = k := by
  induction l with
  | nil => intro i k x hi; simp at hi
  | cons y r ih =>
    simp only [nodupB, Bool.and_eq_true, Bool.not_eq_true', List.contains_eq_mem, decide_eq_false_iff_not] at h
    intro i k x hi hk
    cases i with
    | zero =>
      cases k with
      | zero => rfl
      | succ k =>
        simp at hi hk
        exact absurd (List.mem_of_getElem? hk) (hi ▸ h.1)
    | succ i =>
      cases k with
      | zero =>
        simp at hi hk
        exact absurd (List.mem_of_getElem? hi) (hk ▸ h.1)
      | succ k => simp at hi hk; rw [ih h.2 i k x hi hk]

/-- j must have come up ahead of i, through at most so many edges -/
def reachB (ops : Array Oper) : Nat → Nat → Nat → Bool
  | 0, _, _ => false
  | f + 1, i, j => (edgesAt ops i).contains j || (edgesAt ops i).any fun k => reachB ops f k j

theorem reach_listed {L : Array Bool} (hcl : ∀ i, L.getD i false = true → ∀ j ∈ edgesAt ops i, L.getD j false = true) : ∀ (f i j : Nat), (∀ k ∈ edgesAt ops i, L.getD k false = true) → reachB ops f i j = true → L.getD j false = true := by
  intro f
  induction f with
  | zero => intro i j _ h; cases h
  | succ f ih =>
    intro i j he h
    simp only [reachB, Bool.or_eq_true, List.contains_eq_mem, decide_eq_true_eq, List.any_eq_true] at h
    rcases h with h | ⟨k, hk, h⟩
    · exact he j h
    · exact ih k j (hcl k (he k hk)) h

/-- the operations ahead of number m each yield into a slot of D of their own; whatever is waited for stands ahead; each from m on waits for all that stand ahead of it, but for those of T, whose own waits it has waited for; those of T touch no slot of others -/
def regionOk (ops : Array Oper) (m : Nat) (D T : List Nat) : Bool :=
  ((List.range m).map (dstAt ops) == D.map some) && nodupB D &&
  (List.range ops.size).all (fun i => (edgesAt ops i).all (fun j => decide (j < i)) && (decide (i < m) || (List.range i).all fun j => reachB ops ops.size i j || (decide (j < m) && T.contains j && (edgesAt ops j).all fun d => reachB ops ops.size i d || T.contains d))) && decide (m ≤ ops.size) &&
  T.all (fun i => decide (i < m) && (List.range ops.size).all fun j => decide (j = i) || reachB ops ops.size i j || (edgesAt ops j).contains i || ((ops[i]?).bind fun oi => (ops[j]?).map fun oj => oi.apart ops oj).getD false) && (T.isEmpty || Region.noSelect ops)

structure RegionOk (ops : Array Oper) (m : Nat) (D T : List Nat) : Prop where
  dst : ∀ i, i < m → ∃ j, D[i]? = some j ∧ dstAt ops i = some j
  len : D.length = m
  inj : ∀ i k x : Nat, D[i]? = some x → D[k]? = some x → i = k
  low : ∀ i, i < ops.size → ∀ j ∈ edgesAt ops i, j < i
  tail : ∀ i, i < ops.size → m ≤ i → ∀ j, j < i → reachB ops ops.size i j = true ∨ (j < m ∧ j ∈ T ∧ ∀ d ∈ edgesAt ops j, reachB ops ops.size i d = true ∨ d ∈ T)
  fit : m ≤ ops.size
  take : ∀ i ∈ T, i < m ∧ ∀ j, j < ops.size → j ≠ i → reachB ops ops.size i j = true ∨ i ∈ edgesAt ops j ∨ ∀ oi oj, ops[i]? = some oi → ops[j]? = some oj → oi.apart ops oj = true
  nosel : T ≠ [] → Region.noSelect ops = true

theorem RegionOk.of {m : Nat} {D T : List Nat} (h : regionOk ops m D T = true) : RegionOk ops m D T := by
  simp only [regionOk, Bool.and_eq_true, beq_iff_eq, decide_eq_true_eq, List.all_eq_true, List.mem_range, Bool.or_eq_true, List.contains_eq_mem] at h
  obtain ⟨⟨⟨⟨⟨h1, h2⟩, h3⟩, h4⟩, h5⟩, h6⟩ := h
  have hl : D.length = m := by have := congrArg List.length h1; simpa using this.symm
  refine ⟨fun i hi => ?_, hl, nodupB_inj h2, fun i hi j hj => (h3 i hi).1 j hj, fun i hi hm j hj => ?_, h4, fun i hi => ⟨(h5 i hi).1, fun j hj hne => ?_⟩, fun hT => ?_⟩
  · have e := congrArg (fun l : List (Option Nat) => l[i]?) h1
    have hi' : i < D.length := by omega
    simp [hi, hi'] at e
    exact ⟨D[i], by simp [hi'], e⟩
  · rcases (h3 i hi).2 with h | h
    · omega
    · rcases h j hj with h | ⟨⟨h7, h8⟩, h9⟩
      · exact Or.inl h
      · exact Or.inr ⟨h7, h8, h9⟩
  · rcases (h5 i hi).2 j hj with ((h | h) | h) | h
    · exact absurd h hne
    · exact Or.inl h
    · exact Or.inr (Or.inl h)
    · refine Or.inr (Or.inr fun oi oj ho ho' => ?_)
      simpa [ho, ho'] using h
  · rcases h6 with h | h
    · simp at h; exact absurd h hT
    · exact h

theorem ready_iff {L : Array Bool} {i : Nat} : i ∈ Region.ready .any ops L ↔ i < ops.size ∧ L.getD i true = false ∧ ∀ j ∈ edgesAt ops i, L.getD j false = true := by
  simp only [Region.ready, List.mem_filter, List.mem_range, Bool.and_eq_true, Bool.not_eq_true', edgesAt]
  refine and_congr_right fun hi => and_congr_right fun _ => ?_
  obtain ⟨o, ho⟩ : ∃ o, ops[i]? = some o := ⟨ops[i], by simp [hi]⟩
  simp only [ho, Option.map_some, Option.getD_some, Array.all_eq_true, Bool.or_eq_true, Bool.not_eq_true', List.mem_map, List.mem_filter, Array.mem_toList_iff]
  constructor
  · rintro h j ⟨e, ⟨he, hb⟩, rfl⟩
    obtain ⟨k, hk, rfl⟩ := Array.mem_iff_getElem.1 he
    rcases h k hk with h | h
    · rw [h] at hb; cases hb
    · exact h
  · intro h k hk
    cases hb : Region.binds .any o.after[k] with
    | false => exact Or.inl rfl
    | true => exact Or.inr (h _ ⟨_, ⟨Array.getElem_mem hk, hb⟩, rfl⟩)

theorem count_set {n i : Nat} {L : Array Bool} (hn : L.size = n) (hi : i < n) (hf : L.getD i true = false) :
    (List.range n).countP (fun j => !(L.setIfInBounds i true).getD j true) + 1 = (List.range n).countP (fun j => !L.getD j true) := by
  have g : ∀ j, (L.setIfInBounds i true).getD j true = if j = i then true else L.getD j true := by
    intro j
    simp only [Array.getD_eq_getD_getElem?, Array.getElem?_setIfInBounds]
    by_cases h : i = j
    · subst h; simp [hn, hi]
    · rw [if_neg h, if_neg (fun e => h e.symm)]
  have key : ∀ k, (List.range k).countP (fun j => !(if j = i then true else L.getD j true)) + (if i < k then 1 else 0) = (List.range k).countP (fun j => !L.getD j true) := by
    intro k
    induction k with
    | zero => simp
    | succ k ih =>
      rw [List.range_succ, List.countP_append, List.countP_append, ← ih]
      by_cases hk : k = i
      · subst hk
        simp only [Nat.lt_irrefl, if_false, Nat.add_zero, Nat.lt_succ_self, if_true, List.countP_cons, List.countP_nil, hf] at ih ⊢
        simp
      · have e1 : (i < k + 1) = (i < k) := by apply propext; omega
        simp only [e1, List.countP_cons, List.countP_nil, if_neg hk]
        omega
  have := key n
  rw [if_pos hi] at this
  simp only [g]
  exact this

theorem getD_set {L : Array Bool} {i j : Nat} (d : Bool) (hi : i < L.size) : (L.setIfInBounds i true).getD j d = if j = i then true else L.getD j d := by
  simp only [Array.getD_eq_getD_getElem?, Array.getElem?_setIfInBounds]
  by_cases h : i = j
  · subst h; simp [hi]
  · rw [if_neg h, if_neg (fun e => h e.symm)]

theorem getD_any {L : Array Bool} {j : Nat} (hj : j < L.size) (d d' : Bool) : L.getD j d = L.getD j d' := by
  simp [Array.getD_eq_getD_getElem?, hj]

theorem tail_any {m : Nat} {D T : List Nat} (ok : RegionOk ops m D T) : ∀ (fuel k : Nat) (L : Array Bool) (a : Act) (w : World), L.size = ops.size →
    (∀ j, j < ops.size → L.getD j true = decide (j < k)) → k ≤ ops.size → m ≤ k → ops.size - k ≤ fuel → wpListS P ops Q S (ops.toList.drop k) a w → wpAnyH P .any ops Q S fuel L a w := by
  intro fuel
  induction fuel with
  | zero =>
    intro k L a w hL hk hkn hm hf h
    have hk' : k = ops.size := by omega
    subst hk'
    refine ⟨?_, by rw [List.drop_of_length_le (by simp)] at h; exact h⟩
    apply List.eq_nil_iff_forall_not_mem.2
    intro i hi
    obtain ⟨h1, h2, _⟩ := ready_iff.1 hi
    rw [hk i h1] at h2
    simp [h1] at h2
  | succ fuel ih =>
    intro k L a w hL hk hkn hm hf h
    by_cases hlt : k < ops.size
    · have hr : k ∈ Region.ready .any ops L := by
        refine ready_iff.2 ⟨hlt, by rw [hk k hlt]; simp, fun j hj => ?_⟩
        have hjk := ok.low k hlt j hj
        rw [getD_any (by omega) false true, hk j (by omega)]
        simpa using hjk
      refine ⟨fun e => absurd (e ▸ hr) (by simp), fun i hi => ?_⟩
      obtain ⟨h1, h2, h3⟩ := ready_iff.1 hi
      rw [hk i h1] at h2
      have hik : k ≤ i := by simpa using h2
      have hik' : i = k := by
        rcases Nat.lt_or_ge k i with hl | hl
        · have hcl : ∀ x, L.getD x false = true → ∀ j ∈ edgesAt ops x, L.getD j false = true := by
            intro x hx j hj
            have hxn : x < ops.size := by
              rcases Nat.lt_or_ge x ops.size with h | h
              · exact h
              · rw [Array.getD_eq_getD_getElem?, Array.getElem?_eq_none (by omega)] at hx; cases hx
            have hjx := ok.low x hxn j hj
            rw [getD_any (by omega) false true, hk x hxn] at hx
            rw [getD_any (by omega) false true, hk j (by omega)]
            simp at hx ⊢
            omega
          have := reach_listed hcl _ i k h3 ((ok.tail i h1 (by omega) k hl).resolve_right fun h => absurd h.1 (by omega))
          rw [getD_any (by omega) false true, hk k hlt] at this
          simp at this
        · omega
      subst hik'
      have hd : ops.toList.drop i = ops[i] :: ops.toList.drop (i + 1) := by
        rw [List.drop_eq_getElem_cons (by simpa using hlt)]
        simp
      rw [hd] at h
      have next : ∀ a w, wpListS P ops Q S (ops.toList.drop (i + 1)) a w → wpAnyH P .any ops Q S fuel (L.setIfInBounds i true) a w := fun a w hh =>
        ih (i + 1) _ a w (by simpa using hL) (fun j hj => by
          rw [getD_set true (by omega)]
          by_cases e : j = i
          · subst e; simp
          · rw [if_neg e, hk j hj]
            have : (j < i) ↔ (j < i + 1) := by omega
            simp [this]) (by omega) (by omega) (by omega) hh
      simp only [wpOp, show ops[i]? = some ops[i] from by simp [hlt]]
      simp only [wpListS] at h
      split
      · rename_i hw
        rw [if_pos hw] at h
        exact h.imp (Oper.wp_mono fun a w h => ⟨h.1, next a w h.2⟩) id
      · rename_i hw
        rw [if_neg hw] at h
        exact ⟨h.1, next _ _ h.2⟩
    · have hk' : k = ops.size := by omega
      subst hk'
      have hr : Region.ready .any ops L = [] := by
        apply List.eq_nil_iff_forall_not_mem.2
        intro i hi
        obtain ⟨h1, h2, _⟩ := ready_iff.1 hi
        rw [hk i h1] at h2
        simp [h1] at h2
      refine ⟨fun _ => by rw [List.drop_of_length_le (by simp)] at h; exact h, fun i hi => ?_⟩
      rw [hr] at hi
      cases hi

/-- what is to be shown of operation number i, ahead of the tail -/
def StepOk (P : Program) (ops : Array Oper) (Q : Exit → Act → World → Prop) (D PS : List Nat) (B : World → Prop) (F : Nat → Value → World → Prop) (l : List Value) (df : List Deferred) (i : Nat) (o : Oper) (j : Nat) : Prop :=
  ∀ (u : Nat → Value) (w : World), B w → (∀ k, (depsAt ops i).contains k = true → F k (u k) w) →
    ∀ K : Act → World → Prop, (∀ v w', B w' → Below w.heap.size w w' → F j v w' → (PS.contains j = true → w.heap.size ≤ blk v) → K ⟨(setU D (upd u j v) 0 l).toArray, df⟩ w') →
      wpList P ops (Exit.then K Q) [o] ⟨(setU D u 0 l).toArray, df⟩ w

/-- what is to be shown of an operation of T -/
def StepYOk (P : Program) (ops : Array Oper) (S : World → Prop) (D : List Nat) (B : World → Prop) (F : Nat → Value → World → Prop) (l : List Value) (df : List Deferred) (i : Nat) (o : Oper) (j : Nat) : Prop :=
  ∀ (u : Nat → Value) (w : World), B w → (∀ k, (depsAt ops i).contains k = true → F k (u k) w) →
    ∃ v, YieldsIf P ops S o v ⟨(setU D u 0 l).toArray, df⟩ ∧ F j v w

theorem region_any {m : Nat} {D T PS : List Nat} {B : World → Prop} {F : Nat → Value → World → Prop} {l : List Value} {df : List Deferred}
    (ok : RegionOk ops m D T) (hBS : ∀ w, B w → S w) (hQ : T ≠ [] → ∀ c (a : Act) (d : Nat) v w, Q (.panic c) (a.put (some d) v) w → Q (.panic c) a w)
    (mono : ∀ j v w w', B w → B w' → Below w.heap.size w w' → F j v w → F j v w')
    (ps : ∀ j, PS.contains j = true → ∀ v w, F j v w → blk v < w.heap.size)
    (tps : ∀ i ∈ T, ∀ j, dstAt ops i = some j → PS.contains j = false)
    (step : ∀ i o j, i < m → i ∉ T → ops[i]? = some o → o.dst = some j → StepOk P ops Q D PS B F l df i o j)
    (stepY : ∀ i o j, i ∈ T → ops[i]? = some o → o.dst = some j → StepYOk P ops S D B F l df i o j)
    (fin : ∀ u w', B w' → (∀ j, D.contains j = true → F j (u j) w') → (∀ j j', D.contains j = true → D.contains j' = true → PS.contains j = true → PS.contains j' = true → j ≠ j' → blk (u j) ≠ blk (u j')) →
      wpListS P ops Q S (ops.toList.drop m) ⟨(setU D u 0 l).toArray, df⟩ w') :
    ∀ (fuel : Nat) (L : Array Bool) (u : Nat → Value) (w : World), L.size = ops.size → (List.range ops.size).countP (fun j => !L.getD j true) ≤ fuel →
      (∀ i, m ≤ i → i < ops.size → L.getD i true = false) → (∀ i, L.getD i false = true → ∀ j ∈ edgesAt ops i, L.getD j false = true) → B w →
      (∀ i j, i < m → L.getD i false = true → dstAt ops i = some j → F j (u j) w) →
      (∀ i i' j j', i < m → i' < m → L.getD i false = true → L.getD i' false = true → dstAt ops i = some j → dstAt ops i' = some j' → PS.contains j = true → PS.contains j' = true → j ≠ j' → blk (u j) ≠ blk (u j')) →
      wpAnyH P .any ops Q S fuel L ⟨(setU D u 0 l).toArray, df⟩ w := by
  intro fuel
  -- all ahead of the tail have come up
  have toTail : ∀ (fuel : Nat) (L : Array Bool) (u : Nat → Value) (w : World), L.size = ops.size → (List.range ops.size).countP (fun j => !L.getD j true) ≤ fuel →
      (∀ i, m ≤ i → i < ops.size → L.getD i true = false) → B w → (∀ i, i < m → L.getD i true = true) →
      (∀ i j, i < m → L.getD i false = true → dstAt ops i = some j → F j (u j) w) →
      (∀ i i' j j', i < m → i' < m → L.getD i false = true → L.getD i' false = true → dstAt ops i = some j → dstAt ops i' = some j' → PS.contains j = true → PS.contains j' = true → j ≠ j' → blk (u j) ≠ blk (u j')) →
      wpAnyH P .any ops Q S fuel L ⟨(setU D u 0 l).toArray, df⟩ w := by
    intro fuel L u w hL hc ht hB hall hF hP
    have hall' : ∀ i, i < m → L.getD i false = true := fun i hi => by rw [getD_any (by have := ok.fit; omega) false true]; exact hall i hi
    have inD : ∀ j, D.contains j = true → ∃ i, i < m ∧ dstAt ops i = some j := by
      intro j hj
      simp only [List.contains_eq_mem, decide_eq_true_eq] at hj
      obtain ⟨i, hi⟩ := List.mem_iff_getElem?.1 hj
      have hi' : i < m := by
        have := (List.getElem?_eq_some_iff.1 hi).1
        rw [ok.len] at this; exact this
      obtain ⟨j', h1, h2⟩ := ok.dst i hi'
      rw [hi] at h1
      cases h1
      exact ⟨i, hi', h2⟩
    refine tail_any ok fuel m L _ w hL (fun j hj => ?_) ok.fit (Nat.le_refl _) ?_ (fin u w hB ?_ ?_)
    · by_cases h : j < m
      · rw [hall j h]; simp [h]
      · rw [ht j (by omega) hj]; simp [h]
    · have e : (List.range ops.size).countP (fun j => !L.getD j true) = (List.range ops.size).countP (fun j => decide (m ≤ j)) := by
        apply List.countP_congr
        intro j hj
        have hj' : j < ops.size := by simpa using hj
        by_cases h : j < m
        · rw [hall j h]; simp; omega
        · rw [ht j (by omega) hj']; simp; omega
      have key : ∀ k, (List.range k).countP (fun j => decide (m ≤ j)) = k - m := by
        intro k
        induction k with
        | zero => simp
        | succ k ih =>
          rw [List.range_succ, List.countP_append, ih]
          by_cases h : m ≤ k
          · simp [h]; omega
          · simp [h]; omega
      rw [e, key] at hc
      exact hc
    · intro j hj
      obtain ⟨i, hi, hd⟩ := inD j hj
      exact hF i j hi (hall' i hi) hd
    · intro j j' hj hj' hp hp' hne
      obtain ⟨i, hi, hd⟩ := inD j hj
      obtain ⟨i', hi', hd'⟩ := inD j' hj'
      exact hP i i' j j' hi hi' (hall' i hi) (hall' i' hi') hd hd' hp hp' hne
  induction fuel with
  | zero =>
    intro L u w hL hc ht hcl hB hF hP
    refine toTail 0 L u w hL hc ht hB (fun i hi => ?_) hF hP
    have h0 : (List.range ops.size).countP (fun j => !L.getD j true) = 0 := by omega
    rw [List.countP_eq_zero] at h0
    have := h0 i (by have := ok.fit; simp; omega)
    simpa using this
  | succ fuel ih =>
    intro L u w hL hc ht hcl hB hF hP
    by_cases hall : ∀ i, i < m → L.getD i true = true
    · exact toTail (fuel + 1) L u w hL hc ht hB hall hF hP
    · -- the least that has not come up may come up
      have hex : ∃ i, i < m ∧ L.getD i true = false := by
        refine Classical.byContradiction fun h => hall fun i hi => ?_
        cases e : L.getD i true with
        | true => rfl
        | false => exact absurd ⟨i, hi, e⟩ h
      have hne : Region.ready .any ops L ≠ [] := by
        obtain ⟨i0, h01, h02⟩ := hex
        have : ∀ n i, i ≤ n → i < m → L.getD i true = false → ∃ k, k ∈ Region.ready .any ops L := by
          intro n
          induction n with
          | zero =>
            intro i hi hm hf
            have : i = 0 := by omega
            subst this
            exact ⟨0, ready_iff.2 ⟨by have := ok.fit; omega, hf, fun j hj => absurd (ok.low 0 (by have := ok.fit; omega) j hj) (by omega)⟩⟩
          | succ n ihn =>
            intro i hi hm hf
            by_cases hd : ∀ j ∈ edgesAt ops i, L.getD j false = true
            · exact ⟨i, ready_iff.2 ⟨by have := ok.fit; omega, hf, hd⟩⟩
            · simp only [Classical.not_forall] at hd
              obtain ⟨j, hj, hjf⟩ := hd
              have hji := ok.low i (by have := ok.fit; omega) j hj
              refine ihn j (by omega) (by omega) ?_
              rw [getD_any (by have := ok.fit; omega) true false]
              simpa using hjf
        obtain ⟨k, hk⟩ := this i0 i0 (Nat.le_refl _) h01 h02
        intro e
        rw [e] at hk
        cases hk
      -- one more has come up
      have next : ∀ i, i < m → i ∈ Region.ready .any ops L → ∀ j, dstAt ops i = some j → ∀ v w', B w' → Below w.heap.size w w' → F j v w' → (PS.contains j = true → w.heap.size ≤ blk v) →
          wpAnyH P .any ops Q S fuel (L.setIfInBounds i true) ⟨(setU D (upd u j v) 0 l).toArray, df⟩ w' := by
        intro i him hi j hdj v w' hB' hbel hFv hpv
        obtain ⟨h1, h2, h3⟩ := ready_iff.1 hi
        obtain ⟨jx, hDj, hdj'⟩ := ok.dst i him
        rw [hdj] at hdj'
        cases hdj'
        have other : ∀ i' j', i' < m → i' ≠ i → dstAt ops i' = some j' → j' ≠ j := by
          intro i' j' hi' hne' hd' e
          subst e
          obtain ⟨x, hx1, hx2⟩ := ok.dst i' hi'
          rw [hd'] at hx2
          cases hx2
          exact hne' (ok.inj i' i j' hx1 hDj)
        have gL : ∀ i' d, (L.setIfInBounds i true).getD i' d = if i' = i then true else L.getD i' d := fun i' d => getD_set d (by omega)
        refine ih _ (upd u j v) w' (by simpa using hL) ?_ ?_ ?_ hB' ?_ ?_
        · have := count_set hL h1 h2
          omega
        · intro i' hi' hn'
          rw [gL, if_neg (by omega)]
          exact ht i' hi' hn'
        · intro x hx j' hj'
          rw [gL]
          split
          · rfl
          · rw [gL] at hx
            split at hx
            · rename_i e; subst e; exact h3 j' hj'
            · exact hcl x hx j' hj'
        · intro i' j' hi' hl' hd'
          rw [gL] at hl'
          by_cases e : i' = i
          · subst e
            rw [hdj] at hd'
            cases hd'
            simp only [upd, if_true]
            exact hFv
          · rw [if_neg e] at hl'
            simp only [upd, if_neg (other i' j' hi' e hd')]
            exact mono _ _ _ _ hB hB' hbel (hF i' j' hi' hl' hd')
        · intro i1 i2 j1 j2 hi1 hi2 hl1 hl2 hd1 hd2 hp1 hp2 hne12
          rw [gL] at hl1 hl2
          by_cases e1 : i1 = i
          · by_cases e2 : i2 = i
            · subst e1; rw [e2, hd1] at hd2; cases hd2; exact absurd rfl hne12
            · subst e1
              rw [hdj] at hd1
              cases hd1
              rw [if_neg e2] at hl2
              simp only [upd, if_true, if_neg (other i2 j2 hi2 e2 hd2)]
              have a1 := hpv hp1
              have a2 := ps j2 hp2 _ _ (hF i2 j2 hi2 hl2 hd2)
              omega
          · rw [if_neg e1] at hl1
            by_cases e2 : i2 = i
            · subst e2
              rw [hdj] at hd2
              cases hd2
              simp only [upd, if_true, if_neg (other i1 j1 hi1 e1 hd1)]
              have a1 := hpv hp2
              have a2 := ps j1 hp1 _ _ (hF i1 j1 hi1 hl1 hd1)
              omega
            · rw [if_neg e2] at hl2
              simp only [upd, if_neg (other i1 j1 hi1 e1 hd1), if_neg (other i2 j2 hi2 e2 hd2)]
              exact hP i1 i2 j1 j2 hi1 hi2 hl1 hl2 hd1 hd2 hp1 hp2 hne12
      have depsHold : ∀ i, i < m → i ∈ Region.ready .any ops L → ∀ k, (depsAt ops i).contains k = true → F k (u k) w := by
        intro i him hi k hk
        obtain ⟨h1, h2, h3⟩ := ready_iff.1 hi
        simp only [List.contains_eq_mem, decide_eq_true_eq, depsAt, List.mem_filterMap] at hk
        obtain ⟨e, he, hek⟩ := hk
        have hei := ok.low i h1 e he
        exact hF e k (by omega) (h3 e he) hek
      have put_eq : ∀ j v, D.contains j = true → (⟨(setU D u 0 l).toArray, df⟩ : Act).put (some j) v = ⟨(setU D (upd u j v) 0 l).toArray, df⟩ := by
        intro j v hj
        simp only [Act.put, List.setIfInBounds_toArray, setU_put D u l j v hj]
      by_cases hT : ∃ i ∈ T, i ∈ Region.ready .any ops L
      · obtain ⟨i, hiT, hi⟩ := hT
        obtain ⟨h1, h2, h3⟩ := ready_iff.1 hi
        have him := (ok.take i hiT).1
        obtain ⟨j, hDj, hdj⟩ := ok.dst i him
        have ho : ops[i]? = some ops[i] := by simp [h1]
        have hdo : ops[i].dst = some j := by simpa [dstAt, ho] using hdj
        have hDc : D.contains j = true := by simp only [List.contains_eq_mem, decide_eq_true_eq]; exact List.mem_of_getElem? hDj
        obtain ⟨v, hy, hv⟩ := stepY i _ j hiT ho hdo u w hB (depsHold i him hi)
        have hTne : T ≠ [] := fun e => by rw [e] at hiT; cases hiT
        refine wpAnyH_first ho (Region.noSelect_spec (ok.nosel hTne)) (fun c a w => by rw [hdo]; exact hQ hTne c a j v w) fuel L _ w (fun jj oj hoj hne' hun hno => ?_) hi hy (hBS w hB) ?_
        · have hjj : jj < ops.size := (Array.getElem?_eq_some_iff.1 hoj).1
          rcases (ok.take i hiT).2 jj hjj hne' with h | h | h
          · have := reach_listed hcl _ i jj h3 h
            rw [getD_any (by omega) false true, hun] at this
            cases this
          · simp only [edgesAt, hoj, Option.map_some, Option.getD_some, List.mem_map, List.mem_filter, Array.mem_toList_iff] at h
            obtain ⟨e, ⟨he, hb⟩, hon⟩ := h
            exact absurd hon (hno e he hb)
          · exact h _ oj ho hoj
        · rw [hdo, put_eq j v hDc]
          exact next i him hi j hdj v w hB (Below.refl _ _) hv fun hp => by rw [tps i hiT j hdj] at hp; cases hp
      · refine ⟨fun e => absurd e hne, fun i hi => ?_⟩
        obtain ⟨h1, h2, h3⟩ := ready_iff.1 hi
        have him : i < m := by
          rcases Nat.lt_or_ge i m with h | h
          · exact h
          · obtain ⟨k, hk1, hk2⟩ := hex
            have all : ∀ n k, k ≤ n → k < i → L.getD k false = true := by
              intro n
              induction n with
              | zero =>
                intro k hkn hki
                rcases ok.tail i h1 h k hki with hr | ⟨hkm, hkT, hr⟩
                · exact reach_listed hcl _ i k h3 hr
                · cases hl : L.getD k true with
                  | true => rw [getD_any (by have := ok.fit; omega) false true, hl]
                  | false =>
                    exact absurd ⟨k, hkT, ready_iff.2 ⟨by have := ok.fit; omega, hl, fun d hd => absurd (ok.low k (by have := ok.fit; omega) d hd) (by omega)⟩⟩ hT
              | succ n ihn =>
                intro k hkn hki
                rcases ok.tail i h1 h k hki with hr | ⟨hkm, hkT, hr⟩
                · exact reach_listed hcl _ i k h3 hr
                · cases hl : L.getD k true with
                  | true => rw [getD_any (by have := ok.fit; omega) false true, hl]
                  | false =>
                    exact absurd ⟨k, hkT, ready_iff.2 ⟨by have := ok.fit; omega, hl, fun d hd => by
                      have hdk := ok.low k (by have := ok.fit; omega) d hd
                      exact ihn d (by omega) (by omega)⟩⟩ hT
            have := all k k (Nat.le_refl _) (by omega)
            rw [getD_any (by have := ok.fit; omega) false true, hk2] at this
            cases this
        have hiT : i ∉ T := fun h => hT ⟨i, h, hi⟩
        obtain ⟨j, hDj, hdj⟩ := ok.dst i him
        have ho : ops[i]? = some ops[i] := by simp [h1]
        have hdo : ops[i].dst = some j := by simpa [dstAt, ho] using hdj
        exact wpOp_of_list ho (step i _ j him hiT ho hdo u w hB (depsHold i him hi) _ (fun v w' hB' hbel hFv hpv => ⟨hBS w' hB', next i him hi j hdj v w' hB' hbel hFv hpv⟩))

theorem setU_self (D : List Nat) (l : List Value) : setU D (fun k => l.getD k undef) 0 l = l := by
  apply List.ext_getElem?
  intro i
  rw [setU_get]
  cases h : l[i]? with
  | none => rfl
  | some x => simp [h]

/-- ████ THE REGION: m operations in whatever order, each by a fact on its slot; then the tail ████ -/
theorem region_facts {id : Nat} {l : List Value} {df : List Deferred} {w : World} (hmx : P.follows .mixedOrders = true)
    (m : Nat) (D T PS : List Nat) (B : World → Prop) (F : Nat → Value → World → Prop)
    (chk : regionOk ops m D T = true) (hBS : ∀ w, B w → S w) (hQ : T ≠ [] → ∀ c (a : Act) (d : Nat) v w, Q (.panic c) (a.put (some d) v) w → Q (.panic c) a w)
    (mono : ∀ j v w w', B w → B w' → Below w.heap.size w w' → F j v w → F j v w')
    (ps : ∀ j, PS.contains j = true → ∀ v w, F j v w → blk v < w.heap.size)
    (hB0 : B w.drew)
    (tps : ∀ i ∈ T, ∀ j, dstAt ops i = some j → PS.contains j = false)
    (step : ∀ i o j, i < m → i ∉ T → ops[i]? = some o → o.dst = some j → StepOk P ops Q D PS B F l df i o j)
    (stepY : ∀ i o j, i ∈ T → ops[i]? = some o → o.dst = some j → StepYOk P ops S D B F l df i o j)
    (fin : ∀ u w', B w' → (∀ j, D.contains j = true → F j (u j) w') → (∀ j j', D.contains j = true → D.contains j' = true → PS.contains j = true → PS.contains j' = true → j ≠ j' → blk (u j) ≠ blk (u j')) →
      wpListS P ops Q S (ops.toList.drop m) ⟨(setU D u 0 l).toArray, df⟩ w') :
    (Code.region id ops true).wp P Q ⟨l.toArray, df⟩ w := by
  have ok := RegionOk.of chk
  refine wp_region_held (S := S) hmx ?_
  have h := region_any (P := P) (Q := Q) (l := l) (df := df) ok hBS hQ mono ps tps step stepY fin ops.size (Array.replicate ops.size false) (fun k => l.getD k undef) w.drew (by simp)
    (by have := List.countP_le_length (p := fun j => !(Array.replicate ops.size false).getD j true) (l := List.range ops.size); simpa using this)
    (fun i _ hi => by simp [Array.getD_eq_getD_getElem?, hi])
    (fun i hl => by simp [Array.getD_eq_getD_getElem?, Array.getElem?_replicate] at hl; split at hl <;> simp at hl) hB0
    (fun i j hi hl => by simp [Array.getD_eq_getD_getElem?, Array.getElem?_replicate] at hl; split at hl <;> simp at hl)
    (fun i i' j j' hi hi' hl => by simp [Array.getD_eq_getD_getElem?, Array.getElem?_replicate] at hl; split at hl <;> simp at hl)
  rw [setU_self] at h
  exact h

/-! ### the facts, written as a list -/
theorem bcell {W w1 : World} (hb : Below W.heap.size W w1) : (∀ b o, b < W.heap.size → w1.cell? ⟨b, o, none⟩ = W.cell? ⟨b, o, none⟩) ∧ (∀ b o, b < W.heap.size → w1.frozen? ⟨b, o, none⟩ = W.frozen? ⟨b, o, none⟩) :=
  ⟨fun b o h => hb.cell (p := ⟨b, o, none⟩) h, fun b o h => hb.frozen (p := ⟨b, o, none⟩) h⟩
theorem bsize {W w1 : World} (hb : Below W.heap.size W w1) : ∀ b, b < W.heap.size → b < w1.heap.size := fun _ h => Nat.lt_of_lt_of_le h hb.size
/-- a cell that is there stays, whatever has been made since -/
theorem keepcell {W w1 : World} (hb : Below W.heap.size W w1) {a : Addr} {v : Value} (h : W.cell? a = some v) : w1.cell? a = some v :=
  (hb.cell (p := a) (World.block_lt_of_cell? W _ h)).trans h
theorem Blw.after {w W w1 : World} (h : Below w.heap.size w W) (hb : Below W.heap.size W w1) : Below w.heap.size w w1 := h.trans (hb.mono h.size)
theorem Blw.alloc {w W : World} (h : Below w.heap.size w W) (o : Obj) : Below w.heap.size w (W.alloc o) := h.alloc h.size _
theorem Blw.drew {w W : World} (h : Below w.heap.size w W) : Below w.heap.size w W.drew := h.drew
theorem Blw.drewN {w W : World} (n : Nat) (h : Below w.heap.size w W) : Below w.heap.size w (W.drewN n) := ⟨h.os, h.tape, h.output, h.size, h.block⟩
theorem Blw.set {w W : World} (h : Below w.heap.size w W) {p : Addr} (hp : w.heap.size ≤ p.block) (u : Value) : Below w.heap.size w (W.setCell p u) := h.setCell hp u

/-- w' is W0 below W0's size, and so each cell reads -/
abbrev Hld (W0 w' : World) : Prop := Below W0.heap.size W0 w' ∧ (∀ b o, b < W0.heap.size → w'.cell? ⟨b, o, none⟩ = W0.cell? ⟨b, o, none⟩) ∧ (∀ b o, b < W0.heap.size → w'.frozen? ⟨b, o, none⟩ = W0.frozen? ⟨b, o, none⟩) ∧ W0.heap.size ≤ w'.heap.size
theorem heldM {W0 w' : World} (h : Below W0.heap.size W0 w') : Hld W0 w' := ⟨h, fun b o hb => h.cell (p := ⟨b, o, none⟩) hb, fun b o hb => h.frozen (p := ⟨b, o, none⟩) hb, h.size⟩
theorem heldB {W0 w1 w' : World} (h : Hld W0 w1) (hb : Below w1.heap.size w1 w') : Hld W0 w' := heldM (Blw.after h.1 hb)

/-- v leads to a block from B on that holds the values vs from its head on, not frozen -/
def OwnP (B : Nat) (vs : List Value) (v : Value) (w : World) : Prop :=
  ∃ b, v = .pointer (some ⟨b, 0, none⟩) ∧ B ≤ b ∧ b < w.heap.size ∧ (∀ i x, vs[i]? = some x → w.cell? ⟨b, i, none⟩ = some x) ∧ ∀ i, i < vs.length → w.frozen? ⟨b, i, none⟩ = false
theorem OwnP.mono {B : Nat} {vs : List Value} {v : Value} {w w' : World} (h : OwnP B vs v w) (hb : Below w.heap.size w w') : OwnP B vs v w' := by
  obtain ⟨b, h1, h2, h3, h4, h5⟩ := h
  exact ⟨b, h1, h2, bsize hb b h3, fun i x hx => keepcell hb (h4 i x hx), fun i hi => ((bcell hb).2 b i h3).trans (h5 i hi)⟩
theorem OwnP.new (w : World) (vs : List Value) (t : TypeId) : OwnP w.heap.size vs (.pointer (some ⟨w.heap.size, 0, none⟩)) (w.alloc (.cells vs.toArray t)) :=
  ⟨w.heap.size, rfl, Nat.le_refl _, by simp, fun i x hx => by simp [go_sem, hx], fun i hi => by rw [frozen?_alloc_cells]; simp [World.frozen?]⟩

inductive SlotFact where
  | is (v : Value)
  | own (vs : List Value)
  | sat (p : Value → Prop)
def SlotFact.h (B : Nat) : SlotFact → Value → World → Prop
  | .is x, v, _ => v = x
  | .own vs, v, w => OwnP B vs v w
  | .sat p, v, _ => p v
def SlotFact.owns : SlotFact → Bool | .own _ => true | _ => false
def factAt (B : Nat) : List (Nat × SlotFact) → Nat → Value → World → Prop
  | [], _, _, _ => True
  | (k, f) :: r, j, v, w => if k = j then f.h B v w else factAt B r j v w
def ownsAt : List (Nat × SlotFact) → List Nat
  | [] => []
  | (k, f) :: r => if f.owns then k :: ownsAt r else ownsAt r
def allFacts (B : Nat) (u : Nat → Value) (w : World) : List (Nat × SlotFact) → Prop
  | [] => True
  | (k, f) :: r => f.h B (u k) w ∧ allFacts B u w r

theorem SlotFact.mono {B : Nat} {f : SlotFact} {v : Value} {w w' : World} (hb : Below w.heap.size w w') (h : f.h B v w) : f.h B v w' := by
  cases f with
  | is x => exact h
  | own vs => exact OwnP.mono h hb
  | sat p => exact h
theorem SlotFact.low {B B' : Nat} {f : SlotFact} {v : Value} {w : World} (hB : B' ≤ B) (h : f.h B v w) : f.h B' v w := by
  cases f with
  | is x => exact h
  | own vs => obtain ⟨b, h1, h2, h3⟩ := h; exact ⟨b, h1, by omega, h3⟩
  | sat p => exact h
theorem factAt_mono {B : Nat} {fs : List (Nat × SlotFact)} {j : Nat} {v : Value} {w w' : World} (hb : Below w.heap.size w w') (h : factAt B fs j v w) : factAt B fs j v w' := by
  induction fs with
  | nil => trivial
  | cons f r ih =>
    simp only [factAt] at h ⊢
    split
    · rename_i e; rw [if_pos e] at h; exact f.2.mono hb h
    · rename_i e; rw [if_neg e] at h; exact ih h
theorem factAt_at {B : Nat} {fs : List (Nat × SlotFact)} (hn : nodupB (fs.map (·.1)) = true) {i : Nat} {j : Nat} {f : SlotFact} (hi : fs[i]? = some (j, f)) (v : Value) (w : World) : factAt B fs j v w = f.h B v w := by
  induction fs generalizing i with
  | nil => simp at hi
  | cons g r ih =>
    obtain ⟨k, g⟩ := g
    simp only [List.map_cons, nodupB, Bool.and_eq_true, Bool.not_eq_true', List.contains_eq_mem, decide_eq_false_iff_not] at hn
    cases i with
    | zero => simp at hi; obtain ⟨rfl, rfl⟩ := hi; simp [factAt]
    | succ i =>
      simp at hi
      have : k ≠ j := fun e => hn.1 (by subst e; exact List.mem_map.2 ⟨_, List.mem_of_getElem? hi, rfl⟩)
      simp only [factAt, if_neg this]
      exact ih hn.2 hi
theorem ownsAt_mem {fs : List (Nat × SlotFact)} (hn : nodupB (fs.map (·.1)) = true) {i j : Nat} {f : SlotFact} (hi : fs[i]? = some (j, f)) : (ownsAt fs).contains j = f.owns := by
  induction fs generalizing i with
  | nil => simp at hi
  | cons g r ih =>
    obtain ⟨k, g⟩ := g
    simp only [List.map_cons, nodupB, Bool.and_eq_true, Bool.not_eq_true', List.contains_eq_mem, decide_eq_false_iff_not] at hn
    have sub : ∀ (r : List (Nat × SlotFact)) x, x ∈ ownsAt r → x ∈ r.map (·.1) := by
      intro r
      induction r with
      | nil => intro x hx; simp [ownsAt] at hx
      | cons g r ih => intro x hx; simp only [ownsAt] at hx; split at hx <;> simp at hx ⊢ <;> grind
    cases i with
    | zero =>
      simp at hi; obtain ⟨rfl, rfl⟩ := hi
      simp only [ownsAt]
      cases hg : g.owns with
      | true => simp
      | false => simp; intro h; have := sub _ _ h; simp at this hn; grind
    | succ i =>
      simp at hi
      have : k ≠ j := fun e => hn.1 (by subst e; exact List.mem_map.2 ⟨_, List.mem_of_getElem? hi, rfl⟩)
      have h2 := ih hn.2 hi
      simp only [ownsAt]
      split
      · rw [← h2]; simp [Ne.symm this]
      · exact h2
theorem allFacts_of {B : Nat} {u : Nat → Value} {w : World} : ∀ (fs : List (Nat × SlotFact)), (∀ (i j : Nat) (f : SlotFact), fs[i]? = some (j, f) → f.h B (u j) w) → allFacts B u w fs
  | [], _ => trivial
  | (k, f) :: r, h => ⟨h 0 k f rfl, allFacts_of r fun i j f hf => h (i + 1) j f hf⟩

/-- what is to be shown of an operation of the front: into slot j, with the fact f -/
def Step (P : Program) (ops : Array Oper) (Q : Exit → Act → World → Prop) (W0 : World) (fs : List (Nat × SlotFact)) (l : List Value) (df : List Deferred) (i : Nat) (o : Oper) (j : Nat) (f : SlotFact) : Prop :=
  ∀ (u : Nat → Value) (w : World), Hld W0 w → (∀ k, (depsAt ops i).contains k = true → factAt W0.heap.size fs k (u k) w) →
    ∀ K : Act → World → Prop, (∀ v w', Below w.heap.size w w' → f.h w.heap.size v w' → K ⟨(setU (fs.map (·.1)) (upd u j v) 0 l).toArray, df⟩ w') →
      wpList P ops (Exit.then K Q) [o] ⟨(setU (fs.map (·.1)) u 0 l).toArray, df⟩ w
def StepY (P : Program) (ops : Array Oper) (S : World → Prop) (W0 : World) (fs : List (Nat × SlotFact)) (l : List Value) (df : List Deferred) (i : Nat) (o : Oper) (f : SlotFact) : Prop :=
  ∀ (u : Nat → Value) (w : World), Hld W0 w → (∀ k, (depsAt ops i).contains k = true → factAt W0.heap.size fs k (u k) w) →
    ∃ v, (∀ w, S w → (execOp (⟨(setU (fs.map (·.1)) u 0 l).toArray, df⟩ : Act).eval o).run P w = .ok (.value v) w) ∧ o.guard = none ∧ f.owns = false ∧ f.h w.heap.size v w
def Steps (P : Program) (ops : Array Oper) (Q : Exit → Act → World → Prop) (S : World → Prop) (W0 : World) (T : List Nat) (fs : List (Nat × SlotFact)) (l : List Value) (df : List Deferred) : Nat → List (Nat × SlotFact) → List Oper → Prop
  | i, (j, f) :: r, o :: os => (if T.contains i then StepY P ops S W0 fs l df i o f else Step P ops Q W0 fs l df i o j f) ∧ Steps P ops Q S W0 T fs l df (i + 1) r os
  | _, [], os => ∀ (u : Nat → Value) (w' : World), Hld W0 w' → allFacts W0.heap.size u w' fs → (∀ j j', (ownsAt fs).contains j = true → (ownsAt fs).contains j' = true → j ≠ j' → blk (u j) ≠ blk (u j')) →
      wpListS P ops Q S os ⟨(setU (fs.map (·.1)) u 0 l).toArray, df⟩ w'
  | _, _ :: _, [] => False

theorem Steps.at {W0 : World} {T : List Nat} {fs : List (Nat × SlotFact)} {l : List Value} {df : List Deferred} : ∀ (r : List (Nat × SlotFact)) (os : List Oper) (i : Nat), Steps P ops Q S W0 T fs l df i r os →
    (∀ k j f o, r[k]? = some (j, f) → os[k]? = some o → if T.contains (i + k) then StepY P ops S W0 fs l df (i + k) o f else Step P ops Q W0 fs l df (i + k) o j f) ∧ Steps P ops Q S W0 T fs l df (i + r.length) [] (os.drop r.length)
  | [], os, i, h => ⟨fun k j f o hk => by simp at hk, by simpa using h⟩
  | (j, f) :: r, [], i, h => h.elim
  | (j, f) :: r, o :: os, i, h => by
    obtain ⟨h1, h2⟩ := h
    obtain ⟨h3, h4⟩ := Steps.at r os (i + 1) h2
    refine ⟨fun k j' f' o' hk ho => ?_, ?_⟩
    · cases k with
      | zero => simp at hk ho; obtain ⟨rfl, rfl⟩ := hk; subst ho; exact h1
      | succ k => simp at hk ho; have := h3 k j' f' o' hk ho; rwa [show i + 1 + k = i + (k + 1) from by omega] at this
    · simp only [List.length_cons, List.drop_succ_cons]
      rwa [show i + 1 + r.length = i + (r.length + 1) from by omega] at h4

/-- ████ THE REGION, ITS FACTS AS A LIST IN THE OPERATIONS' ORDER ████ -/
theorem region_slots {id : Nat} {l : List Value} {df : List Deferred} {W0 : World} (S : World → Prop) (T : List Nat) (fs : List (Nat × SlotFact)) (hmx : P.follows .mixedOrders = true)
    (chk : regionOk ops fs.length (fs.map (·.1)) T = true) (chk2 : (T.all fun i => ((fs[i]?).map fun g => !g.2.owns).getD true) = true) (hBS : ∀ w', Hld W0 w' → S w') (hQ : T ≠ [] → ∀ c (a : Act) (d : Nat) v w, Q (.panic c) (a.put (some d) v) w → Q (.panic c) a w) (steps : Steps P ops Q S W0 T fs l df 0 fs ops.toList) :
    (Code.region id ops true).wp P Q ⟨l.toArray, df⟩ W0 := by
  have ok := RegionOk.of chk
  have hn : nodupB (fs.map (·.1)) = true := by
    simp only [regionOk, Bool.and_eq_true] at chk; exact chk.1.1.1.1.2
  obtain ⟨s1, s2⟩ := Steps.at fs ops.toList 0 steps
  have inFs : ∀ j, (fs.map (·.1)).contains j = true → ∃ (i : Nat) (f : SlotFact), fs[i]? = some (j, f) := by
    intro j hj
    simp only [List.contains_eq_mem, decide_eq_true_eq, List.mem_map] at hj
    obtain ⟨⟨k, f⟩, hf, rfl⟩ := hj
    obtain ⟨i, hi⟩ := List.mem_iff_getElem?.1 hf
    exact ⟨i, f, hi⟩
  have ownIn : ∀ j, (ownsAt fs).contains j = true → (fs.map (·.1)).contains j = true := by
    have sub : ∀ (r : List (Nat × SlotFact)) x, x ∈ ownsAt r → x ∈ r.map (·.1) := by
      intro r
      induction r with
      | nil => intro x hx; simp [ownsAt] at hx
      | cons g r ih => intro x hx; simp only [ownsAt] at hx; split at hx <;> simp at hx ⊢ <;> grind
    intro j hj
    simp only [List.contains_eq_mem, decide_eq_true_eq] at hj ⊢
    exact sub _ _ hj
  refine region_facts hmx fs.length (fs.map (·.1)) T (ownsAt fs) (Hld W0) (factAt W0.heap.size fs) chk hBS hQ (fun j v w w' _ _ hb h => factAt_mono hb h) ?_ (heldM ((Below.refl _ _).drew)) ?_ ?_ ?_ ?_
  · intro j hj v w h
    obtain ⟨i, f, hf⟩ := inFs j (ownIn j hj)
    rw [factAt_at hn hf] at h
    rw [ownsAt_mem hn hf] at hj
    cases f with
    | own vs => obtain ⟨b, rfl, _, h3, _⟩ := h; exact h3
    | is x => cases hj
    | sat p => cases hj
  · intro i hiT j hd
    obtain ⟨him, _⟩ := ok.take i hiT
    obtain ⟨j', hj1, hj2⟩ := ok.dst i him
    rw [hd] at hj2
    cases hj2
    rw [List.getElem?_map] at hj1
    cases hf : fs[i]? with
    | none => rw [hf] at hj1; cases hj1
    | some g =>
      rw [hf] at hj1
      obtain ⟨k, f⟩ := g
      simp only [Option.map_some, Option.some.injEq] at hj1
      subst hj1
      rw [ownsAt_mem hn hf]
      have h2 := List.all_eq_true.1 chk2 i hiT
      simpa [hf] using h2
  · intro i o j hi hiT ho hd u w hB hdeps K hK
    obtain ⟨j', hj1, hj2⟩ := ok.dst i hi
    have e : j' = j := by simp only [dstAt, ho, Option.bind_some, hd] at hj2; cases hj2; rfl
    subst e
    obtain ⟨⟨k, f⟩, hf, hk⟩ : ∃ g, fs[i]? = some g ∧ g.1 = j' := by
      rw [List.getElem?_map] at hj1
      cases h : fs[i]? with
      | none => rw [h] at hj1; cases hj1
      | some g => rw [h] at hj1; exact ⟨g, rfl, by simpa using hj1⟩
    simp only at hk
    subst hk
    have st := s1 i k f o hf (by simpa using ho)
    rw [Nat.zero_add, if_neg (by simpa using hiT)] at st
    refine st u w hB hdeps K fun v w' hb hv => hK v w' (heldB hB hb) hb (by rw [factAt_at hn hf]; exact f.low hB.2.2.2 hv) fun hp => ?_
    rw [ownsAt_mem hn hf] at hp
    cases f with
    | own vs => obtain ⟨b, rfl, h2, _⟩ := hv; exact h2
    | is x => cases hp
    | sat p => cases hp
  · intro i o j hiT ho hd u w hB hdeps
    obtain ⟨hi, _⟩ := ok.take i hiT
    obtain ⟨j', hj1, hj2⟩ := ok.dst i hi
    have e : j' = j := by simp only [dstAt, ho, Option.bind_some, hd] at hj2; cases hj2; rfl
    subst e
    obtain ⟨⟨k, f⟩, hf, hk⟩ : ∃ g, fs[i]? = some g ∧ g.1 = j' := by
      rw [List.getElem?_map] at hj1
      cases h : fs[i]? with
      | none => rw [h] at hj1; cases hj1
      | some g => rw [h] at hj1; exact ⟨g, rfl, by simpa using hj1⟩
    simp only at hk
    subst hk
    have st := s1 i k f o hf (by simpa using ho)
    rw [Nat.zero_add, if_pos (by simpa using hiT)] at st
    obtain ⟨v, h1, h2, _, h3⟩ := st u w hB hdeps
    refine ⟨v, Or.inl ⟨by simp [Region.wanted, h2], h1⟩, by rw [factAt_at hn hf]; exact f.low hB.2.2.2 h3⟩
  · intro u w' hB hF hP
    refine s2 u w' hB (allFacts_of fs fun i j f hf => ?_) fun j j' hj hj' hne => hP j j' (ownIn j hj) (ownIn j' hj') hj hj' hne
    have := hF j (by simp only [List.contains_eq_mem, decide_eq_true_eq, List.mem_map]; exact ⟨_, List.mem_of_getElem? hf, rfl⟩)
    rwa [factAt_at hn hf] at this
end
end Go.Proofs.YtmdnfamjdogogaaDoor

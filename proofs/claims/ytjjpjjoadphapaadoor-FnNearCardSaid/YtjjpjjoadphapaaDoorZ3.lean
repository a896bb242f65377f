/- Merged texts: Mr Tp Ow Ts Tt Tj Dc Ti To Tu Ta Tv Tr Te Tg Kg Bp. No law is stated here. -/
import Derived.Test.YtjjpjjoadphapaaDoorRows
import Derived.Maps.RangeWalk
import Derived.StillTailTactics
import Derived.Deep.AppendLies
import Derived.Deep.Cut
import Derived.Deep.RegionHeld
import Derived.Shelf.SlMaps.Clone
import Derived.WalkKit
import Derived.Deep.LoopGhost
import Derived.Sort.Grow
import Derived.Sort.Statements
import Derived.Test.YtjjpjjoadphapaaDoorZ2
namespace Go.Proofs.YtjjpjjoadphapaaDoor
set_option linter.unusedSimpArgs false
set_option linter.unusedVariables false
open Go.RowKit
open Go.ChangeMaps Go.MapKept Go.WideShapes

/-- what a type's keys must keep -/
structure KeyOk {α : Type} (P : Program) (T : TypeId) (enc : α → Value) (ok : α → Prop) : Prop where
  eq : ∀ (w : World) (a b : α), ok a → ok b → ∃ q : Bool, (q = true ↔ a = b) ∧ (Op.equal T (enc a) (enc b)).run P w = .ok q w
  under : ∃ d, P.underlying T = some d ∧ ∀ a b, Instr.sameNow d (enc a) (enc b) = none
  check : ∀ (w : World) (em : Bool) (a : α), ok a → (Instr.checkKey em 10000 T (enc a)).run P w = .ok () w
  bits : ∀ a, Instr.sameBits 10000 (enc a) (enc a) = true

/-- an entry: its stamp, its key, its value -/
abbrev En (α : Type) := Nat × α × Value
section
variable {α : Type}
def mk1 (enc : α → Value) (x : En α) : MapEntry := { key := enc x.2.1, val := x.2.2, born := x.1 }
def mkA (enc : α → Value) (E : List (En α)) : Array MapEntry := (E.map (mk1 enc)).toArray
def fndE [DecidableEq α] (a : α) : List (En α) → Nat → Option (Nat × Value)
  | [], _ => none
  | x :: r, i => if a = x.2.1 then some (i, x.2.2) else fndE a r (i + 1)
def hasE [DecidableEq α] (E : List (En α)) (a : α) : Bool := E.any fun x => decide (a = x.2.1)
section
variable [DecidableEq α]
theorem hasE_iff (E : List (En α)) (a : α) : hasE E a = true ↔ ∃ x ∈ E, a = x.2.1 := by simp [hasE]
theorem fndE_none {a : α} (E : List (En α)) : ∀ i, hasE E a = false → fndE a E i = none := by
  induction E with
  | nil => intro i _; rfl
  | cons x r ih =>
    intro i h
    simp only [hasE, List.any_cons, Bool.or_eq_false_iff, decide_eq_false_iff_not] at h
    unfold fndE
    rw [if_neg h.1]
    exact ih _ h.2
theorem fndE_some {a : α} (E : List (En α)) : ∀ i, hasE E a = true → ∃ j x, fndE a E i = some (i + j, x.2.2) ∧ E[j]? = some x ∧ x.2.1 = a := by
  induction E with
  | nil => intro i h; simp [hasE] at h
  | cons x r ih =>
    intro i h
    unfold fndE
    by_cases e : a = x.2.1
    · rw [if_pos e]; exact ⟨0, x, rfl, rfl, e.symm⟩
    · rw [if_neg e]
      obtain ⟨j, y, h1, h2, h3⟩ := ih (i + 1) (by simpa [hasE, e] using h)
      exact ⟨j + 1, y, by rw [h1]; congr 2; omega, h2, h3⟩
omit [DecidableEq α] in
theorem map_er {β : Type} (f : En α → β) : ∀ (L : List (En α)) (j : Nat), (L.map f).eraseIdx j = (L.eraseIdx j).map f
  | [], _ => by simp
  | _ :: _, 0 => by simp
  | y :: r, j + 1 => by simp [map_er f r j]
theorem erase_at {E : List (En α)} {j : Nat} {x : En α} (hn : (E.map (fun y => y.2.1)).Nodup) (h : E[j]? = some x) : E.eraseIdx j = E.filter (fun y => !decide (y.2.1 = x.2.1)) := by
  induction E generalizing j with
  | nil => simp
  | cons y r ih =>
    obtain ⟨h1, h2⟩ := List.nodup_cons.1 hn
    dsimp only at h1
    cases j with
    | zero =>
      simp only [List.getElem?_cons_zero, Option.some.injEq] at h
      subst h
      simp only [List.eraseIdx_cons_zero]
      rw [List.filter_cons, if_neg (by simp)]
      symm
      rw [List.filter_eq_self]
      intro z hz
      simp only [Bool.not_eq_eq_eq_not, Bool.not_true, decide_eq_false_iff_not]
      exact fun e => h1 (by rw [← e]; exact List.mem_map.2 ⟨z, hz, rfl⟩)
    | succ j =>
      simp only [List.getElem?_cons_succ] at h
      rw [List.eraseIdx_cons_succ, ih h2 h, List.filter_cons, if_pos]
      have hx : x ∈ r := List.mem_of_getElem? h
      simp only [Bool.not_eq_eq_eq_not, Bool.not_true, decide_eq_false_iff_not]
      exact fun e => h1 (by rw [e]; exact List.mem_map.2 ⟨x, hx, rfl⟩)
variable {P : Program} {M T el : TypeId} {enc : α → Value} {ok : α → Prop}
theorem askE (K : KeyOk P T enc ok) (w : World) {a : α} (ha : ok a) (E : List (En α)) : ∀ i, (∀ x ∈ E, ok x.2.1) → (Instr.findAsking T (enc a) (E.map (mk1 enc)) i).run P w = .ok (fndE a E i) w := by
  induction E with
  | nil => intro i _; rfl
  | cons x r ih =>
    intro i hB
    obtain ⟨q, hq, h1⟩ := K.eq w a x.2.1 ha (hB x (by simp))
    unfold fndE
    have hk : (mk1 enc x).key = enc x.2.1 := rfl
    have hv : (mk1 enc x).val = x.2.2 := rfl
    show (Instr.findAsking T (enc a) (mk1 enc x :: r.map (mk1 enc)) i).run P w = _
    unfold Instr.findAsking
    by_cases e : a = x.2.1
    · rw [if_pos e]
      rw [hq.2 e] at h1
      simp [hk, hv, h1]
    · rw [if_neg e]
      have hq0 : q = false := by
        cases q with
        | false => rfl
        | true => exact absurd (hq.1 rfl) e
      rw [hq0] at h1
      have h2 := ih (i + 1) (fun y hy => hB y (by simp [hy]))
      simp [hk, h1, h2]
theorem findE (K : KeyOk P T enc ok) (w : World) {a : α} (ha : ok a) (E : List (En α)) (hB : ∀ x ∈ E, ok x.2.1) : (Instr.findKey T (enc a) (E.map (mk1 enc))).run P w = .ok (fndE a E 0) w := by
  have h := askE K w ha E 0 hB
  obtain ⟨d, hd, hn⟩ := K.under
  unfold Instr.findKey
  cases E with
  | nil => simp [run_underlying hd, Instr.findNow, fndE]
  | cons x r =>
    have e : Instr.findNow d (enc a) ((x :: r).map (mk1 enc)) 0 = none := by simp [mk1, Instr.findNow, hn]
    simp only [Sem.run_bind, run_underlying hd, Result.andThen, e]
    exact h
/-- '_, has := m[k]' -/
theorem lookE (hM : P.underlying M = some (.map T el)) (K : KeyOk P T enc ok) {zv : Value} (w : World) (hz0 : (zeroValue el).run P w = .ok zv w) {b c : Nat} {E : List (En α)} (hb : w.heap[b]? = some (.map (mkA enc E) c)) {a : α} (ha : ok a) (hB : ∀ x ∈ E, ok x.2.1) :
    ∃ v, (Instr.lookup M (.map (some b)) (enc a) true).run P w = .ok (.tuple #[v, .bool (hasE E a)]) w := by
  have h1 := findE K w ha E hB
  have h1' : (Instr.findKey T (enc a) (mkA enc E).toList).run P w = .ok (fndE a E 0) w := h1
  unfold Instr.lookup
  rcases Bool.eq_false_or_eq_true (hasE E a) with hh | hh
  · obtain ⟨j, x, h2, _, _⟩ := fndE_some E 0 hh
    rw [h2] at h1'
    exact ⟨x.2.2, by rw [hh]; simp [run_underlying hM, Go.MapKept.run_getObj_map hb, K.check w _ a ha, h1']⟩
  · rw [fndE_none E 0 hh] at h1'
    exact ⟨zv, by rw [hh]; simp [run_underlying hM, Go.MapKept.run_getObj_map hb, K.check w _ a ha, h1', hz0]⟩
/-- a key that isn't there is laid at the end -/
theorem newE (hM : P.underlying M = some (.map T el)) (K : KeyOk P T enc ok) (w : World) {b c : Nat} {E : List (En α)} (hb : w.heap[b]? = some (.map (mkA enc E) c)) {a : α} (ha : ok a) (hB : ∀ x ∈ E, ok x.2.1) (hh : hasE E a = false) (v : Value) :
    (Instr.mapUpdate M (.map (some b)) (enc a) v).run P w = .ok () (setBlock w b (.map (mkA enc (E ++ [(c, a, v)])) (c + 1))) := by
  have h1 : (Instr.findKey T (enc a) (mkA enc E).toList).run P w = .ok (fndE a E 0) w := findE K w ha E hB
  rw [fndE_none E 0 hh] at h1
  have e2 : (mkA enc E).push { key := enc a, val := v, born := c } = mkA enc (E ++ [(c, a, v)]) := by simp [mkA, mk1]
  unfold Instr.mapUpdate
  simp [run_underlying hM, Go.MapKept.run_getObj_map hb, K.check w _ a ha, h1, Go.MapKept.run_setObj_map _ hb, e2, setBlock]
/-- a key that is there, with the value that it has: the map reads on as it did -/
theorem sameE (hM : P.underlying M = some (.map T el)) (K : KeyOk P T enc ok) (w : World) {b c : Nat} {E : List (En α)} (hb : w.heap[b]? = some (.map (mkA enc E) c)) {a : α} (ha : ok a) (hB : ∀ x ∈ E, ok x.2.1) (hh : hasE E a = true) (v : Value) (hv : ∀ x ∈ E, x.2.2 = v) :
    (Instr.mapUpdate M (.map (some b)) (enc a) v).run P w = .ok () (setBlock w b (.map (mkA enc E) c)) := by
  have h1 : (Instr.findKey T (enc a) (mkA enc E).toList).run P w = .ok (fndE a E 0) w := findE K w ha E hB
  obtain ⟨j, x, h2, h3, h4⟩ := fndE_some E 0 hh
  rw [h2, Nat.zero_add] at h1
  have k0 : (mkA enc E)[j]? = some (mk1 enc x) := by simp [mkA, h3]
  have hk : ((((mkA enc E)[j]?).map (·.key)).getD (enc a)) = enc a := by rw [k0]; simp [mk1, h4]
  have hs : (Instr.keyThatStays (enc a) (enc a)).run P w = .ok (enc a) w := by
    unfold Instr.keyThatStays
    simp [K.bits a]
  have e2 : (mkA enc E).modify j (fun e => { e with key := enc a, val := v }) = mkA enc E := by
    apply Array.ext_getElem?
    intro i
    rw [Array.getElem?_modify]
    by_cases e : j = i
    · subst e
      rw [if_pos rfl, k0]
      simp [mk1, h4, hv x (List.mem_of_getElem? h3)]
    · rw [if_neg e]
  unfold Instr.mapUpdate
  simp only [Sem.run_bind, run_underlying hM, Result.andThen, Go.MapKept.run_getObj_map hb, K.check w _ a ha, h1, hk, hs, e2, Go.MapKept.run_setObj_map _ hb, setBlock]
/-- 'delete' -/
theorem dropE (hM : P.underlying M = some (.map T el)) (K : KeyOk P T enc ok) (w : World) {b c : Nat} {E : List (En α)} (hb : w.heap[b]? = some (.map (mkA enc E) c)) {a : α} (ha : ok a) (hB : ∀ x ∈ E, ok x.2.1) (hn : (E.map (fun y => y.2.1)).Nodup) (ty : TypeId) :
    (Builtin.delete_ #[M, T] ty #[.map (some b), enc a]).run P w = .ok (.tuple #[]) (setBlock w b (.map (mkA enc (E.filter fun y => !decide (y.2.1 = a))) c)) := by
  have h1 : (Instr.findKey T (enc a) (mkA enc E).toList).run P w = .ok (fndE a E 0) w := findE K w ha E hB
  rcases Bool.eq_false_or_eq_true (hasE E a) with hh | hh
  · obtain ⟨j, x, h2, h3, h4⟩ := fndE_some E 0 hh
    rw [h2, Nat.zero_add] at h1
    have e2 : (mkA enc E).eraseIdxIfInBounds j = mkA enc (E.filter fun y => !decide (y.2.1 = a)) := by
      rw [← h4, ← erase_at hn h3]
      have hj : j < (mkA enc E).size := by simp [mkA, (List.getElem?_eq_some_iff.1 h3).1]
      have hsub : ((mkA enc E).eraseIdxIfInBounds j).toList = (mkA enc E).toList.eraseIdx j := by
        unfold Array.eraseIdxIfInBounds
        rw [dif_pos hj]
        simp
      apply Array.toList_inj.1
      rw [hsub]
      exact map_er (mk1 enc) E j
    simp [Builtin.delete_, run_underlying hM, Go.MapKept.run_getObj_map hb, K.check w _ a ha, h1, Go.MapKept.run_setObj_map _ hb, e2, setBlock]
  · rw [fndE_none E 0 hh] at h1
    have e2 : E.filter (fun y => !decide (y.2.1 = a)) = E := by
      rw [List.filter_eq_self]
      intro y hy
      simp only [Bool.not_eq_eq_eq_not, Bool.not_true, decide_eq_false_iff_not]
      intro e
      have := (hasE_iff E a).2 ⟨y, hy, e.symm⟩
      rw [hh] at this; cases this
    simp [Builtin.delete_, run_underlying hM, Go.MapKept.run_getObj_map hb, K.check w _ a ha, h1, Go.MapKept.run_setObj_map _ hb, e2, setBlock]

end
/-! ### ranged over -/
section
variable {P : Program} {M T el : TypeId} {enc : α → Value}
/-- a loop over the map at b is under way, its iterator at r: D has come, in this order, and R is still to come -/
def IterAt (enc : α → Value) (w : World) (b r : Nat) (E : List (En α)) (c : Nat) (D R : List (En α)) : Prop :=
  ∃ since seen c0, w.heap[b]? = some (.map (mkA enc E) c) ∧ w.heap[r]? = some (.mapIter (some b) since seen c0) ∧ (∀ x ∈ E, x.1 < since) ∧ since ≤ c0 ∧ since ≤ c ∧ (E.map (·.1)).Nodup ∧ R = E.filter (fun x => !seen.contains x.1) ∧ (D ++ R).Perm E
theorem leftE (E : List (En α)) (seen : Array Nat) : (leftOf (mkA enc E) seen).toList = (E.filter (fun x => !seen.contains x.1)).map (mk1 enc) := by
  unfold leftOf mkA
  rw [Array.toList_filter, List.filter_map]
  rfl
theorem perm_out : ∀ (R : List (En α)), (R.map (·.1)).Nodup → ∀ x ∈ R, R.Perm (x :: R.filter (fun y => y.1 != x.1)) := by
  intro R
  induction R with
  | nil => intro _ x hx; simp at hx
  | cons y r ih =>
    intro hn x hx
    obtain ⟨h1, h2⟩ := List.nodup_cons.1 hn
    dsimp only at h1
    rcases List.mem_cons.1 hx with rfl | hx
    · rw [List.filter_cons, if_neg (by simp)]
      have : r.filter (fun y => y.1 != x.1) = r := by
        rw [List.filter_eq_self]
        intro z hz
        simp only [bne_iff_ne]
        exact fun e => h1 (by rw [← e]; exact List.mem_map.2 ⟨z, hz, rfl⟩)
      rw [this]
    · have hne : y.1 ≠ x.1 := fun e => h1 (by rw [e]; exact List.mem_map.2 ⟨x, hx, rfl⟩)
      rw [List.filter_cons, if_pos (by simpa using hne)]
      exact ((ih h2 x hx).cons y).trans (List.Perm.swap x y _)
theorem startE (hM : P.underlying M = some (.map T el)) (w : World) {b c : Nat} {E : List (En α)} (hb : w.heap[b]? = some (.map (mkA enc E) c)) (hc : ∀ x ∈ E, x.1 < c) (hn : (E.map (·.1)).Nodup) :
    (Instr.range M (.map (some b))).run P w = .ok (.pointer (some ⟨w.heap.size, 0, none⟩)) (w.alloc (.mapIter (some b) c #[] c)) ∧ IterAt enc (w.alloc (.mapIter (some b) c #[] c)) b w.heap.size E c [] E := by
  have hlt : b < w.heap.size := (Array.getElem?_eq_some_iff.1 hb).1
  exact ⟨run_range_map w M T el b _ c hM hb, c, #[], c, ((MapKept.heap_alloc w _).2 b hlt).trans hb, (MapKept.heap_alloc w _).1, hc, Nat.le_refl _, Nat.le_refl _, hn, by rw [List.filter_eq_self.2 (fun x _ => by simp)], by simp⟩
theorem stepE {w : World} {b r c : Nat} {E D R : List (En α)} (h : IterAt enc w b r E c D R) (ty : TypeId) :
    (R = [] ∧ D.Perm E ∧ (Instr.next (.pointer (some ⟨r, 0, none⟩)) false ty).run P w = .ok (.tuple #[.bool false]) w) ∨
    ∃ x ∈ R, ∃ w' R', (Instr.next (.pointer (some ⟨r, 0, none⟩)) false ty).run P w = .ok (.tuple #[.bool true, enc x.2.1, x.2.2]) w' ∧ IterAt enc w' b r E c (D ++ [x]) R' ∧ R'.length < R.length ∧ R.Perm (x :: R') ∧ w.grownBy w' (some r) ∧ w'.heap.size = w.heap.size ∧
      (Instr.entry (.pointer (some ⟨r, 0, none⟩))).run P w' = .ok (.tuple #[enc x.2.1, x.2.2]) w' := by
  obtain ⟨since, seen, c0, hb, hr, hold, h1, h2, hn, hR, hp⟩ := h
  have hne : r ≠ b := fun e => by rw [e, hb] at hr; cases hr
  have hold' : ∀ x ∈ (mkA enc E).toList, x.born < since := fun x hx => by
    obtain ⟨y, hy, rfl⟩ := List.mem_map.1 (show x ∈ E.map (mk1 enc) from hx)
    exact hold y hy
  have hnb : ((mkA enc E).toList.map (·.born)).Nodup := by
    have e : (mkA enc E).toList.map (·.born) = E.map (·.1) := by simp [mkA, mk1, Function.comp_def]
    rw [e]; exact hn
  rcases run_next_at (P := P) w ty r b since c0 seen (mkA enc E) c hr hb hold' h1 with ⟨h0, hrun⟩ | ⟨e, he, w1, hal, hrun⟩
  · left
    have hR0 : R = [] := by
      have := leftE (enc := enc) E seen
      rw [← hR] at this
      have h3 : R.length = 0 := by rw [← List.length_map (f := mk1 enc), ← this, Array.length_toList]; exact h0
      exact List.eq_nil_of_length_eq_zero h3
    exact ⟨hR0, by rw [hR0, List.append_nil] at hp; exact hp, hrun⟩
  · right
    rw [leftE, ← hR] at he
    obtain ⟨x, hx, rfl⟩ := List.mem_map.1 he
    have hxE : x ∈ E := by rw [hR] at hx; exact (List.mem_filter.1 hx).1
    have hr1 : w1.heap[r]? = some (.mapIter (some b) since seen c0) := by rcases hal with rfl | rfl <;> exact hr
    have hb1 : w1.heap[b]? = some (.map (mkA enc E) c) := by rcases hal with rfl | rfl <;> exact hb
    have hset := heap_set (o' := .mapIter (some b) since (seen.push x.1) c) hr1
    have hb' : (setBlock w1 r (.mapIter (some b) since (seen.push x.1) c)).heap[b]? = some (.map (mkA enc E) c) := (hset.2 b (fun e1 => hne e1.symm)).trans hb1
    have hsub : R.Sublist E := by rw [hR]; exact List.filter_sublist
    have hnR : (R.map (·.1)).Nodup := (hsub.map _).nodup hn
    have hpo := perm_out R hnR x hx
    have hR' : E.filter (fun y => !(seen.push x.1).contains y.1) = R.filter (fun y => y.1 != x.1) := by
      rw [hR, List.filter_filter]
      congr 1
      funext y
      rw [contains_push, Bool.not_or]
      rw [show (y.1 != x.1) = !(y.1 == x.1) from rfl, Bool.and_comm]
    refine ⟨x, hx, _, R.filter (fun y => y.1 != x.1), hrun, ⟨since, seen.push x.1, c, hb', hset.1, hold, h2, h2, hn, hR'.symm, ?_⟩, ?_, hpo, ?_, ?_, ?_⟩
    · rw [List.append_assoc]; exact (List.Perm.append_left D hpo.symm).trans hp
    · have := hpo.length_eq; rw [List.length_cons] at this; omega
    · rcases hal with rfl | rfl <;> exact ⟨rfl, rfl, rfl, by simp [setBlock], fun i _ hi => hset.2 i (fun e1 => hi (by rw [e1]))⟩
    · rcases hal with rfl | rfl <;> simp [setBlock]
    · exact run_entry_at _ r b since seen (mkA enc E) c (mk1 enc x) hset.1 hb' (List.mem_map.2 ⟨x, hxE, rfl⟩) hnb
theorem IterAt.kept {w w' : World} {b r c : Nat} {E D R : List (En α)} {row : Option Nat} (h : IterAt enc w b r E c D R) (hg : w.grownBy w' row) (hb' : some b ≠ row) (hr' : some r ≠ row) : IterAt enc w' b r E c D R := by
  obtain ⟨since, seen, c0, hb, hr, rest⟩ := h
  exact ⟨since, seen, c0, (hg.block b (Array.getElem?_eq_some_iff.1 hb).1 hb').trans hb, (hg.block r (Array.getElem?_eq_some_iff.1 hr).1 hr').trans hr, rest⟩
theorem IterAt.map {w : World} {b r c : Nat} {E D R : List (En α)} (h : IterAt enc w b r E c D R) : w.heap[b]? = some (.map (mkA enc E) c) := by
  obtain ⟨_, _, _, hb, _⟩ := h; exact hb
theorem IterAt.perm {w : World} {b r c : Nat} {E D R : List (En α)} (h : IterAt enc w b r E c D R) : (D ++ R).Perm E := by
  obtain ⟨_, _, _, _, _, _, _, _, _, _, hp⟩ := h; exact hp
theorem IterAt.mem {w : World} {b r c : Nat} {E D R : List (En α)} (h : IterAt enc w b r E c D R) {x : En α} (hx : x ∈ R) : x ∈ E := h.perm.mem_iff.1 (List.mem_append_right _ hx)
section
variable (w : World) {ops : Array Oper} {rest : List Oper} {o : Oper} {a : Act} {Q : Exit → Act → World → Prop}
theorem wpList_rangeE (hg : o.guard = none) (m : Operand) (hop : o.op = Op.range M m) (hM : P.underlying M = some (.map T el)) (b c : Nat) (E : List (En α)) (hm : a.eval m = .map (some b)) (hb : w.heap[b]? = some (.map (mkA enc E) c)) (hc : ∀ x ∈ E, x.1 < c) (hn : (E.map (·.1)).Nodup)
    (hK : ∀ w', IterAt enc w' b w.heap.size E c [] E → w.grownBy w' none → w'.heap.size = w.heap.size + 1 → wpList P ops Q rest (a.put o.dst (.pointer (some ⟨w.heap.size, 0, none⟩))) w') :
    wpList P ops Q (o :: rest) a w := by
  refine wpList_plain hg fun K' hK' => ?_
  obtain ⟨hrun, r1⟩ := startE (P := P) (M := M) (T := T) (el := el) (enc := enc) hM w hb hc hn
  unfold Oper.wp
  simp [execOp, hop, hm, hrun, Result.andThen]
  exact hK' _ _ (hK _ r1 (World.grownBy_alloc w _ none) (by simp))
theorem wpList_nextE (hg : o.guard = none) (it : Operand) (hop : o.op = Op.next it false) (b r c : Nat) (E D R : List (En α)) (hit : a.eval it = .pointer (some ⟨r, 0, none⟩)) (h : IterAt enc w b r E c D R)
    (hDone : R = [] → D.Perm E → wpList P ops Q rest (a.put o.dst (.tuple #[.bool false])) w)
    (hMore : ∀ (x : En α) (w' : World) (R' : List (En α)), x ∈ R → IterAt enc w' b r E c (D ++ [x]) R' → R'.length < R.length → R.Perm (x :: R') → w.grownBy w' (some r) → w'.heap.size = w.heap.size →
      (Instr.entry (.pointer (some ⟨r, 0, none⟩))).run P w' = .ok (.tuple #[enc x.2.1, x.2.2]) w' → wpList P ops Q rest (a.put o.dst (.tuple #[.bool true, enc x.2.1, x.2.2])) w') :
    wpList P ops Q (o :: rest) a w := by
  refine wpList_plain hg fun K' hK' => ?_
  unfold Oper.wp
  rcases stepE (P := P) h o.type with ⟨h0, hl, hrun⟩ | ⟨x, hx, w', R', hrun, hi, hlt, hp, hgr, hsz, hen⟩
  · simp [execOp, hop, hit, hrun, Result.andThen]
    exact hK' _ _ (hDone h0 hl)
  · simp [execOp, hop, hit, hrun, Result.andThen]
    exact hK' _ _ (hMore x w' R' hx hi hlt hp hgr hsz hen)
theorem wpList_deleteE [DecidableEq α] {ok : α → Prop} (hg : o.guard = none) (m x : Operand) (hop : o.op = Op.call { callee := Callee.builtin Builtin.delete, args := #[m, x], argTypes := #[M, T] }) (hM : P.underlying M = some (.map T el)) (K : KeyOk P T enc ok) (b c : Nat) (E : List (En α)) (z : α)
    (hm : a.eval m = .map (some b)) (hx : a.eval x = enc z) (hb : w.heap[b]? = some (.map (mkA enc E) c)) (hz : ok z) (hB : ∀ y ∈ E, ok y.2.1) (hn : (E.map (fun y => y.2.1)).Nodup)
    (hK : wpList P ops Q rest (a.put o.dst (.tuple #[])) (setBlock w b (.map (mkA enc (E.filter fun y => !decide (y.2.1 = z))) c))) :
    wpList P ops Q (o :: rest) a w := by
  refine wpList_plain hg fun K' hK' => ?_
  have hrun := dropE hM K w hb hz hB hn o.type
  unfold Oper.wp
  simp [execOp, hop, resolve, invoke, builtin, hm, hx, hrun, Result.andThen]
  exact hK' _ _ hK
end
end
end
end Go.Proofs.YtjjpjjoadphapaaDoor

namespace Go.Proofs.YtjjpjjoadphapaaDoor
set_option linter.unusedSimpArgs false
set_option linter.unusedVariables false
open Go.RowKit Ieee

def okP (z : ZZ) : Prop := z.1.natAbs ≤ 100000 ∧ z.2.natAbs ≤ 100000
theorem pointAt_c (z : ZZ) (w : World) (h : okP z) : Calls Tryd.prog 24 #[pr z.1 z.2] w fun e w' => e = .returned (encP z) ∧ Below w.heap.size w w' := by
  have hc := fun w => convP_c (t := 70) (u := 39) Tryd.underlying70 Tryd.underlying39 (ff_conv .f64 .f32 (a := z.1) (by have := h.1; omega)) (ff_conv .f64 .f32 (a := z.2) (by have := h.2; omega)) w
  have hc2 := fun w => convP_c (t := 71) (u := 39) Tryd.underlying71 Tryd.underlying39 (ff_conv .f64 .f32 (a := z.1) (by have := h.1; omega)) (ff_conv .f64 .f32 (a := z.2) (by have := h.2; omega)) w
  clear h
  obtain ⟨x, y⟩ := z
  dsimp only at *
  go_enter Tryd.func24, Tryd.ntmps24
  go_wp2_with fail
  generalize hW : World.alloc _ _ = W0
  have kW0_17 : W0.cell? ⟨w.heap.size, 0, none⟩ = some (.int .i64 (x)) := by rw [← hW]; clear hW; first | (go_simp; done) | ((repeat refine keepcell ((Below.refl _ _).alloc (Nat.le_refl _) _) ?_); go_simp; done) | (simp only [frozen?_alloc_cells]; go_simp; done)
  have kW0_18 : W0.cell? ⟨w.heap.size, 1, none⟩ = some (.int .i64 (y)) := by rw [← hW]; clear hW; first | (go_simp; done) | ((repeat refine keepcell ((Below.refl _ _).alloc (Nat.le_refl _) _) ?_); go_simp; done) | (simp only [frozen?_alloc_cells]; go_simp; done)
  have : w.heap.size < W0.heap.size := World.block_lt_of_cell? W0 ⟨w.heap.size, 0, none⟩ (by assumption)
  have hBW0 : Below w.heap.size w W0 := by rw [← hW]; (first | ((repeat' with_reducible first | assumption | exact Below.refl _ _ | apply Blw.alloc | apply Blw.drew | apply Blw.drewN | (refine Blw.after ?_ (by assumption)) | (refine Blw.set ?_ (by first | (dsimp only; omega) | (simp; omega)) _)); done) | (repeat' (first | assumption | exact Below.refl _ _ | apply Blw.alloc | apply Blw.drew | apply Blw.drewN | (refine Blw.after ?_ (by assumption)) | (refine Blw.set ?_ (by first | (dsimp only; omega) | (simp; done) | (simp; omega)) _))))
  have hsW0 := hBW0.size
  clear hW
  go_wp2_with ((go_at_call 41; refine (pwide_c _ _ _).mono ?_; rintro e w1 ⟨rfl, hb⟩; have hk : Hld W0 w1 := heldM (by (first | ((repeat' with_reducible first | assumption | exact Below.refl _ _ | apply Blw.alloc | apply Blw.drew | apply Blw.drewN | (refine Blw.after ?_ (by assumption)) | (refine Blw.set ?_ (by first | (dsimp only; omega) | (simp; omega)) _)); done) | (repeat' (first | assumption | exact Below.refl _ _ | apply Blw.alloc | apply Blw.drew | apply Blw.drewN | (refine Blw.after ?_ (by assumption)) | (refine Blw.set ?_ (by first | (dsimp only; omega) | (simp; done) | (simp; omega)) _))))); have hk1 := hk.1))
  go_ret
  exact ⟨rfl, by (first | ((repeat' with_reducible first | assumption | exact Below.refl _ _ | apply Blw.alloc | apply Blw.drew | apply Blw.drewN | (refine Blw.after ?_ (by assumption)) | (refine Blw.set ?_ (by first | (dsimp only; omega) | (simp; omega)) _)); done) | (repeat' (first | assumption | exact Below.refl _ _ | apply Blw.alloc | apply Blw.drew | apply Blw.drewN | (refine Blw.after ?_ (by assumption)) | (refine Blw.set ?_ (by first | (dsimp only; omega) | (simp; done) | (simp; omega)) _))))⟩
set_option maxRecDepth 100000 in
set_option maxHeartbeats 1000000 in
theorem gaussAt_c (z : ZZ) (w : World) (h : okP z) : Calls Tryd.prog 14 #[encP z] w fun e w' => e = .returned (pr z.1 z.2) ∧ Below w.heap.size w w' := by
  have hc : ∀ w, (convert 39 71 (encP z)).run Tryd.prog w = .ok (.complex .f64 (floatOfInt .f64 z.1) (floatOfInt .f64 z.2)) w := fun w => convP_c (t := 39) (u := 71) Tryd.underlying39 Tryd.underlying71 (ff_conv .f32 .f64 (a := z.1) (by have := h.1; omega)) (ff_conv .f32 .f64 (a := z.2) (by have := h.2; omega)) w
  have h1 : -1000000 ≤ z.1 ∧ z.1 ≤ 1000000 := by have := h.1; omega
  have h2 : -1000000 ≤ z.2 ∧ z.2 ≤ 1000000 := by have := h.2; omega
  have HP := Lib.hid (fun w => wpair_c (floatOfInt .f64 z.1) (floatOfInt .f64 z.2) z.1 z.2 w (int_vl h1) (int_vl h2) h1 h2)
  clear h h1 h2
  obtain ⟨x, y⟩ := z
  dsimp only at *
  go_enter Tryd.func14, Tryd.ntmps14
  go_wp2_with fail
  generalize hW : World.alloc _ _ = W0
  have kW0_19 : W0.cell? ⟨w.heap.size, 0, none⟩ = some (.int .i64 (0)) := by rw [← hW]; clear hW; first | (go_simp; done) | ((repeat refine keepcell ((Below.refl _ _).alloc (Nat.le_refl _) _) ?_); go_simp; done) | (simp only [frozen?_alloc_cells]; go_simp; done)
  have zW0_19 : W0.frozen? ⟨w.heap.size, 0, none⟩ = false := by rw [← hW]; clear hW; first | (go_simp; done) | ((repeat refine keepcell ((Below.refl _ _).alloc (Nat.le_refl _) _) ?_); go_simp; done) | (simp only [frozen?_alloc_cells]; go_simp; done)
  have kW0_20 : W0.cell? ⟨w.heap.size, 1, none⟩ = some (.int .i64 (0)) := by rw [← hW]; clear hW; first | (go_simp; done) | ((repeat refine keepcell ((Below.refl _ _).alloc (Nat.le_refl _) _) ?_); go_simp; done) | (simp only [frozen?_alloc_cells]; go_simp; done)
  have zW0_20 : W0.frozen? ⟨w.heap.size, 1, none⟩ = false := by rw [← hW]; clear hW; first | (go_simp; done) | ((repeat refine keepcell ((Below.refl _ _).alloc (Nat.le_refl _) _) ?_); go_simp; done) | (simp only [frozen?_alloc_cells]; go_simp; done)
  have : w.heap.size < W0.heap.size := World.block_lt_of_cell? W0 ⟨w.heap.size, 0, none⟩ (by assumption)
  have hBW0 : Below w.heap.size w W0 := by rw [← hW]; (first | ((repeat' with_reducible first | assumption | exact Below.refl _ _ | apply Blw.alloc | apply Blw.drew | apply Blw.drewN | (refine Blw.after ?_ (by assumption)) | (refine Blw.set ?_ (by first | (dsimp only; omega) | (simp; omega)) _)); done) | (repeat' (first | assumption | exact Below.refl _ _ | apply Blw.alloc | apply Blw.drew | apply Blw.drewN | (refine Blw.after ?_ (by assumption)) | (refine Blw.set ?_ (by first | (dsimp only; omega) | (simp; done) | (simp; omega)) _))))
  have hsW0 := hBW0.size
  clear hW
  go_wp2_with (fail)
  refine (HP.out _).mono ?_
  rintro e wA ⟨rfl, hbwA⟩
  have hkwA : Hld W0 wA := heldM (by (first | ((repeat' with_reducible first | assumption | exact Below.refl _ _ | apply Blw.alloc | apply Blw.drew | apply Blw.drewN | (refine Blw.after ?_ (by assumption)) | (refine Blw.set ?_ (by first | (dsimp only; omega) | (simp; omega)) _)); done) | (repeat' (first | assumption | exact Below.refl _ _ | apply Blw.alloc | apply Blw.drew | apply Blw.drewN | (refine Blw.after ?_ (by assumption)) | (refine Blw.set ?_ (by first | (dsimp only; omega) | (simp; done) | (simp; omega)) _)))))
  have hlwA := hkwA.1
  have hswA := hkwA.2.2.2
  try (have : w.heap.size < wA.heap.size := by omega)
  go_wp2_with fail
  generalize hW : World.alloc _ _ = W1
  have kW1_21 : W1.cell? ⟨w.heap.size, 0, none⟩ = some (.int .i64 (0)) := by rw [← hW]; clear hW; first | (go_simp; done) | ((repeat refine keepcell ((Below.refl _ _).alloc (Nat.le_refl _) _) ?_); go_simp; done) | (simp only [frozen?_alloc_cells]; go_simp; done)
  have zW1_21 : W1.frozen? ⟨w.heap.size, 0, none⟩ = false := by rw [← hW]; clear hW; first | (go_simp; done) | ((repeat refine keepcell ((Below.refl _ _).alloc (Nat.le_refl _) _) ?_); go_simp; done) | (simp only [frozen?_alloc_cells]; go_simp; done)
  have kW1_22 : W1.cell? ⟨w.heap.size, 1, none⟩ = some (.int .i64 (0)) := by rw [← hW]; clear hW; first | (go_simp; done) | ((repeat refine keepcell ((Below.refl _ _).alloc (Nat.le_refl _) _) ?_); go_simp; done) | (simp only [frozen?_alloc_cells]; go_simp; done)
  have zW1_22 : W1.frozen? ⟨w.heap.size, 1, none⟩ = false := by rw [← hW]; clear hW; first | (go_simp; done) | ((repeat refine keepcell ((Below.refl _ _).alloc (Nat.le_refl _) _) ?_); go_simp; done) | (simp only [frozen?_alloc_cells]; go_simp; done)
  have : w.heap.size < W1.heap.size := World.block_lt_of_cell? W1 ⟨w.heap.size, 0, none⟩ (by assumption)
  have kW1_23 : W1.cell? ⟨wA.heap.size, 0, none⟩ = some (.int .i64 (x)) := by rw [← hW]; clear hW; first | (go_simp; done) | ((repeat refine keepcell ((Below.refl _ _).alloc (Nat.le_refl _) _) ?_); go_simp; done) | (simp only [frozen?_alloc_cells]; go_simp; done)
  have kW1_24 : W1.cell? ⟨wA.heap.size, 1, none⟩ = some (.int .i64 (y)) := by rw [← hW]; clear hW; first | (go_simp; done) | ((repeat refine keepcell ((Below.refl _ _).alloc (Nat.le_refl _) _) ?_); go_simp; done) | (simp only [frozen?_alloc_cells]; go_simp; done)
  have : wA.heap.size < W1.heap.size := World.block_lt_of_cell? W1 ⟨wA.heap.size, 0, none⟩ (by assumption)
  have hBW1 : Below w.heap.size w W1 := by rw [← hW]; (first | ((repeat' with_reducible first | assumption | exact Below.refl _ _ | apply Blw.alloc | apply Blw.drew | apply Blw.drewN | (refine Blw.after ?_ (by assumption)) | (refine Blw.set ?_ (by first | (dsimp only; omega) | (simp; omega)) _)); done) | (repeat' (first | assumption | exact Below.refl _ _ | apply Blw.alloc | apply Blw.drew | apply Blw.drewN | (refine Blw.after ?_ (by assumption)) | (refine Blw.set ?_ (by first | (dsimp only; omega) | (simp; done) | (simp; omega)) _))))
  have hsW1 := hBW1.size
  clear hW
  try clear kW0_19; try clear zW0_19; try clear kW0_20; try clear zW0_20; try clear hbwA; try clear hkwA; try clear hlwA
  go_wp2_with (fail)
  refine (gauss_c _ _ _).mono ?_
  rintro e wB ⟨rfl, hbwB⟩
  have hkwB : Hld W1 wB := heldM (by (first | ((repeat' with_reducible first | assumption | exact Below.refl _ _ | apply Blw.alloc | apply Blw.drew | apply Blw.drewN | (refine Blw.after ?_ (by assumption)) | (refine Blw.set ?_ (by first | (dsimp only; omega) | (simp; omega)) _)); done) | (repeat' (first | assumption | exact Below.refl _ _ | apply Blw.alloc | apply Blw.drew | apply Blw.drewN | (refine Blw.after ?_ (by assumption)) | (refine Blw.set ?_ (by first | (dsimp only; omega) | (simp; done) | (simp; omega)) _)))))
  have hlwB := hkwB.1
  have hswB := hkwB.2.2.2
  try (have : w.heap.size < wB.heap.size := by omega)
  try (have : wA.heap.size < wB.heap.size := by omega)
  go_wp2_with fail
  exact bodyPost_ret (v := pr x y) (by simp [results, Tryd.results14, go_sem, *]) rfl ⟨rfl, by (first | ((repeat' with_reducible first | assumption | exact Below.refl _ _ | apply Blw.alloc | apply Blw.drew | apply Blw.drewN | (refine Blw.after ?_ (by assumption)) | (refine Blw.set ?_ (by first | (dsimp only; omega) | (simp; omega)) _)); done) | (repeat' (first | assumption | exact Below.refl _ _ | apply Blw.alloc | apply Blw.drew | apply Blw.drewN | (refine Blw.after ?_ (by assumption)) | (refine Blw.set ?_ (by first | (dsimp only; omega) | (simp; done) | (simp; omega)) _))))⟩
/-- points are keys -/
theorem keyP : KeyOk Tryd.prog 39 encP okP where
  eq := fun w a b ha hb => by
    have h1 := ff_order (k := .f32) (a := a.1) (b := b.1) (by have := ha.1; omega) (by have := hb.1; omega)
    have h2 := ff_order (k := .f32) (a := a.2) (b := b.2) (by have := ha.2; omega) (by have := hb.2; omega)
    refine ⟨decide (a.1 = b.1) && decide (a.2 = b.2), ?_, ?_⟩
    · simp only [Bool.and_eq_true, decide_eq_true_eq]
      exact ⟨fun h => Prod.ext h.1 h.2, fun h => by rw [h]; exact ⟨rfl, rfl⟩⟩
    · change (Op.equalIn (9999 + 1) 39 _ _).run _ w = _
      unfold Op.equalIn
      change FloatKind.f32.format.order (px a) (px b) = _ at h1
      change FloatKind.f32.format.order (py a) (py b) = _ at h2
      simp [run_underlying (show Tryd.prog.underlying 39 = some (.complex .f32) from Tryd.underlying39), Op.floatEq, h1, h2, cmp_sg]
  under := ⟨_, Tryd.underlying39, fun a b => rfl⟩
  check := fun w em a _ => by
    change (Instr.checkKey em (9999 + 1) 39 (encP a)).run _ w = _
    unfold Instr.checkKey
    simp [run_underlying (show Tryd.prog.underlying 39 = some (.complex .f32) from Tryd.underlying39)]
  bits := fun a => by
    change Instr.sameBits (9999 + 1) (encP a) (encP a) = true
    simp [Instr.sameBits]
end Go.Proofs.YtjjpjjoadphapaaDoor

namespace Go.Proofs.YtjjpjjoadphapaaDoor
set_option linter.unusedSimpArgs false
set_option linter.unusedVariables false
open Go.RowKit

structure Own2 (w : World) (b : Nat) (x y : Int) : Prop where
  c0 : w.cell? ⟨b, 0, none⟩ = some (.int .i64 x)
  c1 : w.cell? ⟨b, 1, none⟩ = some (.int .i64 y)
  f0 : w.frozen? ⟨b, 0, none⟩ = false
  f1 : w.frozen? ⟨b, 1, none⟩ = false
theorem Own2.lt {w : World} {b : Nat} {x y : Int} (h : Own2 w b x y) : b < w.heap.size := World.block_lt_of_cell? w _ h.c0
theorem Own2.cong {w : World} {b : Nat} {x y x' y' : Int} (h : Own2 w b x y) (hx : x = x') (hy : y = y') : Own2 w b x' y' := by subst hx; subst hy; exact h
theorem Own2.below {w w' : World} {b B : Nat} {x y : Int} (h : Own2 w b x y) (hb : Below B w w') (hB : b < B) : Own2 w' b x y :=
  ⟨(hb.cell (p := ⟨b, 0, none⟩) hB).trans h.c0, (hb.cell (p := ⟨b, 1, none⟩) hB).trans h.c1, (hb.frozen (p := ⟨b, 0, none⟩) hB).trans h.f0, (hb.frozen (p := ⟨b, 1, none⟩) hB).trans h.f1⟩
theorem Own2.alloc {w : World} {b : Nat} {x y : Int} (h : Own2 w b x y) (o : Obj) : Own2 (w.alloc o) b x y := h.below ((Below.refl _ w).alloc (Nat.le_refl _) o) h.lt
theorem cell_set_other {w : World} {b g o o' : Nat} {v : Value} (h : b ≠ g) : (w.setCell ⟨g, o, none⟩ v).cell? ⟨b, o', none⟩ = w.cell? ⟨b, o', none⟩ :=
  World.cell?_of_block (w := w) (a := ⟨b, o', none⟩) (Below.heap_setCell _ _ _ _ h)
theorem Own2.set {w : World} {b g o : Nat} {x y : Int} {v : Value} (h : Own2 w b x y) (hne : b ≠ g) : Own2 (w.setCell ⟨g, o, none⟩ v) b x y :=
  ⟨(cell_set_other hne).trans h.c0, (cell_set_other hne).trans h.c1, (World.frozen?_setCell _ _ _ _).trans h.f0, (World.frozen?_setCell _ _ _ _).trans h.f1⟩
theorem cell_set_self {w : World} {b o : Nat} {u v : Value} (h : w.cell? ⟨b, o, none⟩ = some u) : (w.setCell ⟨b, o, none⟩ v).cell? ⟨b, o, none⟩ = some v := by
  go_simp
theorem cell_set_off {w : World} {b o o' : Nat} {v : Value} (h : o' ≠ o) : (w.setCell ⟨b, o, none⟩ v).cell? ⟨b, o', none⟩ = w.cell? ⟨b, o', none⟩ := by
  simp only [World.setCell, World.cell?, Array.getElem?_modify, if_true]
  cases w.heap[b]? with
  | none => rfl
  | some x => cases x <;> simp [Array.getElem?_setIfInBounds, Ne.symm h]
theorem Own2.put {w : World} {b : Nat} {x y x' y' : Int} (h : Own2 w b x y) : Own2 ((w.setCell ⟨b, 0, none⟩ (.int .i64 x')).setCell ⟨b, 1, none⟩ (.int .i64 y')) b x' y' :=
  ⟨(cell_set_off (by omega)).trans (cell_set_self h.c0), cell_set_self ((cell_set_off (by omega)).trans h.c1), (World.frozen?_setCell _ _ _ _).trans ((World.frozen?_setCell _ _ _ _).trans h.f0), (World.frozen?_setCell _ _ _ _).trans ((World.frozen?_setCell _ _ _ _).trans h.f1)⟩
def Own2X (w : World) (b : Nat) : Prop := ∃ x y, Own2 w b x y
theorem Own2.x {w : World} {b : Nat} {x y : Int} (h : Own2 w b x y) : Own2X w b := ⟨x, y, h⟩
theorem Own2X.set {w : World} {b g o : Nat} {v : Value} (h : Own2X w b) (hne : b ≠ g) : Own2X (w.setCell ⟨g, o, none⟩ v) b := by
  obtain ⟨x, y, h⟩ := h; exact ⟨x, y, h.set hne⟩
theorem Own2X.alloc {w : World} {b : Nat} (h : Own2X w b) (o : Obj) : Own2X (w.alloc o) b := by
  obtain ⟨x, y, h⟩ := h; exact ⟨x, y, h.alloc o⟩
theorem Own2X.put {w : World} {b : Nat} {x' y' : Int} (h : Own2X w b) : Own2 ((w.setCell ⟨b, 0, none⟩ (.int .i64 x')).setCell ⟨b, 1, none⟩ (.int .i64 y')) b x' y' := by
  obtain ⟨x, y, h⟩ := h; exact h.put
theorem Own2.fresh (w : World) (x y : Int) (t : TypeId) : Own2 (w.alloc (.cells #[.int .i64 x, .int .i64 y] t)) w.heap.size x y :=
  ⟨by go_simp, by go_simp, by rw [frozen?_alloc_cells]; simp [World.frozen?], by rw [frozen?_alloc_cells]; simp [World.frozen?]⟩
end Go.Proofs.YtjjpjjoadphapaaDoor

namespace Go.Proofs.YtjjpjjoadphapaaDoor
set_option linter.unusedSimpArgs false
set_option linter.unusedVariables false
open Go.RowKit

def TailRel (x y : Int) (n : Nat) (w : World) (m : Nat) (i : Value) (wr : World) : Prop :=
  ∃ k : Nat, k + m = n ∧ i = .int .i64 k ∧ Below w.heap.size w wr ∧ Own2 wr w.heap.size (qn k (x, y)).1 (qn k (x, y)).2 ∧ Own2 wr (w.heap.size + 1) 0 0 ∧ Own2 wr (w.heap.size + 2) 0 0 ∧
    Own2 wr (w.heap.size + 3) (rn k (x, y)).1 (rn k (x, y)).2 ∧ Own2 wr (w.heap.size + 4) (bpw k).1 (bpw k).2
theorem rn_step0 {n : Nat} {z : ZZ} (h : ld (qn n z) = 0) : rn (n + 1) z = ((rn n z).1, (rn n z).2) := by
  show ((rn n z).1 + ld (qn n z) * (bpw n).1, (rn n z).2 + ld (qn n z) * (bpw n).2) = _
  rw [h]; simp
theorem rn_step1 {n : Nat} {z : ZZ} (h : ld (qn n z) = 1) : rn (n + 1) z = ((rn n z).1 + (bpw n).1, (rn n z).2 + (bpw n).2) := by
  show ((rn n z).1 + ld (qn n z) * (bpw n).1, (rn n z).2 + ld (qn n z) * (bpw n).2) = _
  rw [h]; simp
set_option maxRecDepth 100000 in
set_option maxHeartbeats 4000000 in
theorem l6tTail_c (x y : Int) (n : Nat) (w : World) (hn : n ≤ 13) (h : (-1000000 ≤ x ∧ x ≤ 1000000) ∧ (-1000000 ≤ y ∧ y ≤ 1000000)) : Calls Tryd.prog 20 #[pr x y, .int .i64 n] w fun e w' => e = .returned (.tuple #[pr (qn n (x, y)).1 (qn n (x, y)).2, pr (rn n (x, y)).1 (rn n (x, y)).2]) ∧ Below w.heap.size w w' := by
  have HQ := Lib.hid (fun k => qn_in (k := 1000000) (z := (x, y)) h.1 h.2 k)
  clear h
  go_enter Tryd.func20, Tryd.ntmps20
  go_wp2
  generalize hW : World.alloc _ _ = W0
  have kW0_9 : W0.cell? ⟨w.heap.size, 0, none⟩ = some (.int .i64 (x)) := by rw [← hW]; clear hW; first | (go_simp; done) | ((repeat refine keepcell ((Below.refl _ _).alloc (Nat.le_refl _) _) ?_); go_simp; done) | (simp only [frozen?_alloc_cells]; go_simp; done)
  have zW0_9 : W0.frozen? ⟨w.heap.size, 0, none⟩ = false := by rw [← hW]; clear hW; first | (go_simp; done) | ((repeat refine keepcell ((Below.refl _ _).alloc (Nat.le_refl _) _) ?_); go_simp; done) | (simp only [frozen?_alloc_cells]; go_simp; done)
  have kW0_10 : W0.cell? ⟨w.heap.size, 1, none⟩ = some (.int .i64 (y)) := by rw [← hW]; clear hW; first | (go_simp; done) | ((repeat refine keepcell ((Below.refl _ _).alloc (Nat.le_refl _) _) ?_); go_simp; done) | (simp only [frozen?_alloc_cells]; go_simp; done)
  have zW0_10 : W0.frozen? ⟨w.heap.size, 1, none⟩ = false := by rw [← hW]; clear hW; first | (go_simp; done) | ((repeat refine keepcell ((Below.refl _ _).alloc (Nat.le_refl _) _) ?_); go_simp; done) | (simp only [frozen?_alloc_cells]; go_simp; done)
  have : w.heap.size < W0.heap.size := World.block_lt_of_cell? W0 ⟨w.heap.size, 0, none⟩ (by assumption)
  have kW0_11 : W0.cell? ⟨w.heap.size + 1, 0, none⟩ = some (.int .i64 (0)) := by rw [← hW]; clear hW; first | (go_simp; done) | ((repeat refine keepcell ((Below.refl _ _).alloc (Nat.le_refl _) _) ?_); go_simp; done) | (simp only [frozen?_alloc_cells]; go_simp; done)
  have zW0_11 : W0.frozen? ⟨w.heap.size + 1, 0, none⟩ = false := by rw [← hW]; clear hW; first | (go_simp; done) | ((repeat refine keepcell ((Below.refl _ _).alloc (Nat.le_refl _) _) ?_); go_simp; done) | (simp only [frozen?_alloc_cells]; go_simp; done)
  have kW0_12 : W0.cell? ⟨w.heap.size + 1, 1, none⟩ = some (.int .i64 (0)) := by rw [← hW]; clear hW; first | (go_simp; done) | ((repeat refine keepcell ((Below.refl _ _).alloc (Nat.le_refl _) _) ?_); go_simp; done) | (simp only [frozen?_alloc_cells]; go_simp; done)
  have zW0_12 : W0.frozen? ⟨w.heap.size + 1, 1, none⟩ = false := by rw [← hW]; clear hW; first | (go_simp; done) | ((repeat refine keepcell ((Below.refl _ _).alloc (Nat.le_refl _) _) ?_); go_simp; done) | (simp only [frozen?_alloc_cells]; go_simp; done)
  have : w.heap.size + 1 < W0.heap.size := World.block_lt_of_cell? W0 ⟨w.heap.size + 1, 0, none⟩ (by assumption)
  have kW0_13 : W0.cell? ⟨w.heap.size + 2, 0, none⟩ = some (.int .i64 (0)) := by rw [← hW]; clear hW; first | (go_simp; done) | ((repeat refine keepcell ((Below.refl _ _).alloc (Nat.le_refl _) _) ?_); go_simp; done) | (simp only [frozen?_alloc_cells]; go_simp; done)
  have zW0_13 : W0.frozen? ⟨w.heap.size + 2, 0, none⟩ = false := by rw [← hW]; clear hW; first | (go_simp; done) | ((repeat refine keepcell ((Below.refl _ _).alloc (Nat.le_refl _) _) ?_); go_simp; done) | (simp only [frozen?_alloc_cells]; go_simp; done)
  have kW0_14 : W0.cell? ⟨w.heap.size + 2, 1, none⟩ = some (.int .i64 (0)) := by rw [← hW]; clear hW; first | (go_simp; done) | ((repeat refine keepcell ((Below.refl _ _).alloc (Nat.le_refl _) _) ?_); go_simp; done) | (simp only [frozen?_alloc_cells]; go_simp; done)
  have zW0_14 : W0.frozen? ⟨w.heap.size + 2, 1, none⟩ = false := by rw [← hW]; clear hW; first | (go_simp; done) | ((repeat refine keepcell ((Below.refl _ _).alloc (Nat.le_refl _) _) ?_); go_simp; done) | (simp only [frozen?_alloc_cells]; go_simp; done)
  have : w.heap.size + 2 < W0.heap.size := World.block_lt_of_cell? W0 ⟨w.heap.size + 2, 0, none⟩ (by assumption)
  have kW0_15 : W0.cell? ⟨w.heap.size + 3, 0, none⟩ = some (.int .i64 (0)) := by rw [← hW]; clear hW; first | (go_simp; done) | ((repeat refine keepcell ((Below.refl _ _).alloc (Nat.le_refl _) _) ?_); go_simp; done) | (simp only [frozen?_alloc_cells]; go_simp; done)
  have zW0_15 : W0.frozen? ⟨w.heap.size + 3, 0, none⟩ = false := by rw [← hW]; clear hW; first | (go_simp; done) | ((repeat refine keepcell ((Below.refl _ _).alloc (Nat.le_refl _) _) ?_); go_simp; done) | (simp only [frozen?_alloc_cells]; go_simp; done)
  have kW0_16 : W0.cell? ⟨w.heap.size + 3, 1, none⟩ = some (.int .i64 (0)) := by rw [← hW]; clear hW; first | (go_simp; done) | ((repeat refine keepcell ((Below.refl _ _).alloc (Nat.le_refl _) _) ?_); go_simp; done) | (simp only [frozen?_alloc_cells]; go_simp; done)
  have zW0_16 : W0.frozen? ⟨w.heap.size + 3, 1, none⟩ = false := by rw [← hW]; clear hW; first | (go_simp; done) | ((repeat refine keepcell ((Below.refl _ _).alloc (Nat.le_refl _) _) ?_); go_simp; done) | (simp only [frozen?_alloc_cells]; go_simp; done)
  have : w.heap.size + 3 < W0.heap.size := World.block_lt_of_cell? W0 ⟨w.heap.size + 3, 0, none⟩ (by assumption)
  have kW0_17 : W0.cell? ⟨w.heap.size + 4, 0, none⟩ = some (.int .i64 (1)) := by rw [← hW]; clear hW; first | (go_simp; done) | ((repeat refine keepcell ((Below.refl _ _).alloc (Nat.le_refl _) _) ?_); go_simp; done) | (simp only [frozen?_alloc_cells]; go_simp; done)
  have zW0_17 : W0.frozen? ⟨w.heap.size + 4, 0, none⟩ = false := by rw [← hW]; clear hW; first | (go_simp; done) | ((repeat refine keepcell ((Below.refl _ _).alloc (Nat.le_refl _) _) ?_); go_simp; done) | (simp only [frozen?_alloc_cells]; go_simp; done)
  have kW0_18 : W0.cell? ⟨w.heap.size + 4, 1, none⟩ = some (.int .i64 (0)) := by rw [← hW]; clear hW; first | (go_simp; done) | ((repeat refine keepcell ((Below.refl _ _).alloc (Nat.le_refl _) _) ?_); go_simp; done) | (simp only [frozen?_alloc_cells]; go_simp; done)
  have zW0_18 : W0.frozen? ⟨w.heap.size + 4, 1, none⟩ = false := by rw [← hW]; clear hW; first | (go_simp; done) | ((repeat refine keepcell ((Below.refl _ _).alloc (Nat.le_refl _) _) ?_); go_simp; done) | (simp only [frozen?_alloc_cells]; go_simp; done)
  have : w.heap.size + 4 < W0.heap.size := World.block_lt_of_cell? W0 ⟨w.heap.size + 4, 0, none⟩ (by assumption)
  have hBW0 : Below w.heap.size w W0 := by rw [← hW]; (first | ((repeat' with_reducible first | assumption | exact Below.refl _ _ | apply Blw.alloc | apply Blw.drew | apply Blw.drewN | (refine Blw.after ?_ (by assumption)) | (refine Blw.set ?_ (by first | (dsimp only; omega) | (simp; omega)) _)); done) | (repeat' (first | assumption | exact Below.refl _ _ | apply Blw.alloc | apply Blw.drew | apply Blw.drewN | (refine Blw.after ?_ (by assumption)) | (refine Blw.set ?_ (by first | (dsimp only; omega) | (simp; done) | (simp; omega)) _))))
  have hsW0 := hBW0.size
  clear hW
  go_loopg [8] n (fun m i wr => TailRel x y n w m i wr)
  case atStart => exact ⟨0, by omega, rfl, hBW0, ⟨by assumption, by assumption, by assumption, by assumption⟩, ⟨by assumption, by assumption, by assumption, by assumption⟩, ⟨by assumption, by assumption, by assumption, by assumption⟩, ⟨by assumption, by assumption, by assumption, by assumption⟩, ⟨by assumption, by assumption, by assumption, by assumption⟩⟩
  case round =>
    try clear kW0_9; try clear zW0_9; try clear kW0_10; try clear zW0_10; try clear kW0_11; try clear zW0_11; try clear kW0_12; try clear zW0_12; try clear kW0_13; try clear zW0_13; try clear kW0_14; try clear zW0_14; try clear kW0_15; try clear zW0_15; try clear kW0_16; try clear zW0_16; try clear kW0_17; try clear zW0_17; try clear kW0_18; try clear zW0_18
    obtain ⟨k, hk, rfl, hBw, O0, O1, O2, O3, O4⟩ := hrel
    have L4 := O4.lt
    have L0 : w.heap.size < wr.heap.size := by omega
    have L1 : w.heap.size + 1 < wr.heap.size := by omega
    have L2 : w.heap.size + 2 < wr.heap.size := by omega
    have L3 : w.heap.size + 3 < wr.heap.size := by omega
    by_cases hlt : k < n
    · obtain ⟨⟨u1, u2⟩, u3, u4⟩ := HQ.out k
      have hb := bpw_in (n := k) (by omega)
      have hr := rn_in (x, y) k (by omega)
      have hbn : bpw (k + 1) = (-(bpw k).1 - (bpw k).2, (bpw k).1 - (bpw k).2) := by show sd (bpw k) 0 = _; simp [sd]
      have hqn : qn (k + 1) (x, y) = (nX (qn k (x, y)).1 (qn k (x, y)).2, nY (qn k (x, y)).1 (qn k (x, y)).2) := rfl
      have hld : ld (qn k (x, y)) = lastD (qn k (x, y)).1 (qn k (x, y)).2 := rfl
      rcases ld_01 (qn k (x, y)) with hd | hd
      · have hrn := rn_step0 hd
        rw [hld] at hd
        have HN := Lib.hid (And.intro hbn (And.intro hqn hrn))
        clear hbn hqn hrn hld
        generalize (qn k (x, y)).1 = X at *
        generalize (qn k (x, y)).2 = Y at *
        generalize (rn k (x, y)).1 = R at *
        generalize (rn k (x, y)).2 = I at *
        generalize (bpw k).1 = A at *
        generalize (bpw k).2 = C at *
        obtain ⟨q0, q1, f00, f01⟩ := id O0
        obtain ⟨r0, r1, f30, f31⟩ := id O3
        obtain ⟨p0, p1, f40, f41⟩ := id O4
        have HO := Lib.hid (And.intro O0 (And.intro O1 (And.intro O2 (And.intro O3 O4))))
        clear O0 O1 O2 O3 O4
        have n2 : -60000 ≤ R ∧ R ≤ 60000 ∧ -60000 ≤ I ∧ I ≤ 60000 := by omega
        have n1 : -4096 ≤ A ∧ A ≤ 4096 ∧ -4096 ≤ C ∧ C ≤ 4096 := by omega
        clear hb hr
        go_wp2_with (fail)
        refine (l2Last_c X Y _ ⟨⟨by omega, by omega⟩, ⟨by omega, by omega⟩⟩).mono ?_
        rintro e wA ⟨rfl, hbwA⟩
        have hkwA : Hld wr wA := heldM (by (first | ((repeat' with_reducible first | assumption | exact Below.refl _ _ | apply Blw.alloc | apply Blw.drew | apply Blw.drewN | (refine Blw.after ?_ (by assumption)) | (refine Blw.set ?_ (by first | (dsimp only; omega) | (simp; omega)) _)); done) | (repeat' (first | assumption | exact Below.refl _ _ | apply Blw.alloc | apply Blw.drew | apply Blw.drewN | (refine Blw.after ?_ (by assumption)) | (refine Blw.set ?_ (by first | (dsimp only; omega) | (simp; done) | (simp; omega)) _)))))
        have hlwA := hkwA.1
        have hswA := hkwA.2.2.2
        try (have : w.heap.size < wA.heap.size := by omega)
        try (have : w.heap.size + 1 < wA.heap.size := by omega)
        try (have : w.heap.size + 2 < wA.heap.size := by omega)
        try (have : w.heap.size + 3 < wA.heap.size := by omega)
        try (have : w.heap.size + 4 < wA.heap.size := by omega)
        rw [hd]
        go_wp2
        go_roundg (gk - 1)
        case measure => omega
        case rel =>
          obtain ⟨hbn, hqn, hrn⟩ := HN.out
          obtain ⟨O0, O1, O2, O3, O4⟩ := HO.out
          replace O0 := O0.below hbwA L0
          replace O1 := O1.below hbwA L1
          replace O2 := O2.below hbwA L2
          replace O3 := O3.below hbwA L3
          replace O4 := O4.below hbwA L4
          refine ⟨k + 1, by omega, by go_num, by (first | ((repeat' with_reducible first | assumption | exact Below.refl _ _ | apply Blw.alloc | apply Blw.drew | apply Blw.drewN | (refine Blw.after ?_ (by assumption)) | (refine Blw.set ?_ (by first | (dsimp only; omega) | (simp; omega)) _)); done) | (repeat' (first | assumption | exact Below.refl _ _ | apply Blw.alloc | apply Blw.drew | apply Blw.drewN | (refine Blw.after ?_ (by assumption)) | (refine Blw.set ?_ (by first | (dsimp only; omega) | (simp; done) | (simp; omega)) _)))), ?_, ?_, ?_, ?_, ?_⟩
          · rw [hqn]; dsimp only; ((try simp only [Nat.add_assoc, Nat.reduceAdd]) <;> (repeat with_reducible first | assumption | exact Own2.x (by assumption) | apply Own2X.put | (refine Own2.set ?_ (by omega)) | (refine Own2.alloc ?_ _) | (refine Own2X.set ?_ (by omega)) | (refine Own2X.alloc ?_ _)))
          · ((try simp only [Nat.add_assoc, Nat.reduceAdd]) <;> (repeat with_reducible first | assumption | exact Own2.x (by assumption) | apply Own2X.put | (refine Own2.set ?_ (by omega)) | (refine Own2.alloc ?_ _) | (refine Own2X.set ?_ (by omega)) | (refine Own2X.alloc ?_ _)))
          · ((try simp only [Nat.add_assoc, Nat.reduceAdd]) <;> (repeat with_reducible first | assumption | exact Own2.x (by assumption) | apply Own2X.put | (refine Own2.set ?_ (by omega)) | (refine Own2.alloc ?_ _) | (refine Own2X.set ?_ (by omega)) | (refine Own2X.alloc ?_ _)))
          · rw [hrn]; dsimp only; ((try simp only [Nat.add_assoc, Nat.reduceAdd]) <;> (repeat with_reducible first | assumption | exact Own2.x (by assumption) | apply Own2X.put | (refine Own2.set ?_ (by omega)) | (refine Own2.alloc ?_ _) | (refine Own2X.set ?_ (by omega)) | (refine Own2X.alloc ?_ _)))
          · rw [hbn]; dsimp only; ((try simp only [Nat.add_assoc, Nat.reduceAdd]) <;> (repeat with_reducible first | assumption | exact Own2.x (by assumption) | apply Own2X.put | (refine Own2.set ?_ (by omega)) | (refine Own2.alloc ?_ _) | (refine Own2X.set ?_ (by omega)) | (refine Own2X.alloc ?_ _)))
      · have hrn := rn_step1 hd
        rw [hld] at hd
        have HN := Lib.hid (And.intro hbn (And.intro hqn hrn))
        clear hbn hqn hrn hld
        generalize (qn k (x, y)).1 = X at *
        generalize (qn k (x, y)).2 = Y at *
        generalize (rn k (x, y)).1 = R at *
        generalize (rn k (x, y)).2 = I at *
        generalize (bpw k).1 = A at *
        generalize (bpw k).2 = C at *
        obtain ⟨q0, q1, f00, f01⟩ := id O0
        obtain ⟨r0, r1, f30, f31⟩ := id O3
        obtain ⟨p0, p1, f40, f41⟩ := id O4
        have HO := Lib.hid (And.intro O0 (And.intro O1 (And.intro O2 (And.intro O3 O4))))
        clear O0 O1 O2 O3 O4
        have n2 : -60000 ≤ R ∧ R ≤ 60000 ∧ -60000 ≤ I ∧ I ≤ 60000 := by omega
        have n1 : -4096 ≤ A ∧ A ≤ 4096 ∧ -4096 ≤ C ∧ C ≤ 4096 := by omega
        clear hb hr
        go_wp2_with (fail)
        refine (l2Last_c X Y _ ⟨⟨by omega, by omega⟩, ⟨by omega, by omega⟩⟩).mono ?_
        rintro e wA ⟨rfl, hbwA⟩
        have hkwA : Hld wr wA := heldM (by (first | ((repeat' with_reducible first | assumption | exact Below.refl _ _ | apply Blw.alloc | apply Blw.drew | apply Blw.drewN | (refine Blw.after ?_ (by assumption)) | (refine Blw.set ?_ (by first | (dsimp only; omega) | (simp; omega)) _)); done) | (repeat' (first | assumption | exact Below.refl _ _ | apply Blw.alloc | apply Blw.drew | apply Blw.drewN | (refine Blw.after ?_ (by assumption)) | (refine Blw.set ?_ (by first | (dsimp only; omega) | (simp; done) | (simp; omega)) _)))))
        have hlwA := hkwA.1
        have hswA := hkwA.2.2.2
        try (have : w.heap.size < wA.heap.size := by omega)
        try (have : w.heap.size + 1 < wA.heap.size := by omega)
        try (have : w.heap.size + 2 < wA.heap.size := by omega)
        try (have : w.heap.size + 3 < wA.heap.size := by omega)
        try (have : w.heap.size + 4 < wA.heap.size := by omega)
        rw [hd]
        go_wp2
        go_roundg (gk - 1)
        case measure => omega
        case rel =>
          obtain ⟨hbn, hqn, hrn⟩ := HN.out
          obtain ⟨O0, O1, O2, O3, O4⟩ := HO.out
          replace O0 := O0.below hbwA L0
          replace O1 := O1.below hbwA L1
          replace O2 := O2.below hbwA L2
          replace O3 := O3.below hbwA L3
          replace O4 := O4.below hbwA L4
          refine ⟨k + 1, by omega, by go_num, by (first | ((repeat' with_reducible first | assumption | exact Below.refl _ _ | apply Blw.alloc | apply Blw.drew | apply Blw.drewN | (refine Blw.after ?_ (by assumption)) | (refine Blw.set ?_ (by first | (dsimp only; omega) | (simp; omega)) _)); done) | (repeat' (first | assumption | exact Below.refl _ _ | apply Blw.alloc | apply Blw.drew | apply Blw.drewN | (refine Blw.after ?_ (by assumption)) | (refine Blw.set ?_ (by first | (dsimp only; omega) | (simp; done) | (simp; omega)) _)))), ?_, ?_, ?_, ?_, ?_⟩
          · rw [hqn]; dsimp only; ((try simp only [Nat.add_assoc, Nat.reduceAdd]) <;> (repeat with_reducible first | assumption | exact Own2.x (by assumption) | apply Own2X.put | (refine Own2.set ?_ (by omega)) | (refine Own2.alloc ?_ _) | (refine Own2X.set ?_ (by omega)) | (refine Own2X.alloc ?_ _)))
          · ((try simp only [Nat.add_assoc, Nat.reduceAdd]) <;> (repeat with_reducible first | assumption | exact Own2.x (by assumption) | apply Own2X.put | (refine Own2.set ?_ (by omega)) | (refine Own2.alloc ?_ _) | (refine Own2X.set ?_ (by omega)) | (refine Own2X.alloc ?_ _)))
          · ((try simp only [Nat.add_assoc, Nat.reduceAdd]) <;> (repeat with_reducible first | assumption | exact Own2.x (by assumption) | apply Own2X.put | (refine Own2.set ?_ (by omega)) | (refine Own2.alloc ?_ _) | (refine Own2X.set ?_ (by omega)) | (refine Own2X.alloc ?_ _)))
          · rw [hrn]; dsimp only; ((try simp only [Nat.add_assoc, Nat.reduceAdd]) <;> (repeat with_reducible first | assumption | exact Own2.x (by assumption) | apply Own2X.put | (refine Own2.set ?_ (by omega)) | (refine Own2.alloc ?_ _) | (refine Own2X.set ?_ (by omega)) | (refine Own2X.alloc ?_ _)))
          · rw [hbn]; dsimp only; ((try simp only [Nat.add_assoc, Nat.reduceAdd]) <;> (repeat with_reducible first | assumption | exact Own2.x (by assumption) | apply Own2X.put | (refine Own2.set ?_ (by omega)) | (refine Own2.alloc ?_ _) | (refine Own2X.set ?_ (by omega)) | (refine Own2X.alloc ?_ _)))
    · obtain rfl : k = n := by omega
      obtain ⟨q0, q1, f00, f01⟩ := O0
      obtain ⟨r0, r1, f30, f31⟩ := O3
      obtain ⟨a0, a1, f10, f11⟩ := O1
      obtain ⟨b0, b1, f20, f21⟩ := O2
      clear O4 HQ
      go_wp2_with fail
      refine region_slots (fun w' => w'.cell? ⟨w.heap.size + 3, 0, none⟩ = some (.int .i64 ((rn k (x, y)).1)) ∧ w'.cell? ⟨w.heap.size + 3, 1, none⟩ = some (.int .i64 ((rn k (x, y)).2))) [1] [(49, .is (pr (qn k (x, y)).1 (qn k (x, y)).2)), (50, .is (pr (rn k (x, y)).1 (rn k (x, y)).2))] (by kernel_rfl) (by kernel_rfl) (by kernel_rfl) (fun w' hH => by go_simp) (fun _ _ _ _ _ _ h => h) ?_
      simp only [Steps, List.contains_cons, List.contains_nil, Nat.reduceBEq, Nat.reduceAdd, Bool.or_false, Bool.false_or, Bool.or_true, Bool.true_or, Bool.false_eq_true, if_false, if_true]
      refine ⟨?_, ?_, ?_⟩
      · intro u w2 hH hd K hK
        simp only [setU, upd, List.map_cons, List.map_nil, List.contains_cons, List.contains_nil, Nat.reduceBEq, Nat.reduceAdd, Bool.or_false, Bool.false_or, Bool.or_true, Bool.true_or, Bool.false_eq_true, if_false, if_true, ite_true, ite_false, Nat.reduceEqDiff, beq_self_eq_true] at hK ⊢
        go_wp2_with (fail)
        exact hK _ _ (by (first | ((repeat' with_reducible first | assumption | exact Below.refl _ _ | apply Blw.alloc | apply Blw.drew | apply Blw.drewN | (refine Blw.after ?_ (by assumption)) | (refine Blw.set ?_ (by first | (dsimp only; omega) | (simp; omega)) _)); done) | (repeat' (first | assumption | exact Below.refl _ _ | apply Blw.alloc | apply Blw.drew | apply Blw.drewN | (refine Blw.after ?_ (by assumption)) | (refine Blw.set ?_ (by first | (dsimp only; omega) | (simp; done) | (simp; omega)) _))))) rfl
      · intro u w2 hH hd
        simp only [setU, upd, List.map_cons, List.map_nil, List.contains_cons, List.contains_nil, Nat.reduceBEq, Nat.reduceAdd, Bool.or_false, Bool.false_or, Bool.or_true, Bool.true_or, Bool.false_eq_true, if_false, if_true, ite_true, ite_false, Nat.reduceEqDiff, beq_self_eq_true]
        refine ⟨(pr (rn k (x, y)).1 (rn k (x, y)).2), fun w hS => ?_, by first | rfl | trivial, by first | rfl | trivial, by first | rfl | trivial⟩
        first | (go_simp; done) | (go_simp; exact IntWalk.i64_in _ (by omega))
      intro u w2 hH hF hne
      have hH1 := hH.1
      have hH2 := hH.2.2.2
      simp only [allFacts, SlotFact.h] at hF
      obtain ⟨f49, f50, -⟩ := hF
      simp only [setU, upd, List.map_cons, List.map_nil, List.contains_cons, List.contains_nil, Nat.reduceBEq, Nat.reduceAdd, Bool.or_false, Bool.false_or, Bool.or_true, Bool.true_or, Bool.false_eq_true, if_false, if_true, ite_true, ite_false, Nat.reduceEqDiff, beq_self_eq_true]
      rw [f49, f50]
      clear f49 f50 hne
      refine wpListS_step fun K hK => ?_
      go_wp2_with (fail)
      refine hK _ _ (by go_simp) ?_
      clear hK
      refine wpListS_step fun K hK => ?_
      go_wp2_with (fail)
      refine hK _ _ (by go_simp) ?_
      clear hK
      refine wpListS_nil ?_
      go_wp2_with fail
      exact bodyPost_ret (v := .tuple #[pr (qn k (x, y)).1 (qn k (x, y)).2, pr (rn k (x, y)).1 (rn k (x, y)).2]) (by simp [results, Tryd.results20, go_sem, *]) rfl ⟨rfl, by (first | ((repeat' with_reducible first | assumption | exact Below.refl _ _ | apply Blw.alloc | apply Blw.drew | apply Blw.drewN | (refine Blw.after ?_ (by assumption)) | (refine Blw.set ?_ (by first | (dsimp only; omega) | (simp; omega)) _)); done) | (repeat' (first | assumption | exact Below.refl _ _ | apply Blw.alloc | apply Blw.drew | apply Blw.drewN | (refine Blw.after ?_ (by assumption)) | (refine Blw.set ?_ (by first | (dsimp only; omega) | (simp; done) | (simp; omega)) _))))⟩
end Go.Proofs.YtjjpjjoadphapaaDoor

namespace Go.Proofs.YtjjpjjoadphapaaDoor
set_option linter.unusedSimpArgs false
set_option linter.unusedVariables false
open Go.RowKit

/-- the level is in its range, and the number small -/
def okT (a x y : Int) : Bool := inR 0 12 a && inB 1000000 x y
def spV (a x y : Int) : Value := .tuple #[pr (sel (okT a x y) (qn a.toNat (x, y)).1) (sel (okT a x y) (qn a.toNat (x, y)).2), pr (sel (okT a x y) (rn a.toNat (x, y)).1) (sel (okT a x y) (rn a.toNat (x, y)).2), .bool (okT a x y)]
def hasT (a x y : Int) : Bool := okT a x y && decide (qn a.toNat (x, y) = (0, 0))
theorem spV_yes {a x y : Int} (h : okT a x y = true) : spV a x y = .tuple #[pr (qn a.toNat (x, y)).1 (qn a.toNat (x, y)).2, pr (rn a.toNat (x, y)).1 (rn a.toNat (x, y)).2, .bool true] := by
  unfold spV; rw [h]; rfl
theorem spV_no {a x y : Int} (h : okT a x y = false) : spV a x y = .tuple #[pr 0 0, pr 0 0, .bool false] := by
  unfold spV; rw [h]; rfl
theorem inR_le {l u n : Int} (h : inR l u n = true) : l ≤ n ∧ n ≤ u := by
  simp only [inR, Bool.and_eq_true, decide_eq_true_eq] at h; exact h
theorem okT_of {a x y : Int} (h : okT a x y = true) : inR 0 12 a = true ∧ inB 1000000 x y = true := by
  simpa [okT] using h
theorem qn_small {a x y : Int} (h : okT a x y = true) : inB 1000000 (qn a.toNat (x, y)).1 (qn a.toNat (x, y)).2 = true := by
  have h1 := inB_le (okT_of h).2
  obtain ⟨⟨u1, u2⟩, u3, u4⟩ := qn_in (k := 1000000) (z := (x, y)) ⟨h1.1, h1.2.1⟩ h1.2.2 a.toNat
  simp only [inB, inR, Bool.and_eq_true, decide_eq_true_eq]; omega
end Go.Proofs.YtjjpjjoadphapaaDoor

namespace Go.Proofs.YtjjpjjoadphapaaDoor
set_option linter.unusedSimpArgs false
set_option linter.unusedVariables false
open Go.RowKit

def InZ (B : Int) (z : ZZ) : Prop := (-B ≤ z.1 ∧ z.1 ≤ B) ∧ (-B ≤ z.2 ∧ z.2 ≤ B)
theorem two_in {B C : Int} (hC : B + 1 ≤ 2 * C + 1) {z : ZZ} (h : InZ B z) : InZ C (nx (nx z)) := by
  obtain ⟨x, y⟩ := z
  obtain ⟨⟨a, b⟩, c, d⟩ := h
  have h1 := two_nX x y
  have h2 := two_nY x y
  have e := lastD_01 x y
  have h3 := two_nX (nX x y) (nY x y)
  have h4 := two_nY (nX x y) (nY x y)
  have e2 := lastD_01 (nX x y) (nY x y)
  show InZ C (nX (nX x y) (nY x y), nY (nX x y) (nY x y))
  unfold InZ
  dsimp only at a b c d ⊢
  omega
def halfs : Nat → Int → Int
  | 0, B => B
  | n + 1, B => halfs n ((B + 1) / 2)
theorem halfs_in : ∀ (k : Nat) (B : Int) (z : ZZ), InZ B z → InZ (halfs k B) (qn (2 * k) z) := by
  intro k
  induction k with
  | zero => intro B z h; exact h
  | succ k ih =>
    intro B z h
    have := ih ((B + 1) / 2) (nx (nx z)) (two_in (by omega) h)
    rw [qn_nx, qn_nx] at this
    exact this
theorem nine : ∀ a ∈ [-1, 0, 1], ∀ b ∈ [-1, 0, 1], qn 6 (a, b) = (0, 0) := by decide +kernel
theorem qn_add (m : Nat) (z : ZZ) : ∀ n, qn (n + m) z = qn n (qn m z) := by
  intro n
  induction n with
  | zero => rw [Nat.zero_add]; rfl
  | succ n ih => rw [Nat.add_right_comm]; show nx (qn (n + m) z) = nx (qn n (qn m z)); rw [ih]
theorem small_46 {x y : Int} (h : inB 1000000 x y = true) : qn 46 (x, y) = (0, 0) := by
  have h1 := inB_le h
  have h2 := halfs_in 20 1000000 (x, y) ⟨⟨h1.1, h1.2.1⟩, h1.2.2⟩
  rw [show halfs 20 1000000 = 1 by decide] at h2
  rw [show (46 : Nat) = 6 + 2 * 20 from rfl, qn_add]
  generalize qn (2 * 20) (x, y) = z at *
  obtain ⟨a, b⟩ := z
  obtain ⟨⟨a1, a2⟩, b1, b2⟩ := h2
  dsimp only at a1 a2 b1 b2
  exact nine a (by have : a = -1 ∨ a = 0 ∨ a = 1 := by omega
                   simpa using this) b (by have : b = -1 ∨ b = 0 ∨ b = 1 := by omega
                                           simpa using this)
theorem dgz_head : ∀ (n : Nat) (z : ZZ), ms z.1 z.2 = n → z ≠ (0, 0) → (dgz z).reverse.head? = some 49 := by
  intro n
  induction n using Nat.strongRecOn with
  | ind n ih =>
    intro z hn hz
    have hl := ms_less (x := z.1) (y := z.2) (fun h => hz (Prod.ext h.1 h.2))
    rw [dgz_step hz, List.reverse_cons]
    by_cases h0 : nx z = (0, 0)
    · have e := sd_nx z
      rw [h0] at e
      rw [h0, dgz_zero]
      rcases ld_01 z with hd | hd
      · rw [hd, sd_zero] at e; exact absurd e.symm hz
      · rw [hd]; rfl
    · have := ih _ (by rw [← hn]; exact hl) (nx z) rfl h0
      rw [List.head?_append, this]; rfl
/-- the digits of a number, from the first one on -/
def txL (x y : Int) : List UInt8 := (dgs1 x y).reverse
def txB (x y : Int) : ByteArray := bs (txL x y)
theorem txL_eq (x y : Int) : txL x y = if (x, y) = ((0, 0) : ZZ) then [48] else (dgz (x, y)).reverse := by
  unfold txL dgs1
  by_cases h : x = 0 ∧ y = 0
  · rw [if_pos h, if_pos (Prod.ext h.1 h.2)]; rfl
  · rw [if_neg h, if_neg (fun e => h ⟨congrArg Prod.fst e, congrArg Prod.snd e⟩)]; rfl
theorem txL_bits (x y : Int) : ∀ c ∈ txL x y, bitC c = true := by
  rw [txL_eq]
  split
  · intro c hc; simp at hc; subst hc; rfl
  · intro c hc; exact dgs_bits x y c (show c ∈ dgz (x, y) by simpa using hc)
theorem txL_len {x y : Int} (h : inB 1000000 x y = true) : (txL x y).length ≤ 46 := by
  rw [txL_eq]
  split
  · simp
  · rw [List.length_reverse]; exact (dgz_len 46 (x, y)).2 (small_46 h)
theorem txL_head (x y : Int) : txL x y = [48] ∨ (txL x y).head? = some 49 := by
  rw [txL_eq]
  split
  · left; rfl
  · right; rename_i h; exact dgz_head _ _ rfl h
theorem txL_ne (x y : Int) : txL x y ≠ [] := by
  rcases txL_head x y with h | h <;> intro e <;> rw [e] at h <;> cases h
theorem txL_vld {x y : Int} (h : inB 1000000 x y = true) : vldL (txL x y) = true := by
  rw [vldL_iff]
  have h1 := txL_len h
  refine ⟨List.length_pos_iff.2 (txL_ne x y), by omega, ?_, txL_bits x y⟩
  rcases txL_head x y with h | h
  · left; exact h
  · right; rw [h]; decide
theorem ofV_tx {x y : Int} (h : inB 1000000 x y = true) : ofV x y = .tuple #[.string (txB x y), .bool true] := by
  unfold ofV
  rw [h, if_pos rfl]
  refine resD_t ?_ ?_
  · show strip (txL x y) = toL (bs (txL x y))
    rw [toL_bs]
    rcases txL_head x y with h | h
    · rw [h]; rfl
    · exact strip_keep (by rw [← List.head?_eq_getElem?, h]; decide)
  · show vldL (toL (bs (txL x y))) = true
    rw [toL_bs]; exact txL_vld h
theorem split_val (x y : Int) (n : Nat) : valF ((txL x y).take ((txL x y).length - n)) = qn n (x, y) ∧ valF ((txL x y).drop ((txL x y).length - n)) = rn n (x, y) := by
  rw [txL_eq]
  split
  · rename_i h
    rw [h, qn_zero, rn_zero]
    cases n with
    | zero => decide
    | succ n => rw [show ([48] : List UInt8).length - (n + 1) = 0 by simp]; decide
  · rw [List.length_reverse, ← List.reverse_drop, ← List.reverse_take]
    exact ⟨val_drop n _, val_take n _⟩
end Go.Proofs.YtjjpjjoadphapaaDoor

namespace Go.Proofs.YtjjpjjoadphapaaDoor
set_option linter.unusedSimpArgs false
set_option linter.unusedVariables false
open Go.RowKit

theorem valX_step {s : ByteArray} {k : Nat} (hk : k < s.size) : valX ((toL s).take (k + 1)) = -valX ((toL s).take k) - valY ((toL s).take k) + ((s[k].toNat : Int) - 48) := by
  rw [take_snocB s k hk, valX_snoc]; rfl
theorem valY_step {s : ByteArray} {k : Nat} (hk : k < s.size) : valY ((toL s).take (k + 1)) = valX ((toL s).take k) - valY ((toL s).take k) := by
  rw [take_snocB s k hk, valY_snoc]
theorem val_at {s : ByteArray} (h : vldB s = true) (k : Nat) : (-1125899906842624 ≤ valX ((toL s).take k) ∧ valX ((toL s).take k) ≤ 1125899906842624) ∧ (-1125899906842624 ≤ valY ((toL s).take k) ∧ valY ((toL s).take k) ≤ 1125899906842624) :=
  val_in (take_bits h k) (Nat.le_trans (List.length_take_le' _ _) (by rw [toL_len]; exact (vldB_len h).2))
def valB (s : ByteArray) : Bool := vldB s && inB 1000000 (valX (toL s)) (valY (toL s))
abbrev valV (s : ByteArray) : Value := res2 (valB s) (valX (toL s)) (valY (toL s))
theorem valV_no {s : ByteArray} (h : vldB s = false) : valV s = .tuple #[pr 0 0, .bool false] := by
  have : valB s = false := by unfold valB; rw [h]; rfl
  unfold valV; rw [this]; rfl
theorem valV_yes {s : ByteArray} (h : vldB s = true) : valV s = res2 (inB 1000000 (valX (toL s)) (valY (toL s))) (valX (toL s)) (valY (toL s)) := by
  have : valB s = inB 1000000 (valX (toL s)) (valY (toL s)) := by unfold valB; rw [h]; rfl
  unfold valV; rw [this]

/-- the model's number in its block -/
def ValRel (s : ByteArray) (w : World) (rb zb : Nat) (m : Nat) (i : Value) (wr : World) : Prop :=
  ∃ k : Nat, k + m = s.size ∧ i = .int .i64 k ∧ Below w.heap.size w wr ∧ wr.cell? ⟨zb, 0, none⟩ = some (.int .i64 (valX ((toL s).take k))) ∧ wr.cell? ⟨zb, 1, none⟩ = some (.int .i64 (valY ((toL s).take k))) ∧
    wr.frozen? ⟨zb, 0, none⟩ = false ∧ wr.frozen? ⟨zb, 1, none⟩ = false ∧ wr.cell? ⟨rb, 0, none⟩ = some (.int .i64 0) ∧ wr.cell? ⟨rb, 1, none⟩ = some (.int .i64 0) ∧ wr.frozen? ⟨rb, 0, none⟩ = false ∧ wr.frozen? ⟨rb, 1, none⟩ = false
/-! ### the program's side -/
theorem plusW_c (x y x' y' : Int) (w : World) (h : -9007199254740992 ≤ x ∧ x ≤ 9007199254740992 ∧ -9007199254740992 ≤ y ∧ y ≤ 9007199254740992) (h' : -9007199254740992 ≤ x' ∧ x' ≤ 9007199254740992 ∧ -9007199254740992 ≤ y' ∧ y' ≤ 9007199254740992) : Calls Tryd.prog 43 #[pr x y, pr x' y'] w fun e w' => e = .returned (pr (x + x') (y + y')) ∧ Below w.heap.size w w' := by
  obtain ⟨h1, h2, h3, h4⟩ := h
  obtain ⟨h1', h2', h3', h4'⟩ := h'
  go_enter Tryd.func43, Tryd.ntmps43
  go_wp2
  exact bodyPost_ret (v := pr (x + x') (y + y')) (by simp [results, Tryd.results43, go_sem]) rfl ⟨rfl, by (first | ((repeat' with_reducible first | assumption | exact Below.refl _ _ | apply Blw.alloc | apply Blw.drew | apply Blw.drewN | (refine Blw.after ?_ (by assumption)) | (refine Blw.set ?_ (by first | (dsimp only; omega) | (simp; omega)) _)); done) | (repeat' (first | assumption | exact Below.refl _ _ | apply Blw.alloc | apply Blw.drew | apply Blw.drewN | (refine Blw.after ?_ (by assumption)) | (refine Blw.set ?_ (by first | (dsimp only; omega) | (simp; done) | (simp; omega)) _))))⟩
theorem timesBase_c (x y : Int) (w : World) (h : -1125899906842624 ≤ x ∧ x ≤ 1125899906842624) (h' : -1125899906842624 ≤ y ∧ y ≤ 1125899906842624) : Calls Tryd.prog 42 #[pr x y, pr (-1) 1] w fun e w' => e = .returned (pr (-x - y) (x - y)) ∧ Below w.heap.size w w' := by
  obtain ⟨h1, h2⟩ := h
  obtain ⟨h3, h4⟩ := h'
  have e1 : x * -1 = -x := by omega
  have e2 : y * -1 = -y := by omega
  have HE := Lib.hid (show -x + -y = -x - y by omega)
  go_enter Tryd.func42, Tryd.ntmps42
  go_wp2
  exact bodyPost_ret (v := pr (-x - y) (x - y)) (by simp [results, Tryd.results42, go_sem]; omega) rfl ⟨rfl, by (first | ((repeat' with_reducible first | assumption | exact Below.refl _ _ | apply Blw.alloc | apply Blw.drew | apply Blw.drewN | (refine Blw.after ?_ (by assumption)) | (refine Blw.set ?_ (by first | (dsimp only; omega) | (simp; omega)) _)); done) | (repeat' (first | assumption | exact Below.refl _ _ | apply Blw.alloc | apply Blw.drew | apply Blw.drewN | (refine Blw.after ?_ (by assumption)) | (refine Blw.set ?_ (by first | (dsimp only; omega) | (simp; done) | (simp; omega)) _))))⟩

def ValRelR (s : ByteArray) (w : World) (rb zb ib : Nat) (m : Nat) (wr : World) : Prop :=
  ∃ k : Nat, k + m = s.size ∧ wr.heap[ib]? = some (.stringIter s k) ∧ Below w.heap.size w wr ∧ wr.cell? ⟨zb, 0, none⟩ = some (.int .i64 (valX ((toL s).take k))) ∧ wr.cell? ⟨zb, 1, none⟩ = some (.int .i64 (valY ((toL s).take k))) ∧
    wr.frozen? ⟨zb, 0, none⟩ = false ∧ wr.frozen? ⟨zb, 1, none⟩ = false ∧ wr.cell? ⟨rb, 0, none⟩ = some (.int .i64 0) ∧ wr.cell? ⟨rb, 1, none⟩ = some (.int .i64 0) ∧ wr.frozen? ⟨rb, 0, none⟩ = false ∧ wr.frozen? ⟨rb, 1, none⟩ = false
theorem val_atB {s : ByteArray} (h : ∀ c ∈ toL s, bitC c = true) (hl : s.size ≤ 50) (k : Nat) : (-1125899906842624 ≤ valX ((toL s).take k) ∧ valX ((toL s).take k) ≤ 1125899906842624) ∧ (-1125899906842624 ≤ valY ((toL s).take k) ∧ valY ((toL s).take k) ≤ 1125899906842624) :=
  val_in (fun c hc => h c (List.mem_of_mem_take hc)) (Nat.le_trans (List.length_take_le' _ _) (by rw [toL_len]; exact hl))
theorem bit_at {s : ByteArray} (h : ∀ c ∈ toL s, bitC c = true) (k : Nat) (hk : k < s.size) : s[k].toNat = 48 ∨ s[k].toNat = 49 :=
  (bitC_iff _).1 (h _ (List.mem_of_getElem? (toL_get s k hk)))
theorem byte_atB {s : ByteArray} (h : ∀ c ∈ toL s, bitC c = true) (k : Nat) (hk : k < s.size) : 48 ≤ (s[k].toNat : Int) ∧ (s[k].toNat : Int) ≤ 49 := by
  have := bit_at h k hk; omega
theorem decode_bit {s : ByteArray} (h : ∀ c ∈ toL s, bitC c = true) (k : Nat) (hk : k < s.size) : Utf8.decode s k = (s[k].toNat, 1) :=
  decode_ascii s k hk (by have := bit_at h k hk; omega)
set_option maxRecDepth 100000 in
set_option maxHeartbeats 2000000 in
theorem digitsPair_c (s : ByteArray) (w : World) (hb0 : ∀ c ∈ toL s, bitC c = true) (hl0 : s.size ≤ 50) : Calls Tryd.prog 25 #[.string s] w fun e w' => e = .returned (pr (valX (toL s)) (valY (toL s))) ∧ Below w.heap.size w w' := by
  have HV := Lib.hid hb0
  clear hb0
  go_enter Tryd.func25, Tryd.ntmps25
  go_wp2_with fail
  generalize hW : World.alloc (World.alloc w _) _ = A
  have kA_19 : A.cell? ⟨w.heap.size, 0, none⟩ = some (.int .i64 (0)) := by rw [← hW]; clear hW; first | (go_simp; done) | ((repeat refine keepcell ((Below.refl _ _).alloc (Nat.le_refl _) _) ?_); go_simp; done) | (simp only [frozen?_alloc_cells]; go_simp; done)
  have zA_19 : A.frozen? ⟨w.heap.size, 0, none⟩ = false := by rw [← hW]; clear hW; first | (go_simp; done) | ((repeat refine keepcell ((Below.refl _ _).alloc (Nat.le_refl _) _) ?_); go_simp; done) | (simp only [frozen?_alloc_cells]; go_simp; done)
  have kA_20 : A.cell? ⟨w.heap.size, 1, none⟩ = some (.int .i64 (0)) := by rw [← hW]; clear hW; first | (go_simp; done) | ((repeat refine keepcell ((Below.refl _ _).alloc (Nat.le_refl _) _) ?_); go_simp; done) | (simp only [frozen?_alloc_cells]; go_simp; done)
  have zA_20 : A.frozen? ⟨w.heap.size, 1, none⟩ = false := by rw [← hW]; clear hW; first | (go_simp; done) | ((repeat refine keepcell ((Below.refl _ _).alloc (Nat.le_refl _) _) ?_); go_simp; done) | (simp only [frozen?_alloc_cells]; go_simp; done)
  have : w.heap.size < A.heap.size := World.block_lt_of_cell? A ⟨w.heap.size, 0, none⟩ (by assumption)
  have kA_21 : A.cell? ⟨w.heap.size + 1, 0, none⟩ = some (.int .i64 (0)) := by rw [← hW]; clear hW; first | (go_simp; done) | ((repeat refine keepcell ((Below.refl _ _).alloc (Nat.le_refl _) _) ?_); go_simp; done) | (simp only [frozen?_alloc_cells]; go_simp; done)
  have zA_21 : A.frozen? ⟨w.heap.size + 1, 0, none⟩ = false := by rw [← hW]; clear hW; first | (go_simp; done) | ((repeat refine keepcell ((Below.refl _ _).alloc (Nat.le_refl _) _) ?_); go_simp; done) | (simp only [frozen?_alloc_cells]; go_simp; done)
  have kA_22 : A.cell? ⟨w.heap.size + 1, 1, none⟩ = some (.int .i64 (0)) := by rw [← hW]; clear hW; first | (go_simp; done) | ((repeat refine keepcell ((Below.refl _ _).alloc (Nat.le_refl _) _) ?_); go_simp; done) | (simp only [frozen?_alloc_cells]; go_simp; done)
  have zA_22 : A.frozen? ⟨w.heap.size + 1, 1, none⟩ = false := by rw [← hW]; clear hW; first | (go_simp; done) | ((repeat refine keepcell ((Below.refl _ _).alloc (Nat.le_refl _) _) ?_); go_simp; done) | (simp only [frozen?_alloc_cells]; go_simp; done)
  have : w.heap.size + 1 < A.heap.size := World.block_lt_of_cell? A ⟨w.heap.size + 1, 0, none⟩ (by assumption)
  have hBA : Below w.heap.size w A := by rw [← hW]; (first | ((repeat' with_reducible first | assumption | exact Below.refl _ _ | apply Blw.alloc | apply Blw.drew | apply Blw.drewN | (refine Blw.after ?_ (by assumption)) | (refine Blw.set ?_ (by first | (dsimp only; omega) | (simp; omega)) _)); done) | (repeat' (first | assumption | exact Below.refl _ _ | apply Blw.alloc | apply Blw.drew | apply Blw.drewN | (refine Blw.after ?_ (by assumption)) | (refine Blw.set ?_ (by first | (dsimp only; omega) | (simp; done) | (simp; omega)) _))))
  have hsA := hBA.size
  have hzA : A.heap.size = w.heap.size + 1 + 1 := by rw [← hW]; first | exact alloc_size _ _ | (rw [alloc_size, alloc_size])
  clear hW
  try clear hbwA; try clear hkwA; try clear hlwA; try clear hbwA; try clear hkwA; try clear hlwA; try clear hH; try clear hH1
  have S0 : ValRelR s w w.heap.size (w.heap.size + 1) (w.heap.size + 1 + 1) s.size (A.iter s 0) :=
    ⟨0, by omega, by rw [← hzA]; exact World.iter_heap A s 0, hBA.trans ((iter_below A s 0).mono (by omega)), by rw [List.take_zero, valX_nil]; exact iter_cell A s 0 (by assumption), by rw [List.take_zero, valY_nil]; exact iter_cell A s 0 (by assumption),
      (iter_froz A s 0 (by omega)).trans (by assumption), (iter_froz A s 0 (by omega)).trans (by assumption), iter_cell A s 0 (by assumption), iter_cell A s 0 (by assumption), (iter_froz A s 0 (by omega)).trans (by assumption), (iter_froz A s 0 (by omega)).trans (by assumption)⟩
  have HS0 := Lib.hid S0
  clear S0 hBA
  try clear kA_19; try clear zA_19; try clear kA_20; try clear zA_20; try clear kA_21; try clear zA_21; try clear kA_22; try clear zA_22
  go_loopg [5] s.size (fun m v wr => ValRelR s w w.heap.size (w.heap.size + 1) (w.heap.size + 1 + 1) m wr)
  case atStart => exact HS0.out
  case round =>
    clear HS0
    obtain ⟨k, hk, hit, hBw, z0, z1, f0, f1, r0, r1, g0, g1⟩ := hrel
    have L1 := iter_lt hit
    by_cases hlt : k < s.size
    · have hnx : ∀ ty, (Instr.next (.pointer (some ⟨w.heap.size + 1 + 1, 0, none⟩)) true ty).run Tryd.prog wr = _ := fun ty => Lib.run_next_any_at wr (w.heap.size + 1 + 1) s k ty hit hlt
      rw [decode_bit HV.out k hlt] at hnx
      have hit2 := Lib.iterAt_heap wr (w.heap.size + 1 + 1) s k (k + 1) hit
      have hB2 := Lib.below_iterAt hBw (k := w.heap.size + 1 + 1) (by omega) s (k + 1)
      have y0 := (iterAt_cell wr (w.heap.size + 1 + 1) s (k + 1) (b := w.heap.size + 1) (o := 0) (by omega)).trans z0
      have y1 := (iterAt_cell wr (w.heap.size + 1 + 1) s (k + 1) (b := w.heap.size + 1) (o := 1) (by omega)).trans z1
      have e0 := (iterAt_froz wr (w.heap.size + 1 + 1) s (k + 1) (b := w.heap.size + 1) (o := 0) (by omega)).trans f0
      have e1 := (iterAt_froz wr (w.heap.size + 1 + 1) s (k + 1) (b := w.heap.size + 1) (o := 1) (by omega)).trans f1
      have q0 := (iterAt_cell wr (w.heap.size + 1 + 1) s (k + 1) (b := w.heap.size) (o := 0) (by omega)).trans r0
      have q1 := (iterAt_cell wr (w.heap.size + 1 + 1) s (k + 1) (b := w.heap.size) (o := 1) (by omega)).trans r1
      have d0 := (iterAt_froz wr (w.heap.size + 1 + 1) s (k + 1) (b := w.heap.size) (o := 0) (by omega)).trans g0
      have d1 := (iterAt_froz wr (w.heap.size + 1 + 1) s (k + 1) (b := w.heap.size) (o := 1) (by omega)).trans g1
      generalize wr.iterAt (w.heap.size + 1 + 1) s (k + 1) = W2 at *
      have L2 := iter_lt hit2
      have L3 : w.heap.size + 1 < W2.heap.size := by omega
      have L4 : w.heap.size < W2.heap.size := by omega
      clear hit z0 z1 f0 f1 r0 r1 g0 g1 hBw
      obtain ⟨b1, b2⟩ := byte_atB HV.out k hlt
      obtain ⟨⟨c1, c2⟩, c3, c4⟩ := val_atB HV.out hl0 k
      have HX := Lib.hid (valX_step (s := s) hlt)
      have HY := Lib.hid (valY_step (s := s) hlt)
      generalize hX : valX (List.take k (toL s)) = X at *
      generalize hY : valY (List.take k (toL s)) = Y at *
      clear hX hY
      have HI := Lib.hid hit2
      clear hit2
      go_wp2_with (first | (go_at_call 42; refine (timesBase_c X Y _ ⟨c1, c2⟩ ⟨c3, c4⟩).mono ?_; rintro e w1 ⟨rfl, hb⟩; have hk : Hld W2 w1 := heldM (by (first | ((repeat' with_reducible first | assumption | exact Below.refl _ _ | apply Blw.alloc | apply Blw.drew | apply Blw.drewN | (refine Blw.after ?_ (by assumption)) | (refine Blw.set ?_ (by first | (dsimp only; omega) | (simp; omega)) _)); done) | (repeat' (first | assumption | exact Below.refl _ _ | apply Blw.alloc | apply Blw.drew | apply Blw.drewN | (refine Blw.after ?_ (by assumption)) | (refine Blw.set ?_ (by first | (dsimp only; omega) | (simp; done) | (simp; omega)) _))))); have hk1 := hk.1) | (go_at_call 43; refine (plusW_c (-X - Y) (X - Y) ((s[k].toNat : Int) - 48) 0 _ (by omega) (by omega)).mono ?_; rintro e w1 ⟨rfl, hb⟩; have hk : Hld W2 w1 := heldM (by (first | ((repeat' with_reducible first | assumption | exact Below.refl _ _ | apply Blw.alloc | apply Blw.drew | apply Blw.drewN | (refine Blw.after ?_ (by assumption)) | (refine Blw.set ?_ (by first | (dsimp only; omega) | (simp; omega)) _)); done) | (repeat' (first | assumption | exact Below.refl _ _ | apply Blw.alloc | apply Blw.drew | apply Blw.drewN | (refine Blw.after ?_ (by assumption)) | (refine Blw.set ?_ (by first | (dsimp only; omega) | (simp; done) | (simp; omega)) _))))); have hk1 := hk.1))
      go_roundg (gk - 1)
      case measure => omega
      case rel => exact ⟨k + 1, by omega, iter_set (iter_set (iter_of_below (by assumption) HI.out) (by dsimp only; omega) _) (by dsimp only; omega) _, by (first | ((repeat' with_reducible first | assumption | exact Below.refl _ _ | apply Blw.alloc | apply Blw.drew | apply Blw.drewN | (refine Blw.after ?_ (by assumption)) | (refine Blw.set ?_ (by first | (dsimp only; omega) | (simp; omega)) _)); done) | (repeat' (first | assumption | exact Below.refl _ _ | apply Blw.alloc | apply Blw.drew | apply Blw.drewN | (refine Blw.after ?_ (by assumption)) | (refine Blw.set ?_ (by first | (dsimp only; omega) | (simp; done) | (simp; omega)) _)))), by rw [HX.out]; go_simp, by rw [HY.out]; go_simp, by go_simp, by go_simp, by go_simp, by go_simp, by go_simp, by go_simp⟩
    · have hnx : ∀ ty, (Instr.next (.pointer (some ⟨w.heap.size + 1 + 1, 0, none⟩)) true ty).run Tryd.prog wr = _ := fun ty => Lib.run_next_end_at wr (w.heap.size + 1 + 1) s k ty hit hlt
      have HS := Lib.hid (take_allB s k (by omega))
      have L3 : w.heap.size + 1 < wr.heap.size := by omega
      have L4 : w.heap.size < wr.heap.size := by omega
      rw [HS.out] at z0 z1
      go_wp2
      exact bodyPost_ret (v := pr (valX (toL s)) (valY (toL s))) (by simp [results, Tryd.results25, go_sem, *]) rfl ⟨rfl, by (first | ((repeat' with_reducible first | assumption | exact Below.refl _ _ | apply Blw.alloc | apply Blw.drew | apply Blw.drewN | (refine Blw.after ?_ (by assumption)) | (refine Blw.set ?_ (by first | (dsimp only; omega) | (simp; omega)) _)); done) | (repeat' (first | assumption | exact Below.refl _ _ | apply Blw.alloc | apply Blw.drew | apply Blw.drewN | (refine Blw.after ?_ (by assumption)) | (refine Blw.set ?_ (by first | (dsimp only; omega) | (simp; done) | (simp; omega)) _))))⟩
end Go.Proofs.YtjjpjjoadphapaaDoor

namespace Go.Proofs.YtjjpjjoadphapaaDoor
set_option linter.unusedSimpArgs false
set_option linter.unusedVariables false
open Go.RowKit

theorem toL_drop (s : ByteArray) (k : Nat) : s.extract k s.size = bs ((toL s).drop k) := by
  apply toL_ext
  rw [toL_bs]
  show (s.extract k s.size).data.toList = _
  rw [ByteArray.data_extract, Array.toList_extract]
  show ((toL s).drop k).take (s.size - k) = _
  exact List.take_of_length_le (by rw [List.length_drop, toL_len]; exact Nat.le_refl _)
theorem pair_of {s : ByteArray} {z : ZZ} (hb : ∀ c ∈ toL s, bitC c = true) (hl : s.size ≤ 50) (hv : valF (toL s) = z) (w : World) : Calls Tryd.prog 25 #[.string s] w fun e w' => e = .returned (pr z.1 z.2) ∧ Below w.heap.size w w' := by
  have e1 : valX (toL s) = z.1 := by rw [← hv]; rfl
  have e2 : valY (toL s) = z.2 := by rw [← hv]; rfl
  rw [← e1, ← e2]
  exact digitsPair_c s w hb hl
set_option maxRecDepth 100000 in
set_option maxHeartbeats 4000000 in
theorem iTileSplit_c (a x y : Int) (w : World) : Calls Tryd.prog 13 #[.int .i64 a, pr x y] w fun e w' => e = .returned (spV a x y) ∧ Below w.heap.size w w' := by
  rcases Bool.eq_false_or_eq_true (inB 1000000 x y) with h2 | h2
  · have HD := Lib.hid (fun w => iDigitsOf_c x y w)
    rw [ofV_tx h2] at HD
    rcases Bool.eq_false_or_eq_true (inR 0 12 a) with h1 | h1
    · have hk : okT a x y = true := by unfold okT; rw [h1, h2]; rfl
      have HV := Lib.hid (spV_yes hk)
      have hq := qn_small hk
      have H1 := inR_le h1
      obtain ⟨n, rfl⟩ : ∃ n : Nat, a = (n : Int) := ⟨a.toNat, by omega⟩
      rw [Int.toNat_natCast] at HV hq
      obtain ⟨v1, v2⟩ := split_val x y n
      have hlen := txL_len h2
      have hbit := txL_bits x y
      have hsz : (txB x y).size = (txL x y).length := bs_sz _
      have htl : toL (txB x y) = txL x y := toL_bs _
      rw [← hsz] at v1 v2 hlen
      have HP := Lib.hid (fun w => pair_of (s := (txB x y).extract 0 ((txB x y).size - n)) (z := qn n (x, y)) (by rw [toL_take, toL_bs, htl]; exact fun c hc => hbit c (List.mem_of_mem_take hc)) (by rw [toL_take, bs_sz, List.length_take, htl, ← hsz]; omega) (by rw [toL_take, toL_bs, htl]; exact v1) w)
      have HR := Lib.hid (fun w => pair_of (s := (txB x y).extract ((txB x y).size - n) (txB x y).size) (z := rn n (x, y)) (by rw [toL_drop, toL_bs, htl]; exact fun c hc => hbit c (List.mem_of_mem_drop hc)) (by rw [toL_drop, bs_sz, List.length_drop, htl, ← hsz]; omega) (by rw [toL_drop, toL_bs, htl]; exact v2) w)
      have HI := Lib.hid (fun w => show Calls Tryd.prog 28 #[pr (qn n (x, y)).1 (qn n (x, y)).2] w fun e w' => e = .returned (.tuple #[pr (qn n (x, y)).1 (qn n (x, y)).2, .bool true]) ∧ Below w.heap.size w w' by
        have h := ifSmall_c (qn n (x, y)).1 (qn n (x, y)).2 w
        rw [hq] at h
        exact h)
      clear v1 v2 hbit hsz htl h2 hk h1 hq
      generalize txB x y = s at *
      have em : max (0 : Int) ((s.size : Int) - (n : Int)) = ((s.size - n : Nat) : Int) := by omega
      have hk2 : s.size - n ≤ s.size := by omega
      generalize hK : s.size - n = k at *
      go_enter Tryd.func13, Tryd.ntmps13
      go_wp2_with fail
      generalize hW : World.alloc _ _ = W0
      have kW0_23 : W0.cell? ⟨w.heap.size, 0, none⟩ = some (.int .i64 (x)) := by rw [← hW]; clear hW; first | (go_simp; done) | ((repeat refine keepcell ((Below.refl _ _).alloc (Nat.le_refl _) _) ?_); go_simp; done) | (simp only [frozen?_alloc_cells]; go_simp; done)
      have kW0_24 : W0.cell? ⟨w.heap.size, 1, none⟩ = some (.int .i64 (y)) := by rw [← hW]; clear hW; first | (go_simp; done) | ((repeat refine keepcell ((Below.refl _ _).alloc (Nat.le_refl _) _) ?_); go_simp; done) | (simp only [frozen?_alloc_cells]; go_simp; done)
      have : w.heap.size < W0.heap.size := World.block_lt_of_cell? W0 ⟨w.heap.size, 0, none⟩ (by assumption)
      have kW0_25 : W0.cell? ⟨w.heap.size + 1, 0, none⟩ = some (.int .i64 (0)) := by rw [← hW]; clear hW; first | (go_simp; done) | ((repeat refine keepcell ((Below.refl _ _).alloc (Nat.le_refl _) _) ?_); go_simp; done) | (simp only [frozen?_alloc_cells]; go_simp; done)
      have zW0_25 : W0.frozen? ⟨w.heap.size + 1, 0, none⟩ = false := by rw [← hW]; clear hW; first | (go_simp; done) | ((repeat refine keepcell ((Below.refl _ _).alloc (Nat.le_refl _) _) ?_); go_simp; done) | (simp only [frozen?_alloc_cells]; go_simp; done)
      have kW0_26 : W0.cell? ⟨w.heap.size + 1, 1, none⟩ = some (.int .i64 (0)) := by rw [← hW]; clear hW; first | (go_simp; done) | ((repeat refine keepcell ((Below.refl _ _).alloc (Nat.le_refl _) _) ?_); go_simp; done) | (simp only [frozen?_alloc_cells]; go_simp; done)
      have zW0_26 : W0.frozen? ⟨w.heap.size + 1, 1, none⟩ = false := by rw [← hW]; clear hW; first | (go_simp; done) | ((repeat refine keepcell ((Below.refl _ _).alloc (Nat.le_refl _) _) ?_); go_simp; done) | (simp only [frozen?_alloc_cells]; go_simp; done)
      have : w.heap.size + 1 < W0.heap.size := World.block_lt_of_cell? W0 ⟨w.heap.size + 1, 0, none⟩ (by assumption)
      have kW0_27 : W0.cell? ⟨w.heap.size + 2, 0, none⟩ = some (.int .i64 (0)) := by rw [← hW]; clear hW; first | (go_simp; done) | ((repeat refine keepcell ((Below.refl _ _).alloc (Nat.le_refl _) _) ?_); go_simp; done) | (simp only [frozen?_alloc_cells]; go_simp; done)
      have zW0_27 : W0.frozen? ⟨w.heap.size + 2, 0, none⟩ = false := by rw [← hW]; clear hW; first | (go_simp; done) | ((repeat refine keepcell ((Below.refl _ _).alloc (Nat.le_refl _) _) ?_); go_simp; done) | (simp only [frozen?_alloc_cells]; go_simp; done)
      have kW0_28 : W0.cell? ⟨w.heap.size + 2, 1, none⟩ = some (.int .i64 (0)) := by rw [← hW]; clear hW; first | (go_simp; done) | ((repeat refine keepcell ((Below.refl _ _).alloc (Nat.le_refl _) _) ?_); go_simp; done) | (simp only [frozen?_alloc_cells]; go_simp; done)
      have zW0_28 : W0.frozen? ⟨w.heap.size + 2, 1, none⟩ = false := by rw [← hW]; clear hW; first | (go_simp; done) | ((repeat refine keepcell ((Below.refl _ _).alloc (Nat.le_refl _) _) ?_); go_simp; done) | (simp only [frozen?_alloc_cells]; go_simp; done)
      have : w.heap.size + 2 < W0.heap.size := World.block_lt_of_cell? W0 ⟨w.heap.size + 2, 0, none⟩ (by assumption)
      have hBW0 : Below w.heap.size w W0 := by rw [← hW]; (first | ((repeat' with_reducible first | assumption | exact Below.refl _ _ | apply Blw.alloc | apply Blw.drew | apply Blw.drewN | (refine Blw.after ?_ (by assumption)) | (refine Blw.set ?_ (by first | (dsimp only; omega) | (simp; omega)) _)); done) | (repeat' (first | assumption | exact Below.refl _ _ | apply Blw.alloc | apply Blw.drew | apply Blw.drewN | (refine Blw.after ?_ (by assumption)) | (refine Blw.set ?_ (by first | (dsimp only; omega) | (simp; done) | (simp; omega)) _))))
      have hsW0 := hBW0.size
      clear hW
      go_wp2_with (fail)
      refine (HD.out _).mono ?_
      rintro e wA ⟨rfl, hbwA⟩
      have hkwA : Hld W0 wA := heldM (by (first | ((repeat' with_reducible first | assumption | exact Below.refl _ _ | apply Blw.alloc | apply Blw.drew | apply Blw.drewN | (refine Blw.after ?_ (by assumption)) | (refine Blw.set ?_ (by first | (dsimp only; omega) | (simp; omega)) _)); done) | (repeat' (first | assumption | exact Below.refl _ _ | apply Blw.alloc | apply Blw.drew | apply Blw.drewN | (refine Blw.after ?_ (by assumption)) | (refine Blw.set ?_ (by first | (dsimp only; omega) | (simp; done) | (simp; omega)) _)))))
      have hlwA := hkwA.1
      have hswA := hkwA.2.2.2
      try (have : w.heap.size < wA.heap.size := by omega)
      try (have : w.heap.size + 1 < wA.heap.size := by omega)
      try (have : w.heap.size + 2 < wA.heap.size := by omega)
      go_wp2_with (fail)
      refine (HP.out _).mono ?_
      rintro e wB ⟨rfl, hbwB⟩
      have hkwB : Hld W0 wB := heldM (by (first | ((repeat' with_reducible first | assumption | exact Below.refl _ _ | apply Blw.alloc | apply Blw.drew | apply Blw.drewN | (refine Blw.after ?_ (by assumption)) | (refine Blw.set ?_ (by first | (dsimp only; omega) | (simp; omega)) _)); done) | (repeat' (first | assumption | exact Below.refl _ _ | apply Blw.alloc | apply Blw.drew | apply Blw.drewN | (refine Blw.after ?_ (by assumption)) | (refine Blw.set ?_ (by first | (dsimp only; omega) | (simp; done) | (simp; omega)) _)))))
      have hlwB := hkwB.1
      have hswB := hkwB.2.2.2
      try (have : w.heap.size < wB.heap.size := by omega)
      try (have : w.heap.size + 1 < wB.heap.size := by omega)
      try (have : w.heap.size + 2 < wB.heap.size := by omega)
      go_wp2_with (fail)
      refine (HI.out _).mono ?_
      rintro e wC ⟨rfl, hbwC⟩
      have hkwC : Hld W0 wC := heldM (by (first | ((repeat' with_reducible first | assumption | exact Below.refl _ _ | apply Blw.alloc | apply Blw.drew | apply Blw.drewN | (refine Blw.after ?_ (by assumption)) | (refine Blw.set ?_ (by first | (dsimp only; omega) | (simp; omega)) _)); done) | (repeat' (first | assumption | exact Below.refl _ _ | apply Blw.alloc | apply Blw.drew | apply Blw.drewN | (refine Blw.after ?_ (by assumption)) | (refine Blw.set ?_ (by first | (dsimp only; omega) | (simp; done) | (simp; omega)) _)))))
      have hlwC := hkwC.1
      have hswC := hkwC.2.2.2
      try (have : w.heap.size < wC.heap.size := by omega)
      try (have : w.heap.size + 1 < wC.heap.size := by omega)
      try (have : w.heap.size + 2 < wC.heap.size := by omega)
      go_wp2_with fail
      generalize hW : World.alloc _ _ = W1
      have kW1_29 : W1.cell? ⟨w.heap.size + 1, 0, none⟩ = some (.int .i64 (0)) := by rw [← hW]; clear hW; first | (go_simp; done) | ((repeat refine keepcell ((Below.refl _ _).alloc (Nat.le_refl _) _) ?_); go_simp; done) | (simp only [frozen?_alloc_cells]; go_simp; done)
      have zW1_29 : W1.frozen? ⟨w.heap.size + 1, 0, none⟩ = false := by rw [← hW]; clear hW; first | (go_simp; done) | ((repeat refine keepcell ((Below.refl _ _).alloc (Nat.le_refl _) _) ?_); go_simp; done) | (simp only [frozen?_alloc_cells]; go_simp; done)
      have kW1_30 : W1.cell? ⟨w.heap.size + 1, 1, none⟩ = some (.int .i64 (0)) := by rw [← hW]; clear hW; first | (go_simp; done) | ((repeat refine keepcell ((Below.refl _ _).alloc (Nat.le_refl _) _) ?_); go_simp; done) | (simp only [frozen?_alloc_cells]; go_simp; done)
      have zW1_30 : W1.frozen? ⟨w.heap.size + 1, 1, none⟩ = false := by rw [← hW]; clear hW; first | (go_simp; done) | ((repeat refine keepcell ((Below.refl _ _).alloc (Nat.le_refl _) _) ?_); go_simp; done) | (simp only [frozen?_alloc_cells]; go_simp; done)
      have : w.heap.size + 1 < W1.heap.size := World.block_lt_of_cell? W1 ⟨w.heap.size + 1, 0, none⟩ (by assumption)
      have kW1_31 : W1.cell? ⟨w.heap.size + 2, 0, none⟩ = some (.int .i64 (0)) := by rw [← hW]; clear hW; first | (go_simp; done) | ((repeat refine keepcell ((Below.refl _ _).alloc (Nat.le_refl _) _) ?_); go_simp; done) | (simp only [frozen?_alloc_cells]; go_simp; done)
      have zW1_31 : W1.frozen? ⟨w.heap.size + 2, 0, none⟩ = false := by rw [← hW]; clear hW; first | (go_simp; done) | ((repeat refine keepcell ((Below.refl _ _).alloc (Nat.le_refl _) _) ?_); go_simp; done) | (simp only [frozen?_alloc_cells]; go_simp; done)
      have kW1_32 : W1.cell? ⟨w.heap.size + 2, 1, none⟩ = some (.int .i64 (0)) := by rw [← hW]; clear hW; first | (go_simp; done) | ((repeat refine keepcell ((Below.refl _ _).alloc (Nat.le_refl _) _) ?_); go_simp; done) | (simp only [frozen?_alloc_cells]; go_simp; done)
      have zW1_32 : W1.frozen? ⟨w.heap.size + 2, 1, none⟩ = false := by rw [← hW]; clear hW; first | (go_simp; done) | ((repeat refine keepcell ((Below.refl _ _).alloc (Nat.le_refl _) _) ?_); go_simp; done) | (simp only [frozen?_alloc_cells]; go_simp; done)
      have : w.heap.size + 2 < W1.heap.size := World.block_lt_of_cell? W1 ⟨w.heap.size + 2, 0, none⟩ (by assumption)
      have kW1_33 : W1.cell? ⟨wC.heap.size, 0, none⟩ = some (.int .i64 ((qn n (x, y)).1)) := by rw [← hW]; clear hW; first | (go_simp; done) | ((repeat refine keepcell ((Below.refl _ _).alloc (Nat.le_refl _) _) ?_); go_simp; done) | (simp only [frozen?_alloc_cells]; go_simp; done)
      have kW1_34 : W1.cell? ⟨wC.heap.size, 1, none⟩ = some (.int .i64 ((qn n (x, y)).2)) := by rw [← hW]; clear hW; first | (go_simp; done) | ((repeat refine keepcell ((Below.refl _ _).alloc (Nat.le_refl _) _) ?_); go_simp; done) | (simp only [frozen?_alloc_cells]; go_simp; done)
      have : wC.heap.size < W1.heap.size := World.block_lt_of_cell? W1 ⟨wC.heap.size, 0, none⟩ (by assumption)
      have hBW1 : Below w.heap.size w W1 := by rw [← hW]; (first | ((repeat' with_reducible first | assumption | exact Below.refl _ _ | apply Blw.alloc | apply Blw.drew | apply Blw.drewN | (refine Blw.after ?_ (by assumption)) | (refine Blw.set ?_ (by first | (dsimp only; omega) | (simp; omega)) _)); done) | (repeat' (first | assumption | exact Below.refl _ _ | apply Blw.alloc | apply Blw.drew | apply Blw.drewN | (refine Blw.after ?_ (by assumption)) | (refine Blw.set ?_ (by first | (dsimp only; omega) | (simp; done) | (simp; omega)) _))))
      have hsW1 := hBW1.size
      clear hW
      try clear kW0_23; try clear kW0_24; try clear kW0_25; try clear zW0_25; try clear kW0_26; try clear zW0_26; try clear kW0_27; try clear zW0_27; try clear kW0_28; try clear zW0_28; try clear hbwA; try clear hkwA; try clear hlwA; try clear hbwB; try clear hkwB; try clear hlwB; try clear hbwC; try clear hkwC; try clear hlwC
      refine region_slots (fun w' => w'.cell? ⟨wC.heap.size, 0, none⟩ = some (.int .i64 ((qn n (x, y)).1)) ∧ w'.cell? ⟨wC.heap.size, 1, none⟩ = some (.int .i64 ((qn n (x, y)).2))) [] [(45, .is (pr (qn n (x, y)).1 (qn n (x, y)).2)), (46, .is (.string s)), (47, .is (.int .i64 (k : Int))), (48, .is (.string (s.extract k s.size))), (49, .is (pr (rn n (x, y)).1 (rn n (x, y)).2)), (50, .is (pr (rn n (x, y)).1 (rn n (x, y)).2))] (by kernel_rfl) (by kernel_rfl) (by kernel_rfl) (fun w' hH => by go_simp) (fun _ _ _ _ _ _ h => h) ?_
      simp only [Steps, List.contains_cons, List.contains_nil, Nat.reduceBEq, Nat.reduceAdd, Bool.or_false, Bool.false_or, Bool.or_true, Bool.true_or, Bool.false_eq_true, if_false, if_true]
      refine ⟨?_, ?_, ?_, ?_, ?_, ?_, ?_⟩
      · intro u w2 hH hd K hK
        simp only [setU, upd, List.map_cons, List.map_nil, List.contains_cons, List.contains_nil, Nat.reduceBEq, Nat.reduceAdd, Bool.or_false, Bool.false_or, Bool.or_true, Bool.true_or, Bool.false_eq_true, if_false, if_true, ite_true, ite_false, Nat.reduceEqDiff, beq_self_eq_true] at hK ⊢
        go_wp2_with (fail)
        exact hK _ _ (by (first | ((repeat' with_reducible first | assumption | exact Below.refl _ _ | apply Blw.alloc | apply Blw.drew | apply Blw.drewN | (refine Blw.after ?_ (by assumption)) | (refine Blw.set ?_ (by first | (dsimp only; omega) | (simp; omega)) _)); done) | (repeat' (first | assumption | exact Below.refl _ _ | apply Blw.alloc | apply Blw.drew | apply Blw.drewN | (refine Blw.after ?_ (by assumption)) | (refine Blw.set ?_ (by first | (dsimp only; omega) | (simp; done) | (simp; omega)) _))))) rfl
      · intro u w2 hH hd K hK
        simp only [setU, upd, List.map_cons, List.map_nil, List.contains_cons, List.contains_nil, Nat.reduceBEq, Nat.reduceAdd, Bool.or_false, Bool.false_or, Bool.or_true, Bool.true_or, Bool.false_eq_true, if_false, if_true, ite_true, ite_false, Nat.reduceEqDiff, beq_self_eq_true] at hK ⊢
        go_wp2_with (fail)
        exact hK _ _ (by (first | ((repeat' with_reducible first | assumption | exact Below.refl _ _ | apply Blw.alloc | apply Blw.drew | apply Blw.drewN | (refine Blw.after ?_ (by assumption)) | (refine Blw.set ?_ (by first | (dsimp only; omega) | (simp; omega)) _)); done) | (repeat' (first | assumption | exact Below.refl _ _ | apply Blw.alloc | apply Blw.drew | apply Blw.drewN | (refine Blw.after ?_ (by assumption)) | (refine Blw.set ?_ (by first | (dsimp only; omega) | (simp; done) | (simp; omega)) _))))) rfl
      · intro u w2 hH hd K hK
        simp only [setU, upd, List.map_cons, List.map_nil, List.contains_cons, List.contains_nil, Nat.reduceBEq, Nat.reduceAdd, Bool.or_false, Bool.false_or, Bool.or_true, Bool.true_or, Bool.false_eq_true, if_false, if_true, ite_true, ite_false, Nat.reduceEqDiff, beq_self_eq_true] at hK ⊢
        go_wp2_with (fail)
        exact hK _ _ (by (first | ((repeat' with_reducible first | assumption | exact Below.refl _ _ | apply Blw.alloc | apply Blw.drew | apply Blw.drewN | (refine Blw.after ?_ (by assumption)) | (refine Blw.set ?_ (by first | (dsimp only; omega) | (simp; omega)) _)); done) | (repeat' (first | assumption | exact Below.refl _ _ | apply Blw.alloc | apply Blw.drew | apply Blw.drewN | (refine Blw.after ?_ (by assumption)) | (refine Blw.set ?_ (by first | (dsimp only; omega) | (simp; done) | (simp; omega)) _))))) rfl
      · intro u w2 hH hd K hK
        have f46 : u 46 = (.string s) := hd 46 (by kernel_rfl)
        have f47 : u 47 = (.int .i64 (k : Int)) := hd 47 (by kernel_rfl)
        simp only [setU, upd, List.map_cons, List.map_nil, List.contains_cons, List.contains_nil, Nat.reduceBEq, Nat.reduceAdd, Bool.or_false, Bool.false_or, Bool.or_true, Bool.true_or, Bool.false_eq_true, if_false, if_true, ite_true, ite_false, Nat.reduceEqDiff, beq_self_eq_true] at hK ⊢
        rw [f46, f47] at hK ⊢
        clear f46 f47
        go_wp2_with (fail)
        exact hK _ _ (by (first | ((repeat' with_reducible first | assumption | exact Below.refl _ _ | apply Blw.alloc | apply Blw.drew | apply Blw.drewN | (refine Blw.after ?_ (by assumption)) | (refine Blw.set ?_ (by first | (dsimp only; omega) | (simp; omega)) _)); done) | (repeat' (first | assumption | exact Below.refl _ _ | apply Blw.alloc | apply Blw.drew | apply Blw.drewN | (refine Blw.after ?_ (by assumption)) | (refine Blw.set ?_ (by first | (dsimp only; omega) | (simp; done) | (simp; omega)) _))))) rfl
      · intro u w2 hH hd K hK
        have f48 : u 48 = (.string (s.extract k s.size)) := hd 48 (by kernel_rfl)
        simp only [setU, upd, List.map_cons, List.map_nil, List.contains_cons, List.contains_nil, Nat.reduceBEq, Nat.reduceAdd, Bool.or_false, Bool.false_or, Bool.or_true, Bool.true_or, Bool.false_eq_true, if_false, if_true, ite_true, ite_false, Nat.reduceEqDiff, beq_self_eq_true] at hK ⊢
        rw [f48] at hK ⊢
        clear f48
        go_wp2_with ((go_at_call 25; refine (HR.out _).mono ?_; rintro e w1 ⟨rfl, hb⟩; obtain ⟨hc, hf⟩ := bcell hb; have hz := bsize hb; have hs := hb.size; try simp at hs))
        exact hK _ _ (by (first | ((repeat' with_reducible first | assumption | exact Below.refl _ _ | apply Blw.alloc | apply Blw.drew | apply Blw.drewN | (refine Blw.after ?_ (by assumption)) | (refine Blw.set ?_ (by first | (dsimp only; omega) | (simp; omega)) _)); done) | (repeat' (first | assumption | exact Below.refl _ _ | apply Blw.alloc | apply Blw.drew | apply Blw.drewN | (refine Blw.after ?_ (by assumption)) | (refine Blw.set ?_ (by first | (dsimp only; omega) | (simp; done) | (simp; omega)) _))))) rfl
      · intro u w2 hH hd K hK
        have f49 : u 49 = (pr (rn n (x, y)).1 (rn n (x, y)).2) := hd 49 (by kernel_rfl)
        simp only [setU, upd, List.map_cons, List.map_nil, List.contains_cons, List.contains_nil, Nat.reduceBEq, Nat.reduceAdd, Bool.or_false, Bool.false_or, Bool.or_true, Bool.true_or, Bool.false_eq_true, if_false, if_true, ite_true, ite_false, Nat.reduceEqDiff, beq_self_eq_true] at hK ⊢
        rw [f49] at hK ⊢
        clear f49
        go_wp2_with ((go_at_call 29; refine (gauss_c _ _ _).mono ?_; rintro e w1 ⟨rfl, hb⟩; obtain ⟨hc, hf⟩ := bcell hb; have hz := bsize hb; have hs := hb.size; try simp at hs))
        exact hK _ _ (by (first | ((repeat' with_reducible first | assumption | exact Below.refl _ _ | apply Blw.alloc | apply Blw.drew | apply Blw.drewN | (refine Blw.after ?_ (by assumption)) | (refine Blw.set ?_ (by first | (dsimp only; omega) | (simp; omega)) _)); done) | (repeat' (first | assumption | exact Below.refl _ _ | apply Blw.alloc | apply Blw.drew | apply Blw.drewN | (refine Blw.after ?_ (by assumption)) | (refine Blw.set ?_ (by first | (dsimp only; omega) | (simp; done) | (simp; omega)) _))))) rfl
      intro u w2 hH hF hne
      have hH1 := hH.1
      have hH2 := hH.2.2.2
      simp only [allFacts, SlotFact.h] at hF
      obtain ⟨f45, f46, f47, f48, f49, f50, -⟩ := hF
      simp only [setU, upd, List.map_cons, List.map_nil, List.contains_cons, List.contains_nil, Nat.reduceBEq, Nat.reduceAdd, Bool.or_false, Bool.false_or, Bool.or_true, Bool.true_or, Bool.false_eq_true, if_false, if_true, ite_true, ite_false, Nat.reduceEqDiff, beq_self_eq_true]
      rw [f45, f46, f47, f48, f49, f50]
      clear f45 f46 f47 f48 f49 f50 hne
      refine wpListS_step fun K hK => ?_
      go_wp2_with (fail)
      refine hK _ _ (by go_simp) ?_
      clear hK
      refine wpListS_step fun K hK => ?_
      go_wp2_with (fail)
      refine hK _ _ (by go_simp) ?_
      clear hK
      refine wpListS_step fun K hK => ?_
      go_wp2_with (fail)
      refine hK _ _ (by go_simp) ?_
      clear hK
      refine wpListS_nil ?_
      go_wp2_with fail
      exact bodyPost_ret (v := .tuple #[pr (qn n (x, y)).1 (qn n (x, y)).2, pr (rn n (x, y)).1 (rn n (x, y)).2, .bool true]) (by simp [results, Tryd.results13, go_sem, *]) rfl ⟨by rw [HV.out], by (first | ((repeat' with_reducible first | assumption | exact Below.refl _ _ | apply Blw.alloc | apply Blw.drew | apply Blw.drewN | (refine Blw.after ?_ (by assumption)) | (refine Blw.set ?_ (by first | (dsimp only; omega) | (simp; omega)) _)); done) | (repeat' (first | assumption | exact Below.refl _ _ | apply Blw.alloc | apply Blw.drew | apply Blw.drewN | (refine Blw.after ?_ (by assumption)) | (refine Blw.set ?_ (by first | (dsimp only; omega) | (simp; done) | (simp; omega)) _))))⟩
    · have HV := Lib.hid (spV_no (a := a) (x := x) (y := y) (by unfold okT; rw [h1, h2]; rfl))
      have H1 : a < 0 ∨ (0 ≤ a ∧ 12 < a) := by
        simp only [inR, Bool.and_eq_false_iff, decide_eq_false_iff_not] at h1; omega
      clear h1 h2
      generalize txB x y = s at *
      rcases H1 with H1 | ⟨H1, H2⟩
      all_goals
        go_enter Tryd.func13, Tryd.ntmps13
        go_wp2_with fail
        generalize hW : World.alloc _ _ = W0
        have kW0_35 : W0.cell? ⟨w.heap.size, 0, none⟩ = some (.int .i64 (x)) := by rw [← hW]; clear hW; first | (go_simp; done) | ((repeat refine keepcell ((Below.refl _ _).alloc (Nat.le_refl _) _) ?_); go_simp; done) | (simp only [frozen?_alloc_cells]; go_simp; done)
        have kW0_36 : W0.cell? ⟨w.heap.size, 1, none⟩ = some (.int .i64 (y)) := by rw [← hW]; clear hW; first | (go_simp; done) | ((repeat refine keepcell ((Below.refl _ _).alloc (Nat.le_refl _) _) ?_); go_simp; done) | (simp only [frozen?_alloc_cells]; go_simp; done)
        have : w.heap.size < W0.heap.size := World.block_lt_of_cell? W0 ⟨w.heap.size, 0, none⟩ (by assumption)
        have kW0_37 : W0.cell? ⟨w.heap.size + 1, 0, none⟩ = some (.int .i64 (0)) := by rw [← hW]; clear hW; first | (go_simp; done) | ((repeat refine keepcell ((Below.refl _ _).alloc (Nat.le_refl _) _) ?_); go_simp; done) | (simp only [frozen?_alloc_cells]; go_simp; done)
        have zW0_37 : W0.frozen? ⟨w.heap.size + 1, 0, none⟩ = false := by rw [← hW]; clear hW; first | (go_simp; done) | ((repeat refine keepcell ((Below.refl _ _).alloc (Nat.le_refl _) _) ?_); go_simp; done) | (simp only [frozen?_alloc_cells]; go_simp; done)
        have kW0_38 : W0.cell? ⟨w.heap.size + 1, 1, none⟩ = some (.int .i64 (0)) := by rw [← hW]; clear hW; first | (go_simp; done) | ((repeat refine keepcell ((Below.refl _ _).alloc (Nat.le_refl _) _) ?_); go_simp; done) | (simp only [frozen?_alloc_cells]; go_simp; done)
        have zW0_38 : W0.frozen? ⟨w.heap.size + 1, 1, none⟩ = false := by rw [← hW]; clear hW; first | (go_simp; done) | ((repeat refine keepcell ((Below.refl _ _).alloc (Nat.le_refl _) _) ?_); go_simp; done) | (simp only [frozen?_alloc_cells]; go_simp; done)
        have : w.heap.size + 1 < W0.heap.size := World.block_lt_of_cell? W0 ⟨w.heap.size + 1, 0, none⟩ (by assumption)
        have kW0_39 : W0.cell? ⟨w.heap.size + 2, 0, none⟩ = some (.int .i64 (0)) := by rw [← hW]; clear hW; first | (go_simp; done) | ((repeat refine keepcell ((Below.refl _ _).alloc (Nat.le_refl _) _) ?_); go_simp; done) | (simp only [frozen?_alloc_cells]; go_simp; done)
        have zW0_39 : W0.frozen? ⟨w.heap.size + 2, 0, none⟩ = false := by rw [← hW]; clear hW; first | (go_simp; done) | ((repeat refine keepcell ((Below.refl _ _).alloc (Nat.le_refl _) _) ?_); go_simp; done) | (simp only [frozen?_alloc_cells]; go_simp; done)
        have kW0_40 : W0.cell? ⟨w.heap.size + 2, 1, none⟩ = some (.int .i64 (0)) := by rw [← hW]; clear hW; first | (go_simp; done) | ((repeat refine keepcell ((Below.refl _ _).alloc (Nat.le_refl _) _) ?_); go_simp; done) | (simp only [frozen?_alloc_cells]; go_simp; done)
        have zW0_40 : W0.frozen? ⟨w.heap.size + 2, 1, none⟩ = false := by rw [← hW]; clear hW; first | (go_simp; done) | ((repeat refine keepcell ((Below.refl _ _).alloc (Nat.le_refl _) _) ?_); go_simp; done) | (simp only [frozen?_alloc_cells]; go_simp; done)
        have : w.heap.size + 2 < W0.heap.size := World.block_lt_of_cell? W0 ⟨w.heap.size + 2, 0, none⟩ (by assumption)
        have hBW0 : Below w.heap.size w W0 := by rw [← hW]; (first | ((repeat' with_reducible first | assumption | exact Below.refl _ _ | apply Blw.alloc | apply Blw.drew | apply Blw.drewN | (refine Blw.after ?_ (by assumption)) | (refine Blw.set ?_ (by first | (dsimp only; omega) | (simp; omega)) _)); done) | (repeat' (first | assumption | exact Below.refl _ _ | apply Blw.alloc | apply Blw.drew | apply Blw.drewN | (refine Blw.after ?_ (by assumption)) | (refine Blw.set ?_ (by first | (dsimp only; omega) | (simp; done) | (simp; omega)) _))))
        have hsW0 := hBW0.size
        clear hW
        go_wp2_with (fail)
        refine (HD.out _).mono ?_
        rintro e wA ⟨rfl, hbwA⟩
        have hkwA : Hld W0 wA := heldM (by (first | ((repeat' with_reducible first | assumption | exact Below.refl _ _ | apply Blw.alloc | apply Blw.drew | apply Blw.drewN | (refine Blw.after ?_ (by assumption)) | (refine Blw.set ?_ (by first | (dsimp only; omega) | (simp; omega)) _)); done) | (repeat' (first | assumption | exact Below.refl _ _ | apply Blw.alloc | apply Blw.drew | apply Blw.drewN | (refine Blw.after ?_ (by assumption)) | (refine Blw.set ?_ (by first | (dsimp only; omega) | (simp; done) | (simp; omega)) _)))))
        have hlwA := hkwA.1
        have hswA := hkwA.2.2.2
        try (have : w.heap.size < wA.heap.size := by omega)
        try (have : w.heap.size + 1 < wA.heap.size := by omega)
        try (have : w.heap.size + 2 < wA.heap.size := by omega)
        go_wp2_with fail
        exact bodyPost_ret (v := .tuple #[pr 0 0, pr 0 0, .bool false]) (by simp [results, Tryd.results13, go_sem, *]) rfl ⟨by rw [HV.out], by (first | ((repeat' with_reducible first | assumption | exact Below.refl _ _ | apply Blw.alloc | apply Blw.drew | apply Blw.drewN | (refine Blw.after ?_ (by assumption)) | (refine Blw.set ?_ (by first | (dsimp only; omega) | (simp; omega)) _)); done) | (repeat' (first | assumption | exact Below.refl _ _ | apply Blw.alloc | apply Blw.drew | apply Blw.drewN | (refine Blw.after ?_ (by assumption)) | (refine Blw.set ?_ (by first | (dsimp only; omega) | (simp; done) | (simp; omega)) _))))⟩
  · have HV := Lib.hid (spV_no (a := a) (x := x) (y := y) (by unfold okT; rw [h2, Bool.and_false]))
    have HD := Lib.hid (fun w => iDigitsOf_c x y w)
    have e : ofV x y = .tuple #[.string ⟨#[]⟩, .bool false] := by unfold ofV; rw [h2]; rfl
    rw [e] at HD
    go_enter Tryd.func13, Tryd.ntmps13
    go_wp2_with fail
    generalize hW : World.alloc _ _ = W0
    have kW0_41 : W0.cell? ⟨w.heap.size, 0, none⟩ = some (.int .i64 (x)) := by rw [← hW]; clear hW; first | (go_simp; done) | ((repeat refine keepcell ((Below.refl _ _).alloc (Nat.le_refl _) _) ?_); go_simp; done) | (simp only [frozen?_alloc_cells]; go_simp; done)
    have kW0_42 : W0.cell? ⟨w.heap.size, 1, none⟩ = some (.int .i64 (y)) := by rw [← hW]; clear hW; first | (go_simp; done) | ((repeat refine keepcell ((Below.refl _ _).alloc (Nat.le_refl _) _) ?_); go_simp; done) | (simp only [frozen?_alloc_cells]; go_simp; done)
    have : w.heap.size < W0.heap.size := World.block_lt_of_cell? W0 ⟨w.heap.size, 0, none⟩ (by assumption)
    have kW0_43 : W0.cell? ⟨w.heap.size + 1, 0, none⟩ = some (.int .i64 (0)) := by rw [← hW]; clear hW; first | (go_simp; done) | ((repeat refine keepcell ((Below.refl _ _).alloc (Nat.le_refl _) _) ?_); go_simp; done) | (simp only [frozen?_alloc_cells]; go_simp; done)
    have zW0_43 : W0.frozen? ⟨w.heap.size + 1, 0, none⟩ = false := by rw [← hW]; clear hW; first | (go_simp; done) | ((repeat refine keepcell ((Below.refl _ _).alloc (Nat.le_refl _) _) ?_); go_simp; done) | (simp only [frozen?_alloc_cells]; go_simp; done)
    have kW0_44 : W0.cell? ⟨w.heap.size + 1, 1, none⟩ = some (.int .i64 (0)) := by rw [← hW]; clear hW; first | (go_simp; done) | ((repeat refine keepcell ((Below.refl _ _).alloc (Nat.le_refl _) _) ?_); go_simp; done) | (simp only [frozen?_alloc_cells]; go_simp; done)
    have zW0_44 : W0.frozen? ⟨w.heap.size + 1, 1, none⟩ = false := by rw [← hW]; clear hW; first | (go_simp; done) | ((repeat refine keepcell ((Below.refl _ _).alloc (Nat.le_refl _) _) ?_); go_simp; done) | (simp only [frozen?_alloc_cells]; go_simp; done)
    have : w.heap.size + 1 < W0.heap.size := World.block_lt_of_cell? W0 ⟨w.heap.size + 1, 0, none⟩ (by assumption)
    have kW0_45 : W0.cell? ⟨w.heap.size + 2, 0, none⟩ = some (.int .i64 (0)) := by rw [← hW]; clear hW; first | (go_simp; done) | ((repeat refine keepcell ((Below.refl _ _).alloc (Nat.le_refl _) _) ?_); go_simp; done) | (simp only [frozen?_alloc_cells]; go_simp; done)
    have zW0_45 : W0.frozen? ⟨w.heap.size + 2, 0, none⟩ = false := by rw [← hW]; clear hW; first | (go_simp; done) | ((repeat refine keepcell ((Below.refl _ _).alloc (Nat.le_refl _) _) ?_); go_simp; done) | (simp only [frozen?_alloc_cells]; go_simp; done)
    have kW0_46 : W0.cell? ⟨w.heap.size + 2, 1, none⟩ = some (.int .i64 (0)) := by rw [← hW]; clear hW; first | (go_simp; done) | ((repeat refine keepcell ((Below.refl _ _).alloc (Nat.le_refl _) _) ?_); go_simp; done) | (simp only [frozen?_alloc_cells]; go_simp; done)
    have zW0_46 : W0.frozen? ⟨w.heap.size + 2, 1, none⟩ = false := by rw [← hW]; clear hW; first | (go_simp; done) | ((repeat refine keepcell ((Below.refl _ _).alloc (Nat.le_refl _) _) ?_); go_simp; done) | (simp only [frozen?_alloc_cells]; go_simp; done)
    have : w.heap.size + 2 < W0.heap.size := World.block_lt_of_cell? W0 ⟨w.heap.size + 2, 0, none⟩ (by assumption)
    have hBW0 : Below w.heap.size w W0 := by rw [← hW]; (first | ((repeat' with_reducible first | assumption | exact Below.refl _ _ | apply Blw.alloc | apply Blw.drew | apply Blw.drewN | (refine Blw.after ?_ (by assumption)) | (refine Blw.set ?_ (by first | (dsimp only; omega) | (simp; omega)) _)); done) | (repeat' (first | assumption | exact Below.refl _ _ | apply Blw.alloc | apply Blw.drew | apply Blw.drewN | (refine Blw.after ?_ (by assumption)) | (refine Blw.set ?_ (by first | (dsimp only; omega) | (simp; done) | (simp; omega)) _))))
    have hsW0 := hBW0.size
    clear hW
    go_wp2_with (fail)
    refine (HD.out _).mono ?_
    rintro e wA ⟨rfl, hbwA⟩
    have hkwA : Hld W0 wA := heldM (by (first | ((repeat' with_reducible first | assumption | exact Below.refl _ _ | apply Blw.alloc | apply Blw.drew | apply Blw.drewN | (refine Blw.after ?_ (by assumption)) | (refine Blw.set ?_ (by first | (dsimp only; omega) | (simp; omega)) _)); done) | (repeat' (first | assumption | exact Below.refl _ _ | apply Blw.alloc | apply Blw.drew | apply Blw.drewN | (refine Blw.after ?_ (by assumption)) | (refine Blw.set ?_ (by first | (dsimp only; omega) | (simp; done) | (simp; omega)) _)))))
    have hlwA := hkwA.1
    have hswA := hkwA.2.2.2
    try (have : w.heap.size < wA.heap.size := by omega)
    try (have : w.heap.size + 1 < wA.heap.size := by omega)
    try (have : w.heap.size + 2 < wA.heap.size := by omega)
    go_wp2_with fail
    exact bodyPost_ret (v := .tuple #[pr 0 0, pr 0 0, .bool false]) (by simp [results, Tryd.results13, go_sem, *]) rfl ⟨by rw [HV.out], by (first | ((repeat' with_reducible first | assumption | exact Below.refl _ _ | apply Blw.alloc | apply Blw.drew | apply Blw.drewN | (refine Blw.after ?_ (by assumption)) | (refine Blw.set ?_ (by first | (dsimp only; omega) | (simp; omega)) _)); done) | (repeat' (first | assumption | exact Below.refl _ _ | apply Blw.alloc | apply Blw.drew | apply Blw.drewN | (refine Blw.after ?_ (by assumption)) | (refine Blw.set ?_ (by first | (dsimp only; omega) | (simp; done) | (simp; omega)) _))))⟩
end Go.Proofs.YtjjpjjoadphapaaDoor

namespace Go.Proofs.YtjjpjjoadphapaaDoor
set_option linter.unusedSimpArgs false
set_option linter.unusedVariables false
open Go.RowKit Ieee
open Go.ChangeMaps Go.MapKept

theorem Below.map {w w' : World} {b : Nat} {es : Array MapEntry} {c : Nat} {o' : Obj} (h : Below w.heap.size w w') (hb : w.heap.size ≤ b) (hx : w'.heap[b]? = some (.map es c)) : Below w.heap.size w (setBlock w' b o') :=
  h.trans ⟨rfl, rfl, rfl, by simp [setBlock], fun k hk => heap_setBlock_other hx _ (by omega)⟩
/-- the entries of the first numbers of a tile -/
def tlE (n k : Nat) : List (En ZZ) := (List.range k).map fun i => (i, tp n i, Value.int .i64 (i : Int))
theorem tlE_succ (n k : Nat) : tlE n (k + 1) = tlE n k ++ [(k, tp n k, Value.int .i64 (k : Int))] := by
  unfold tlE; rw [List.range_succ, List.map_append]; rfl
theorem tlE_mem {n k : Nat} {x : En ZZ} : x ∈ tlE n k ↔ ∃ i, i < k ∧ x = (i, tp n i, Value.int .i64 (i : Int)) := by
  unfold tlE
  rw [List.mem_map]
  constructor
  · rintro ⟨i, hi, rfl⟩; exact ⟨i, List.mem_range.1 hi, rfl⟩
  · rintro ⟨i, hi, rfl⟩; exact ⟨i, List.mem_range.2 hi, rfl⟩
theorem tlE_ok {n k : Nat} (hn : n ≤ 8) (hk : k ≤ 2 ^ n) : ∀ x ∈ tlE n k, okP x.2.1 := by
  intro x hx
  obtain ⟨i, hi, rfl⟩ := tlE_mem.1 hx
  have := tp_in hn (i := i) (by omega)
  exact ⟨Nat.le_trans this.1 (by omega), Nat.le_trans this.2 (by omega)⟩
theorem tlE_new {n k : Nat} (hk : k < 2 ^ n) : hasE (tlE n k) (tp n k) = false := by
  cases h : hasE (tlE n k) (tp n k) with
  | false => rfl
  | true =>
    obtain ⟨x, hx, e⟩ := (hasE_iff _ _).1 h
    obtain ⟨i, hi, rfl⟩ := tlE_mem.1 hx
    have := tp_inj (n := n) (i := k) (j := i) hk (by omega) e
    omega
theorem tlE_len (n k : Nat) : (tlE n k).length = k := by simp [tlE]
theorem tlE_born (n k : Nat) : ((tlE n k).map (·.1)) = List.range k := by simp [tlE, Function.comp_def]
theorem tlE_nodup (n k : Nat) : ((tlE n k).map (·.1)).Nodup := by rw [tlE_born]; exact List.nodup_range
theorem tlE_keys {n : Nat} : ((tlE n (2 ^ n)).map (fun y => y.2.1)).Nodup := by
  have e : (tlE n (2 ^ n)).map (fun y => y.2.1) = (List.range (2 ^ n)).map (tp n) := by simp [tlE, Function.comp_def]
  rw [e]
  refine List.Pairwise.map (tp n) (R := fun a b => a < b ∧ b < 2 ^ n) ?_ ?_
  · intro a b h e2
    have := tp_inj (n := n) (by omega) h.2 e2
    omega
  · have h1 := List.pairwise_lt_range (n := 2 ^ n)
    exact h1.imp_of_mem (fun _ hb h => ⟨h, List.mem_range.1 hb⟩)
theorem tlE_has {n : Nat} (z : ZZ) : hasE (tlE n (2 ^ n)) z = decide (qn n z = (0, 0)) := by
  rw [Bool.eq_iff_iff, decide_eq_true_eq, hasE_iff]
  constructor
  · rintro ⟨x, hx, rfl⟩
    obtain ⟨i, hi, rfl⟩ := tlE_mem.1 hx
    exact qn_tp n i
  · intro h
    exact ⟨_, tlE_mem.2 ⟨ix n z, ix_lt n z, rfl⟩, (tp_ix n z h).symm⟩
def TofRel (n : Nat) (w : World) (m : Nat) (i : Value) (wr : World) : Prop :=
  ∃ k : Nat, k + m = 2 ^ n ∧ i = .int .i64 k ∧ Below w.heap.size w wr ∧ wr.heap[w.heap.size]? = some (.map (mkA encP (tlE n k)) k)
/-- the map at b is a tile -/
def TileAt (n : Nat) (w : World) (b : Nat) : Prop := w.heap[b]? = some (.map (mkA encP (tlE n (2 ^ n))) (2 ^ n))
def TofPost (a : Int) (w : World) (e : Ending) (w' : World) : Prop :=
  (inR 0 8 a = false ∧ e = .returned (.tuple #[.map none, .bool false]) ∧ Below w.heap.size w w') ∨
  (inR 0 8 a = true ∧ e = .returned (.tuple #[.map (some w.heap.size), .bool true]) ∧ TileAt a.toNat w' w.heap.size ∧ Below w.heap.size w w')
theorem pow8 {n : Nat} (h : n ≤ 8) : 2 ^ n ≤ 256 := by
  have h1 : 2 ^ n ≤ 2 ^ 8 := Nat.pow_le_pow_right (by omega) h
  have h2 : (2 : Nat) ^ 8 = 256 := by decide
  omega
set_option maxRecDepth 100000 in
set_option maxHeartbeats 4000000 in
theorem tileOf_c (a : Int) (w : World) (hT : Two w) (h6 : 2 < w.heap.size) : Calls Tryd.prog 10 #[.int .i64 a] w (TofPost a w) := by
  have hmm := @run_makeMap Tryd.prog
  have HT := Lib.hid hT
  clear hT
  rcases Bool.eq_false_or_eq_true (inR 0 8 a) with h1 | h1
  · have H1 := inR_le h1
    obtain ⟨n, rfl⟩ : ∃ n : Nat, a = (n : Int) := ⟨a.toNat, by omega⟩
    have hn : n ≤ 8 := by omega
    have HH := Lib.hid h1
    have p8 := pow8 hn
    have pw : wrap64 (2 ^ n) = ((2 ^ n : Nat) : Int) := by
      have e : (2 : Int) ^ n = ((2 ^ n : Nat) : Int) := by push_cast; rfl
      rw [e]
      generalize 2 ^ n = P at *
      unfold wrap64
      omega
    obtain ⟨P, hP⟩ : ∃ P : Nat, 2 ^ n = P := ⟨_, rfl⟩
    rw [hP] at pw p8
    have HQ := Lib.hid hP
    clear h1 hP
    go_enter Tryd.func10, Tryd.ntmps10
    go_wp2_with fail
    rw [pw]
    clear pw
    generalize hW : World.alloc _ _ = W0
    have m0 : W0.heap[w.heap.size]? = some (.map (mkA encP (tlE n 0)) 0) := by rw [← hW]; exact (MapKept.heap_alloc _ _).1
    have hB0 : Below w.heap.size w W0 := by rw [← hW]; (first | ((repeat' with_reducible first | assumption | exact Below.refl _ _ | apply Blw.alloc | apply Blw.drew | apply Blw.drewN | (refine Blw.after ?_ (by assumption)) | (refine Blw.set ?_ (by first | (dsimp only; omega) | (simp; omega)) _)); done) | (repeat' (first | assumption | exact Below.refl _ _ | apply Blw.alloc | apply Blw.drew | apply Blw.drewN | (refine Blw.after ?_ (by assumption)) | (refine Blw.set ?_ (by first | (dsimp only; omega) | (simp; done) | (simp; omega)) _))))
    clear hW
    go_loopg [16] P (fun m i wr => TofRel n w m i wr)
    case atStart => exact ⟨0, by rw [HQ.out]; omega, rfl, hB0, m0⟩
    case round =>
      clear m0 hB0
      obtain ⟨k, hk, rfl, hBw, hmap⟩ := hrel
      have L0 : w.heap.size < wr.heap.size := (Array.getElem?_eq_some_iff.1 hmap).1
      rw [HQ.out] at hk
      have HK := Lib.hid hk
      by_cases hlt : k < P
      · have T1 := Lib.hid (HT.out.keep h6 hBw)
        have HL := Lib.hid (show k < 2 ^ n by rw [HQ.out]; exact hlt)
        have HL2 := Lib.hid hlt
        have hk1 : k ≤ 255 := by omega
        have hki : (k : Int) < ((2 ^ n : Nat) : Int) := by rw [HQ.out]; omega
        clear hk hlt
        go_wp2_with fail
        refine (num_c k wr (by omega) T1.out (by omega)).mono ?_
        rintro e wA ⟨l, rfl, hg, hbA⟩
        have hv : valF l = tp n k := by
          have h := val_tp l hg.1 n (by rw [hg.2.1]; exact hki)
          rw [hg.2.1, Int.toNat_natCast] at h; exact h
        have ht := tp_in hn HL.out
        have hok : okP (tp n k) := ⟨Nat.le_trans ht.1 (by omega), Nat.le_trans ht.2 (by omega)⟩
        have HP := Lib.hid (fun w => pair_of (s := bs l) (z := tp n k) (by rw [toL_bs]; exact hg.1) (by rw [bs_sz]; exact hg.2.2) (by rw [toL_bs]; exact hv) w)
        have HA := Lib.hid (fun w => pointAt_c (tp n k) w hok)
        have hBA := Blw.after hBw hbA
        have hmA := (hbA.block _ L0).trans hmap
        have LA := hbA.size
        clear hv ht hg hbA hBw hmap
        go_wp2_with fail
        refine (HP.out _).mono ?_
        rintro e wB ⟨rfl, hbB⟩
        have hBB := Blw.after hBA hbB
        have hmB := (hbB.block _ (by omega)).trans hmA
        have LB := hbB.size
        clear hBA hmA hbB
        go_wp2_with fail
        refine (HA.out _).mono ?_
        rintro e wC ⟨rfl, hbC⟩
        have hBC := Blw.after hBB hbC
        have hmC := (hbC.block _ (by omega)).trans hmB
        have hu := newE Tryd.underlying34 keyP wC hmC hok (tlE_ok hn (by have := HL.out; omega)) (tlE_new HL.out) (.int .i64 (k : Int))
        rw [← tlE_succ] at hu
        have HM := Lib.hid (heap_setBlock_same hmC (.map (mkA encP (tlE n (k + 1))) (k + 1)))
        have HB := Lib.hid (Below.map (o' := .map (mkA encP (tlE n (k + 1))) (k + 1)) hBC (Nat.le_refl _) hmC)
        generalize setBlock wC w.heap.size (.map (mkA encP (tlE n (k + 1))) (k + 1)) = W2 at *
        generalize encP (tp n k) = z at *
        clear hBB hmB hbC hBC hmC hok
        go_wp2
        go_roundg (gk - 1)
        case measure => have := HK.out; have := HL2.out; omega
        case rel => exact ⟨k + 1, by rw [HQ.out]; have := HK.out; have := HL2.out; omega, by go_num, HB.out, HM.out⟩
      · obtain rfl : k = P := by omega
        have HX := Lib.hid (And.intro hBw (show TileAt n wr w.heap.size by unfold TileAt; rw [HQ.out]; exact hmap))
        clear hBw hmap hk
        go_wp2
        go_ret2
        exact Or.inr ⟨HH.out, rfl, by rw [Int.toNat_natCast]; exact HX.out.2, HX.out.1⟩
  · have H1 : a < 0 ∨ (0 ≤ a ∧ 8 < a) := by
      simp only [inR, Bool.and_eq_false_iff, decide_eq_false_iff_not] at h1; omega
    have HH := Lib.hid h1
    clear h1
    rcases H1 with H1 | ⟨H1, H2⟩
    all_goals
      go_enter Tryd.func10, Tryd.ntmps10
      go_wp2
      go_ret2
      exact Or.inl ⟨HH.out, rfl, by (first | ((repeat' with_reducible first | assumption | exact Below.refl _ _ | apply Blw.alloc | apply Blw.drew | apply Blw.drewN | (refine Blw.after ?_ (by assumption)) | (refine Blw.set ?_ (by first | (dsimp only; omega) | (simp; omega)) _)); done) | (repeat' (first | assumption | exact Below.refl _ _ | apply Blw.alloc | apply Blw.drew | apply Blw.drewN | (refine Blw.after ?_ (by assumption)) | (refine Blw.set ?_ (by first | (dsimp only; omega) | (simp; done) | (simp; omega)) _))))⟩
end Go.Proofs.YtjjpjjoadphapaaDoor

namespace Go.Proofs.YtjjpjjoadphapaaDoor
set_option linter.unusedSimpArgs false
set_option linter.unusedVariables false
open Go.RowKit Ieee
open Go.ChangeMaps Go.MapKept

def nrT (z : ZZ) : List ZZ := [(z.1 + 1, z.2), (z.1, z.2 + 1), (z.1 - 1, z.2), (z.1, z.2 - 1)]
def outsN (n : Nat) (z : ZZ) (k : Nat) : List ZZ := ((nrT z).take k).filter fun p => !decide (qn n p = (0, 0))
def outs (n : Nat) (z : ZZ) : List ZZ := (nrT z).filter fun p => !decide (qn n p = (0, 0))
theorem infoC6 : (Tryd.prog.info? 39).map (fun i => (i.zero, i.size, i.bytes)) = some (some (.complex .f32 0 0), 1, 8) := by kernel_rfl
theorem encP_m1 : (Value.complex .f32 3212836864 0) = encP (-1, 0) := by unfold encP px py; rw [w0s, wm1s]
theorem encP_i : (Value.complex .f32 0 1065353216) = encP (0, 1) := by unfold encP px py; rw [w0s, w1s]
theorem encP_mi : (Value.complex .f32 0 3212836864) = encP (0, -1) := by unfold encP px py; rw [w0s, wm1s]
theorem zeroInt (w : World) : (zeroValue 3).run Tryd.prog w = .ok (.int .i64 0) w := by kernel_rfl
/-- one round: the step, the point it leads to, and what is told of it -/
def OtRel (n : Nat) (z : ZZ) (w : World) (m : Nat) (v i : Value) (wr : World) : Prop :=
  ∃ k : Nat, k + m = 4 ∧ i = .int .i64 k ∧ wr.ownsRow w.heap.size 39 1 v (outsN n z k).length ((outsN n z k).map encP) ∧ Below w.heap.size w wr
theorem outsN_len (n : Nat) (z : ZZ) (k : Nat) : (outsN n z k).length ≤ 4 := by
  unfold outsN
  refine Nat.le_trans (List.length_filter_le _ _) ?_
  rw [List.length_take]
  show min k 4 ≤ 4
  omega
theorem outsN_in {n : Nat} {z p : ZZ} {k : Nat} (h : (nrT z)[k]? = some p) (hp : qn n p = (0, 0)) : outsN n z (k + 1) = outsN n z k := by
  unfold outsN
  rw [List.take_add_one, h, List.filter_append]
  simp [hp]
theorem outsN_out {n : Nat} {z p : ZZ} {k : Nat} (h : (nrT z)[k]? = some p) (hp : ¬ qn n p = (0, 0)) : outsN n z (k + 1) = outsN n z k ++ [p] := by
  unfold outsN
  rw [List.take_add_one, h, List.filter_append]
  simp [hp]
theorem outsN_all (n : Nat) (z : ZZ) : outsN n z 4 = outs n z := rfl
theorem step_at0 (w : World) : (Instr.index 62 (.agg #[.complex .f32 1065353216 0, .complex .f32 0 1065353216, .complex .f32 3212836864 0, .complex .f32 0 3212836864]) (.int .i64 0)).run Tryd.prog w = .ok (.complex .f32 1065353216 0) w := by
  simp [Instr.index, go_sem, Tryd.underlying62, Tryd.underlying39]
theorem step_add0 {z : ZZ} (h : z.1.natAbs ≤ 1000 ∧ z.2.natAbs ≤ 1000) (t : TypeId) (w : World) : (binOp .add t (encP z) (.complex .f32 1065353216 0)).run Tryd.prog w = .ok (encP (z.1 + 1, z.2)) w := by
  have f := run_padd (P := Tryd.prog) w t (p := z) (q := (1, 0)) ⟨by omega, by omega⟩ (by unfold Sm; decide)
  rw [enc10] at f
  simpa [addP, Int.sub_eq_add_neg] using f
theorem step_at1 (w : World) : (Instr.index 62 (.agg #[.complex .f32 1065353216 0, .complex .f32 0 1065353216, .complex .f32 3212836864 0, .complex .f32 0 3212836864]) (.int .i64 1)).run Tryd.prog w = .ok (.complex .f32 0 1065353216) w := by
  simp [Instr.index, go_sem, Tryd.underlying62, Tryd.underlying39]
theorem step_add1 {z : ZZ} (h : z.1.natAbs ≤ 1000 ∧ z.2.natAbs ≤ 1000) (t : TypeId) (w : World) : (binOp .add t (encP z) (.complex .f32 0 1065353216)).run Tryd.prog w = .ok (encP (z.1, z.2 + 1)) w := by
  have f := run_padd (P := Tryd.prog) w t (p := z) (q := (0, 1)) ⟨by omega, by omega⟩ (by unfold Sm; decide)
  rw [← encP_i] at f
  simpa [addP, Int.sub_eq_add_neg] using f
theorem step_at2 (w : World) : (Instr.index 62 (.agg #[.complex .f32 1065353216 0, .complex .f32 0 1065353216, .complex .f32 3212836864 0, .complex .f32 0 3212836864]) (.int .i64 2)).run Tryd.prog w = .ok (.complex .f32 3212836864 0) w := by
  simp [Instr.index, go_sem, Tryd.underlying62, Tryd.underlying39]
theorem step_add2 {z : ZZ} (h : z.1.natAbs ≤ 1000 ∧ z.2.natAbs ≤ 1000) (t : TypeId) (w : World) : (binOp .add t (encP z) (.complex .f32 3212836864 0)).run Tryd.prog w = .ok (encP (z.1 - 1, z.2)) w := by
  have f := run_padd (P := Tryd.prog) w t (p := z) (q := (-1, 0)) ⟨by omega, by omega⟩ (by unfold Sm; decide)
  rw [← encP_m1] at f
  simpa [addP, Int.sub_eq_add_neg] using f
theorem step_at3 (w : World) : (Instr.index 62 (.agg #[.complex .f32 1065353216 0, .complex .f32 0 1065353216, .complex .f32 3212836864 0, .complex .f32 0 3212836864]) (.int .i64 3)).run Tryd.prog w = .ok (.complex .f32 0 3212836864) w := by
  simp [Instr.index, go_sem, Tryd.underlying62, Tryd.underlying39]
theorem step_add3 {z : ZZ} (h : z.1.natAbs ≤ 1000 ∧ z.2.natAbs ≤ 1000) (t : TypeId) (w : World) : (binOp .add t (encP z) (.complex .f32 0 3212836864)).run Tryd.prog w = .ok (encP (z.1, z.2 - 1)) w := by
  have f := run_padd (P := Tryd.prog) w t (p := z) (q := (0, -1)) ⟨by omega, by omega⟩ (by unfold Sm; decide)
  rw [← encP_mi] at f
  simpa [addP, Int.sub_eq_add_neg] using f
set_option maxRecDepth 100000 in
set_option maxHeartbeats 8000000 in
theorem outside_c (n : Nat) (b : Nat) (z : ZZ) (w : World) (hn : n ≤ 8) (hz : z.1.natAbs ≤ 1000 ∧ z.2.natAbs ≤ 1000) (hm : TileAt n w b) :
    Calls Tryd.prog 12 #[.map (some b), encP z] w fun e w' => ∃ v, e = .returned v ∧ w'.ownsRow w.heap.size 39 1 v (outs n z).length ((outs n z).map encP) ∧ Below w.heap.size w w' := by
  obtain ⟨i0, hi, hz0, hz1, hz2⟩ := info_parts infoC6
  have HM := Lib.hid hm
  have HZ := Lib.hid hz
  have Lb : b < w.heap.size := (Array.getElem?_eq_some_iff.1 hm).1
  clear hm
  go_enter Tryd.func12, Tryd.ntmps12
  go_wp2_with fail
  go_loopg [5, 11] 4 (fun m v i wr => OtRel n z w m v i wr)
  case atStart => exact ⟨0, by omega, rfl, by show w.ownsRow w.heap.size _ 1 (.slice none 0 0) 0 []; exact World.ownsRow_nil _ _ _ _, Below.refl _ _⟩
  case round =>
    obtain ⟨k, hk, rfl, hown, hB⟩ := hrel
    have HO := Lib.hid hown
    have HB := Lib.hid hB
    have hle := outsN_len n z k
    have HMr := Lib.hid (show TileAt n wr b from (hB.block b Lb).trans HM.out)
    have Lbr : b < wr.heap.size := Nat.lt_of_lt_of_le Lb hB.size
    clear hown hB
    by_cases hlt : k < 4
    · obtain rfl | rfl | rfl | rfl : k = 0 ∨ k = 1 ∨ k = 2 ∨ k = 3 := by omega
      · have h1 := step_at0
        have h2 := fun t w => step_add0 HZ.out t w
        have HQ := Lib.hid (show (nrT z)[0]? = some (z.1 + 1, z.2) from rfl)
        have hok : okP (z.1 + 1, z.2) := ⟨by dsimp only; omega, by dsimp only; omega⟩
        obtain ⟨v0, hl⟩ := lookE (zv := .int .i64 0) Tryd.underlying34 keyP wr (zeroInt wr) HMr.out hok (tlE_ok hn (Nat.le_refl _))
        rw [tlE_has] at hl
        generalize (z.1 + 1, z.2) = p at *
        clear hok
        by_cases hp : qn n p = (0, 0)
        · have HE := Lib.hid (outsN_in (n := n) HQ.out hp)
          rw [decide_eq_true hp] at hl
          clear hp
          go_wp2_with fail
          go_roundg (gk - 1)
          case measure => omega
          case rel => exact ⟨1, by omega, by go_num, by rw [HE.out]; exact HO.out, HB.out⟩
        · have HE := Lib.hid (outsN_out (n := n) HQ.out hp)
          rw [decide_eq_false hp] at hl
          clear hp
          have hs1 := HB.out.size
          go_wp2_with (at_builtin; refine wpList_append_own _ rfl _ _ 40 rfl w.heap.size 39 i0 (.complex .f32 0 0) 1 8 Tryd.underlying40 hi hz0 hz1 hz2 rfl (by decide) _ _ _ rfl (HO.out.alloc _) ⟨wr.heap.size, 0, none⟩ 1 1 [encP p] rfl rfl (cells1 _ _ _) (one1 _ rfl) (by unfold maxLen; omega) (by omega) (by simp; omega) ?_)
          intro v' W7 hown' hgrow _
          have HB7 := Lib.hid (show Below w.heap.size w W7 from Below.grown (by have := HB.out; (first | ((repeat' with_reducible first | assumption | exact Below.refl _ _ | apply Blw.alloc | apply Blw.drew | apply Blw.drewN | (refine Blw.after ?_ (by assumption)) | (refine Blw.set ?_ (by first | (dsimp only; omega) | (simp; omega)) _)); done) | (repeat' (first | assumption | exact Below.refl _ _ | apply Blw.alloc | apply Blw.drew | apply Blw.drewN | (refine Blw.after ?_ (by assumption)) | (refine Blw.set ?_ (by first | (dsimp only; omega) | (simp; done) | (simp; omega)) _))))) hgrow (by simp; omega) (fun k hk => (HO.out.lt k hk).1))
          have HO7 := Lib.hid hown'
          clear hown' hgrow
          go_wp2_with fail
          go_roundg (gk - 1)
          case measure => omega
          case rel => exact ⟨1, by omega, by go_num, by rw [HE.out, List.length_append, List.map_append]; exact HO7.out, HB7.out⟩
      · have h1 := step_at1
        have h2 := fun t w => step_add1 HZ.out t w
        have HQ := Lib.hid (show (nrT z)[1]? = some (z.1, z.2 + 1) from rfl)
        have hok : okP (z.1, z.2 + 1) := ⟨by dsimp only; omega, by dsimp only; omega⟩
        obtain ⟨v0, hl⟩ := lookE (zv := .int .i64 0) Tryd.underlying34 keyP wr (zeroInt wr) HMr.out hok (tlE_ok hn (Nat.le_refl _))
        rw [tlE_has] at hl
        generalize (z.1, z.2 + 1) = p at *
        clear hok
        by_cases hp : qn n p = (0, 0)
        · have HE := Lib.hid (outsN_in (n := n) HQ.out hp)
          rw [decide_eq_true hp] at hl
          clear hp
          go_wp2_with fail
          go_roundg (gk - 1)
          case measure => omega
          case rel => exact ⟨2, by omega, by go_num, by rw [HE.out]; exact HO.out, HB.out⟩
        · have HE := Lib.hid (outsN_out (n := n) HQ.out hp)
          rw [decide_eq_false hp] at hl
          clear hp
          have hs1 := HB.out.size
          go_wp2_with (at_builtin; refine wpList_append_own _ rfl _ _ 40 rfl w.heap.size 39 i0 (.complex .f32 0 0) 1 8 Tryd.underlying40 hi hz0 hz1 hz2 rfl (by decide) _ _ _ rfl (HO.out.alloc _) ⟨wr.heap.size, 0, none⟩ 1 1 [encP p] rfl rfl (cells1 _ _ _) (one1 _ rfl) (by unfold maxLen; omega) (by omega) (by simp; omega) ?_)
          intro v' W7 hown' hgrow _
          have HB7 := Lib.hid (show Below w.heap.size w W7 from Below.grown (by have := HB.out; (first | ((repeat' with_reducible first | assumption | exact Below.refl _ _ | apply Blw.alloc | apply Blw.drew | apply Blw.drewN | (refine Blw.after ?_ (by assumption)) | (refine Blw.set ?_ (by first | (dsimp only; omega) | (simp; omega)) _)); done) | (repeat' (first | assumption | exact Below.refl _ _ | apply Blw.alloc | apply Blw.drew | apply Blw.drewN | (refine Blw.after ?_ (by assumption)) | (refine Blw.set ?_ (by first | (dsimp only; omega) | (simp; done) | (simp; omega)) _))))) hgrow (by simp; omega) (fun k hk => (HO.out.lt k hk).1))
          have HO7 := Lib.hid hown'
          clear hown' hgrow
          go_wp2_with fail
          go_roundg (gk - 1)
          case measure => omega
          case rel => exact ⟨2, by omega, by go_num, by rw [HE.out, List.length_append, List.map_append]; exact HO7.out, HB7.out⟩
      · have h1 := step_at2
        have h2 := fun t w => step_add2 HZ.out t w
        have HQ := Lib.hid (show (nrT z)[2]? = some (z.1 - 1, z.2) from rfl)
        have hok : okP (z.1 - 1, z.2) := ⟨by dsimp only; omega, by dsimp only; omega⟩
        obtain ⟨v0, hl⟩ := lookE (zv := .int .i64 0) Tryd.underlying34 keyP wr (zeroInt wr) HMr.out hok (tlE_ok hn (Nat.le_refl _))
        rw [tlE_has] at hl
        generalize (z.1 - 1, z.2) = p at *
        clear hok
        by_cases hp : qn n p = (0, 0)
        · have HE := Lib.hid (outsN_in (n := n) HQ.out hp)
          rw [decide_eq_true hp] at hl
          clear hp
          go_wp2_with fail
          go_roundg (gk - 1)
          case measure => omega
          case rel => exact ⟨3, by omega, by go_num, by rw [HE.out]; exact HO.out, HB.out⟩
        · have HE := Lib.hid (outsN_out (n := n) HQ.out hp)
          rw [decide_eq_false hp] at hl
          clear hp
          have hs1 := HB.out.size
          go_wp2_with (at_builtin; refine wpList_append_own _ rfl _ _ 40 rfl w.heap.size 39 i0 (.complex .f32 0 0) 1 8 Tryd.underlying40 hi hz0 hz1 hz2 rfl (by decide) _ _ _ rfl (HO.out.alloc _) ⟨wr.heap.size, 0, none⟩ 1 1 [encP p] rfl rfl (cells1 _ _ _) (one1 _ rfl) (by unfold maxLen; omega) (by omega) (by simp; omega) ?_)
          intro v' W7 hown' hgrow _
          have HB7 := Lib.hid (show Below w.heap.size w W7 from Below.grown (by have := HB.out; (first | ((repeat' with_reducible first | assumption | exact Below.refl _ _ | apply Blw.alloc | apply Blw.drew | apply Blw.drewN | (refine Blw.after ?_ (by assumption)) | (refine Blw.set ?_ (by first | (dsimp only; omega) | (simp; omega)) _)); done) | (repeat' (first | assumption | exact Below.refl _ _ | apply Blw.alloc | apply Blw.drew | apply Blw.drewN | (refine Blw.after ?_ (by assumption)) | (refine Blw.set ?_ (by first | (dsimp only; omega) | (simp; done) | (simp; omega)) _))))) hgrow (by simp; omega) (fun k hk => (HO.out.lt k hk).1))
          have HO7 := Lib.hid hown'
          clear hown' hgrow
          go_wp2_with fail
          go_roundg (gk - 1)
          case measure => omega
          case rel => exact ⟨3, by omega, by go_num, by rw [HE.out, List.length_append, List.map_append]; exact HO7.out, HB7.out⟩
      · have h1 := step_at3
        have h2 := fun t w => step_add3 HZ.out t w
        have HQ := Lib.hid (show (nrT z)[3]? = some (z.1, z.2 - 1) from rfl)
        have hok : okP (z.1, z.2 - 1) := ⟨by dsimp only; omega, by dsimp only; omega⟩
        obtain ⟨v0, hl⟩ := lookE (zv := .int .i64 0) Tryd.underlying34 keyP wr (zeroInt wr) HMr.out hok (tlE_ok hn (Nat.le_refl _))
        rw [tlE_has] at hl
        generalize (z.1, z.2 - 1) = p at *
        clear hok
        by_cases hp : qn n p = (0, 0)
        · have HE := Lib.hid (outsN_in (n := n) HQ.out hp)
          rw [decide_eq_true hp] at hl
          clear hp
          go_wp2_with fail
          go_roundg (gk - 1)
          case measure => omega
          case rel => exact ⟨4, by omega, by go_num, by rw [HE.out]; exact HO.out, HB.out⟩
        · have HE := Lib.hid (outsN_out (n := n) HQ.out hp)
          rw [decide_eq_false hp] at hl
          clear hp
          have hs1 := HB.out.size
          go_wp2_with (at_builtin; refine wpList_append_own _ rfl _ _ 40 rfl w.heap.size 39 i0 (.complex .f32 0 0) 1 8 Tryd.underlying40 hi hz0 hz1 hz2 rfl (by decide) _ _ _ rfl (HO.out.alloc _) ⟨wr.heap.size, 0, none⟩ 1 1 [encP p] rfl rfl (cells1 _ _ _) (one1 _ rfl) (by unfold maxLen; omega) (by omega) (by simp; omega) ?_)
          intro v' W7 hown' hgrow _
          have HB7 := Lib.hid (show Below w.heap.size w W7 from Below.grown (by have := HB.out; (first | ((repeat' with_reducible first | assumption | exact Below.refl _ _ | apply Blw.alloc | apply Blw.drew | apply Blw.drewN | (refine Blw.after ?_ (by assumption)) | (refine Blw.set ?_ (by first | (dsimp only; omega) | (simp; omega)) _)); done) | (repeat' (first | assumption | exact Below.refl _ _ | apply Blw.alloc | apply Blw.drew | apply Blw.drewN | (refine Blw.after ?_ (by assumption)) | (refine Blw.set ?_ (by first | (dsimp only; omega) | (simp; done) | (simp; omega)) _))))) hgrow (by simp; omega) (fun k hk => (HO.out.lt k hk).1))
          have HO7 := Lib.hid hown'
          clear hown' hgrow
          go_wp2_with fail
          go_roundg (gk - 1)
          case measure => omega
          case rel => exact ⟨4, by omega, by go_num, by rw [HE.out, List.length_append, List.map_append]; exact HO7.out, HB7.out⟩
    · obtain rfl : k = 4 := by omega
      go_wp2_with fail
      go_ret
      exact ⟨_, rfl, HO.out, HB.out⟩
end Go.Proofs.YtjjpjjoadphapaaDoor

namespace Go.Proofs.YtjjpjjoadphapaaDoor
set_option linter.unusedSimpArgs false
set_option linter.unusedVariables false
open Go.RowKit

/-- a list of a call's own -/
def OwnG (B : Nat) (v : Value) (l : List ZZ) (w : World) : Prop :=
  ∃ a c, v = .slice a l.length c ∧ GSl a l w ∧ (l = [] ∨ ∃ g, a = some ⟨g, 0, none⟩ ∧ B ≤ g ∧ g < w.heap.size ∧ ∀ j, w.frozen? ⟨g, j, none⟩ = false)
noncomputable def ptsT (a : Int) : List ZZ := if inR 0 8 a = true then allT a.toNat else []
def PtsPost (a : Int) (w : World) (e : Ending) (w' : World) : Prop := ∃ v, e = .returned (.tuple #[v, .bool (inR 0 8 a)]) ∧ OwnG w.heap.size v (ptsT a) w' ∧ Below w.heap.size w w'
theorem allT_in {n : Nat} (h : n ≤ 8) : ∀ z ∈ allT n, z.1.natAbs ≤ 200 ∧ z.2.natAbs ≤ 200 := by
  rw [allT_tp h]
  intro z hz
  obtain ⟨i, hi, rfl⟩ := List.mem_map.1 hz
  exact tp_in h (List.mem_range.1 hi)
def midL (L : List ZZ) (p : ZZ) (k : Nat) : List ZZ := L ++ (L.take k).map (fun z => addP z p)
theorem midL_zero (L : List ZZ) (p : ZZ) : midL L p 0 = L := by simp [midL]
theorem midL_all (L : List ZZ) (p : ZZ) : midL L p L.length = L ++ L.map (fun z => addP z p) := by simp [midL]
theorem midL_succ (L : List ZZ) (p : ZZ) (k : Nat) (h : k < L.length) : midL L p (k + 1) = midL L p k ++ [(L[k].1 + p.1, L[k].2 + p.2)] := by
  unfold midL
  rw [List.take_add_one, List.getElem?_eq_getElem h, List.map_append, List.append_assoc]; rfl
theorem midL_len (L : List ZZ) (p : ZZ) (k : Nat) (h : k ≤ L.length) : (midL L p k).length = L.length + k := by
  simp [midL]; omega
def AllRel (n : Nat) (w : World) (m : Nat) (v i : Value) (wr : World) : Prop :=
  ∃ k g cap : Nat, k + m = n ∧ i = .int .i64 k ∧ v = .slice (some ⟨g, 0, none⟩) (allT k).length cap ∧ wr.ownsRow w.heap.size 29 2 v (allT k).length (gcells (allT k)) ∧ g ≠ w.heap.size + 1 ∧ Own2 wr (w.heap.size + 1) (bpw k).1 (bpw k).2 ∧ Below w.heap.size w wr
def MidRel (L : List ZZ) (p : ZZ) (w : World) (m : Nat) (v i : Value) (wr : World) : Prop :=
  ∃ k g cap N : Nat, k + m = L.length ∧ N = L.length + k ∧ i = .int .i64 k ∧ v = .slice (some ⟨g, 0, none⟩) N cap ∧ wr.ownsRow w.heap.size 29 2 v N (gcells (midL L p k)) ∧ g ≠ w.heap.size + 1 ∧ Own2 wr (w.heap.size + 1) p.1 p.2 ∧ Below w.heap.size w wr
theorem gget {L : List ZZ} {p : ZZ} {k j : Nat} (hj : j < L.length) : (gcells (midL L p k))[j * 2]? = some (.int .i64 L[j].1) ∧ (gcells (midL L p k))[j * 2 + 1]? = some (.int .i64 L[j].2) :=
  gcells_at _ j L[j].1 L[j].2 (by unfold midL; rw [List.getElem?_append_left hj, List.getElem?_eq_getElem hj])
theorem own_setNe {w : World} {B e n sz g n' cap : Nat} {xs : List Value} (h : w.ownsRow B e sz (.slice (some ⟨g, 0, none⟩) n' cap) n xs) {a : Addr} (ha : g ≠ a.block) (u : Value) : (w.setCell a u).ownsRow B e sz (.slice (some ⟨g, 0, none⟩) n' cap) n xs := by
  refine ⟨h.1, h.2.imp id ?_⟩
  rintro ⟨g', cap', cur, h1, h2, h3, h4⟩
  have e1 : g = g' := by simp only [Value.slice.injEq, Option.some.injEq, Addr.mk.injEq, and_true] at h1; exact h1.1
  exact ⟨g', cap', cur, h1, h2, (Below.heap_setCell _ _ _ _ (by rw [← e1]; exact ha)).trans h3, h4⟩
set_option maxRecDepth 100000 in
/-- what an append leaves of the old row -/
theorem append_keep2 (w : World) (t ty : TypeId) (B : Nat) (e : TypeId) (i : TypeInfo) (z : Value) (bytes : Nat) (ht : Tryd.prog.underlying t = some (.slice e)) (hi : Tryd.prog.info? e = some i) (hz : i.zero = some z)
    (hsize : i.size = 2) (hby : i.bytes = bytes) (hzs : z.cells.size = 2) (g n cap : Nat) (xs : List Value) (hown : w.ownsRow B e 2 (.slice (some ⟨g, 0, none⟩) n cap) n xs) (hn : 0 < n)
    (a : Addr) (m c : Nat) (news : List Value) (hl : news.length = m * 2) (hnews : ∀ j u, news[j]? = some u → w.cell? (a.add j) = some u) (h1 : ∀ u ∈ news, u.oneCell' = true) (hm : 0 < m)
    (h63 : n + m ≤ maxLen) (hbytes : (n + m) * bytes ≤ 140737488355328) (hbase : B ≤ w.heap.size) :
    ∃ g' cap' w', (Builtin.append_ #[t, t] ty #[.slice (some ⟨g, 0, none⟩) n cap, .slice (some a) m c]).run Tryd.prog w = .ok (.slice (some ⟨g', 0, none⟩) (n + m) cap') w' ∧ w'.ownsRow B e 2 (.slice (some ⟨g', 0, none⟩) (n + m) cap') (n + m) (xs ++ news) ∧ w.grownBy w' (some g) ∧ (∀ j, j < n * 2 → w'.cell? ⟨g, j, none⟩ = w.cell? ⟨g, j, none⟩) ∧ (g' = g ∨ g' = w.heap.size) := by
  obtain ⟨g', cap', w', hr, h2, h3, h4, _⟩ := run_append_lies (P := Tryd.prog) w t ty B e i z 2 bytes ht hi hz hsize hby hzs (by decide) _ n xs hown a m c news hl hnews h1 hm h63 hbytes hbase w.heap.size rfl
  refine ⟨g', cap', w', hr, h2, h3, fun j hj => ?_, h4.imp (fun h => by have h9 : some g = some g' := h; exact (Option.some.inj h9).symm) id⟩
  have hmx : n + m ≤ 9223372036854775807 := by simp only [maxLen] at h63; omega
  have hgl := (hown.lt g rfl).2
  obtain ⟨cap0, cur, he, hg, hcs⟩ : ∃ (cap0 : Nat) (cur : Array Value), cap0 = cap ∧ w.heap[g]? = some (.cells cur e (0, 0)) ∧ cur.size = cap * 2 := by
    rcases hown.2 with ⟨h0, _⟩ | ⟨g', cap', cur, h1', _, hg, _, _, hcs, _⟩
    · cases h0
    · simp only [Value.slice.injEq, Option.some.injEq, Addr.mk.injEq, and_true, true_and] at h1'
      obtain ⟨rfl, rfl⟩ := h1'
      exact ⟨_, cur, rfl, hg, hcs⟩
  subst he
  have hxs : xs[j]? = w.cell? ⟨g, j, none⟩ := (hown.cellAt j (by omega)).symm
  by_cases hroom : n + m ≤ cap0
  · have hr2 := run_append_room (P := Tryd.prog) w t ty e i ht hi g n cap0 cur hg a m c news (by rw [hsize]; exact hl) hnews h1 hroom (by rw [hsize, hl, hcs, ← Nat.add_mul]; exact Nat.mul_le_mul_right _ hroom)
    rw [hr] at hr2
    injection hr2 with e1 e2
    obtain ⟨rfl, -⟩ : g' = g ∧ True := by
      simp only [Value.slice.injEq, Option.some.injEq, Addr.mk.injEq, and_true, true_and] at e1
      exact ⟨e1.1, trivial⟩
    rw [h2.cellAt j (by omega), List.getElem?_append_left (by rw [hown.1]; omega), hxs]
  · have hr2 := run_append_grow (P := Tryd.prog) w t ty e i z ht hi hz ⟨g, 0, none⟩ n cap0 xs (by rw [hsize]; exact hown.1) (hown.cells (g := g) rfl) a m c news (by rw [hsize]; exact hl) hnews (by omega) (by omega) (growslice_fits (by omega) (by rw [hby]; exact hbytes))
    rw [hr] at hr2
    injection hr2 with e1 e2
    have hb : Below w.heap.size w w' := by
      rw [e2]
      exact ((Below.refl w.heap.size w).drew).alloc (Nat.le_refl _) _
    rw [(bcell hb).1 _ _ hgl]
theorem wp_append_keep2 {w : World} {o : Oper} {a : Act} {K : Act → World → Prop} {Q : Exit → Act → World → Prop} (s x : Operand) (t : TypeId)
    (ho : o.op = .call { callee := .builtin .append, args := #[s, x], argTypes := #[t, t] })
    (B : Nat) (e : TypeId) (i : TypeInfo) (z : Value) (bytes : Nat) (ht : Tryd.prog.underlying t = some (.slice e)) (hi : Tryd.prog.info? e = some i) (hz : i.zero = some z)
    (hsize : i.size = 2) (hby : i.bytes = bytes) (hzs : z.cells.size = 2) (g n cap : Nat) (xs : List Value) (hs : a.eval s = .slice (some ⟨g, 0, none⟩) n cap) (hown : w.ownsRow B e 2 (.slice (some ⟨g, 0, none⟩) n cap) n xs) (hn : 0 < n)
    (ad : Addr) (m c : Nat) (news : List Value) (hx : a.eval x = .slice (some ad) m c) (hl : news.length = m * 2) (hnews : ∀ j u, news[j]? = some u → w.cell? (ad.add j) = some u) (h1 : ∀ u ∈ news, u.oneCell' = true) (hm : 0 < m)
    (h63 : n + m ≤ maxLen) (hbytes : (n + m) * bytes ≤ 140737488355328) (hbase : B ≤ w.heap.size)
    (h : ∀ g' cap' w', w'.ownsRow B e 2 (.slice (some ⟨g', 0, none⟩) (n + m) cap') (n + m) (xs ++ news) → w.grownBy w' (some g) → (∀ j, j < n * 2 → w'.cell? ⟨g, j, none⟩ = w.cell? ⟨g, j, none⟩) → (g' = g ∨ g' = w.heap.size) → K (a.put o.dst (.slice (some ⟨g', 0, none⟩) (n + m) cap')) w') : o.wp Tryd.prog a w K Q := by
  obtain ⟨g', cap', w', hr, h2, h3, h4, h5⟩ := append_keep2 w t o.type B e i z bytes ht hi hz hsize hby hzs g n cap xs hown hn ad m c news hl hnews h1 hm h63 hbytes hbase
  unfold Oper.wp execOp
  simp only [ho, resolve, invoke, builtin, Sem.run_bind, Sem.run_pure, Result.andThen_ok, List.map_toArray, List.map_cons, List.map_nil, hs, hx, hr]
  exact h g' cap' w' h2 h3 h4 h5
set_option maxRecDepth 100000 in
set_option maxHeartbeats 8000000 in
theorem l6tAll_c (n : Nat) (w : World) (hn : n ≤ 8) : Calls Tryd.prog 37 #[.int .i64 n] w fun e w' => ∃ v, e = .returned v ∧ OwnG w.heap.size v (allT n) w' ∧ Below w.heap.size w w' := by
  obtain ⟨i0, hi, hz0, hz1, hz2⟩ := info_parts infoG
  go_enter Tryd.func37, Tryd.ntmps37
  go_wp2_with fail
  generalize hW : World.alloc _ _ = W0
  have o1 : Own2 W0 (w.heap.size + 1) 1 0 := by
    rw [← hW]
    have h := Own2.fresh (w.alloc (.cells #[.int .i64 0, .int .i64 0] 29)) 1 0 29
    rw [alloc_size] at h
    exact h
  have r0 : W0.ownsRow w.heap.size 29 2 (.slice (some ⟨w.heap.size, 0, none⟩) 1 1) 1 (gcells [(0, 0)]) := by
    rw [← hW]
    refine own_below ?_ ((Below.refl _ _).alloc (Nat.le_refl _) _)
    exact World.ownsRow_lit w #[.int .i64 0, .int .i64 0] 1 (Nat.le_refl _) (by unfold maxLen; omega) rfl
  have hB0 : Below w.heap.size w W0 := by rw [← hW]; (first | ((repeat' with_reducible first | assumption | exact Below.refl _ _ | apply Blw.alloc | apply Blw.drew | apply Blw.drewN | (refine Blw.after ?_ (by assumption)) | (refine Blw.set ?_ (by first | (dsimp only; omega) | (simp; omega)) _)); done) | (repeat' (first | assumption | exact Below.refl _ _ | apply Blw.alloc | apply Blw.drew | apply Blw.drewN | (refine Blw.after ?_ (by assumption)) | (refine Blw.set ?_ (by first | (dsimp only; omega) | (simp; done) | (simp; omega)) _))))
  clear hW
  go_loopg [3, 5] n (fun m v i wr => AllRel n w m v i wr)
  case atStart => exact ⟨0, w.heap.size, 1, by omega, rfl, rfl, r0, by omega, o1, hB0⟩
  case round =>
    clear o1 r0 hB0
    obtain ⟨k, g, cap, hk, rfl, rfl, hown, hg, O1, hB⟩ := hrel
    have zr := hB.size
    obtain ⟨gk0, hgk0⟩ : ∃ gk0, gk0 = gk := ⟨_, rfl⟩
    have HGK := Lib.hid hgk0
    rw [← hgk0] at hk
    clear hgk0
    by_cases hlt : k < n
    · have HS := Lib.hid (show allT (k + 1) = allT k ++ (allT k).map (fun z => addP z (bpw k)) from rfl)
      have hLl := allT_len k
      have hL1 : 1 ≤ (allT k).length := by rw [hLl]; exact Nat.one_le_two_pow
      have hL2 : (allT k).length ≤ 256 := by
        rw [hLl]
        have h1 : 2 ^ k ≤ 2 ^ 8 := Nat.pow_le_pow_right (by omega) (by omega)
        have h2 : (2 : Nat) ^ 8 = 256 := by decide
        omega
      have HLI := Lib.hid (allT_in (n := k) (by omega))
      have hb := bpw_in (n := k) (by omega)
      have HBN := Lib.hid (show bpw (k + 1) = (-(bpw k).1 - (bpw k).2, (bpw k).1 - (bpw k).2) by show sd (bpw k) 0 = _; simp [sd])
      generalize allT k = L at *
      generalize bpw k = p at *
      obtain ⟨A, C⟩ := p
      dsimp only at *
      have n1 : -4096 ≤ A ∧ A ≤ 4096 ∧ -4096 ≤ C ∧ C ≤ 4096 := by omega
      have S0 := Lib.hid (show MidRel L (A, C) w L.length (.slice (some ⟨g, 0, none⟩) L.length cap) (.int .i64 0) wr from ⟨0, g, cap, L.length, by omega, by omega, rfl, rfl, by rw [midL_zero]; exact hown, hg, O1, hB⟩)
      clear hb hLl hown O1 hB hg
      go_wp2_with fail
      go_loopg [3, 7] L.length (fun m v i wr => MidRel L (A, C) w m v i wr)
      case atStart => exact S0.out
      case round =>
        clear S0
        obtain ⟨j, g, cap, N, hj, hN, rfl, rfl, hown, hg, O1, hB⟩ := hrel
        have zr := hB.size
        by_cases hlt2 : j < L.length
        · have hc := gget (L := L) (p := (A, C)) (k := j) hlt2
          have c0 : wr.cell? ⟨g, j * 2, none⟩ = some (.int .i64 L[j].1) := (hown.cellAt _ (by omega)).trans hc.1
          have c1 : wr.cell? ⟨g, j * 2 + 1, none⟩ = some (.int .i64 L[j].2) := (hown.cellAt _ (by omega)).trans hc.2
          have hx := HLI.out L[j] (List.getElem_mem hlt2)
          have HMS := Lib.hid (midL_succ L (A, C) j hlt2)
          have HML := Lib.hid (midL_len L (A, C) j (by omega))
          have HO := Lib.hid hown
          have HJ := Lib.hid (show j + 1 + (gk - 1) = L.length by omega)
          have HN := Lib.hid hN
          have hNb : N ≤ 512 := by omega
          have hgk : 1 ≤ gk := by omega
          have hjN : j < N := by omega
          clear hc hown hj hN
          generalize L[j].1 = X at *
          generalize L[j].2 = Y at *
          have n2 : -200 ≤ X ∧ X ≤ 200 ∧ -200 ≤ Y ∧ Y ≤ 200 := by omega
          clear hx
          generalize hMM : midL L (A, C) j = M at *
          clear hMM
          go_upto_region 10 with fail
          have hd : Below wr.heap.size wr wr.drew := (Below.refl _ _).drew
          refine wp_region_held_drew (S := fun w' => w'.cell? ⟨g, j * 2, none⟩ = some (.int .i64 X) ∧ w'.cell? ⟨g, j * 2 + 1, none⟩ = some (.int .i64 Y) ∧ Own2 w' (w.heap.size + 1) A C) (by kernel_rfl) ⟨keepcell hd c0, keepcell hd c1, O1.below hd O1.lt⟩ ?_
          intro hS0
          have HOd := Lib.hid (own_below HO.out hd)
          have hBd : Below w.heap.size w wr.drew := Blw.after hB hd
          have zd : w.heap.size ≤ wr.drew.heap.size := hBd.size
          generalize wr.drew = V0 at *
          clear hd c0 c1 HO hB O1
          refine wpAnyH_take (i := 1) (v := ?_) rfl (by kernel_rfl) (by kernel_rfl) (by kernel_rfl) (fun _ _ _ h => h) (Or.inl ⟨by rfl, ?_⟩) hS0 ?_
          case refine_1 => exact Value.slice (some ⟨g, 0, none⟩) N cap
          · intro wq hSw; go_simp
          refine wpAnyH_take (i := 2) (v := ?_) rfl (by kernel_rfl) (by kernel_rfl) (by kernel_rfl) (fun _ _ _ h => h) (Or.inl ⟨by rfl, ?_⟩) hS0 ?_
          case refine_1 => exact .int .i64 (j : Nat)
          · intro wq hSw; go_simp
          refine wpAnyH_take (i := 3) (v := ?_) rfl (by kernel_rfl) (by kernel_rfl) (by kernel_rfl) (fun _ _ _ h => h) (Or.inl ⟨by rfl, ?_⟩) hS0 ?_
          case refine_1 => exact .pointer (some ⟨g, j * 2, none⟩)
          · intro wq hSw; go_simp
          refine wpAnyH_take (i := 4) (v := ?_) rfl (by kernel_rfl) (by kernel_rfl) (by kernel_rfl) (fun _ _ _ h => h) (Or.inl ⟨by rfl, ?_⟩) hS0 ?_
          case refine_1 => exact .pointer (some ⟨g, j * 2, none⟩)
          · intro wq hSw; go_simp
          refine wpAnyH_take (i := 5) (v := ?_) rfl (by kernel_rfl) (by kernel_rfl) (by kernel_rfl) (fun _ _ _ h => h) (Or.inl ⟨by rfl, ?_⟩) hS0 ?_
          case refine_1 => exact .int .i64 X
          · rintro wq ⟨hSw, _⟩; go_simp
          refine wpAnyH_take (i := 6) (v := ?_) rfl (by kernel_rfl) (by kernel_rfl) (by kernel_rfl) (fun _ _ _ h => h) (Or.inl ⟨by rfl, ?_⟩) hS0 ?_
          case refine_1 => exact .pointer (some ⟨w.heap.size + 1, 0, none⟩)
          · intro wq hSw; go_simp
          refine wpAnyH_take (i := 7) (v := ?_) rfl (by kernel_rfl) (by kernel_rfl) (by kernel_rfl) (fun _ _ _ h => h) (Or.inl ⟨by rfl, ?_⟩) hS0 ?_
          case refine_1 => exact .int .i64 A
          · rintro wq ⟨_, _, ⟨hSw, _, _, _⟩⟩; go_simp
          refine wpAnyH_take (i := 8) (v := ?_) rfl (by kernel_rfl) (by kernel_rfl) (by kernel_rfl) (fun _ _ _ h => h) (Or.inl ⟨by rfl, ?_⟩) hS0 ?_
          case refine_1 => exact .int .i64 (X + A)
          · intro wq hSw; go_simp; exact IntWalk.i64_in _ (by omega)
          refine wpAnyH_take (i := 9) (v := ?_) rfl (by kernel_rfl) (by kernel_rfl) (by kernel_rfl) (fun _ _ _ h => h) (Or.inl ⟨by rfl, ?_⟩) hS0 ?_
          case refine_1 => exact Value.slice (some ⟨g, 0, none⟩) N cap
          · intro wq hSw; go_simp
          refine wpAnyH_take (i := 10) (v := ?_) rfl (by kernel_rfl) (by kernel_rfl) (by kernel_rfl) (fun _ _ _ h => h) (Or.inl ⟨by rfl, ?_⟩) hS0 ?_
          case refine_1 => exact .int .i64 (j : Nat)
          · intro wq hSw; go_simp
          refine wpAnyH_take (i := 11) (v := ?_) rfl (by kernel_rfl) (by kernel_rfl) (by kernel_rfl) (fun _ _ _ h => h) (Or.inl ⟨by rfl, ?_⟩) hS0 ?_
          case refine_1 => exact .pointer (some ⟨g, j * 2, none⟩)
          · intro wq hSw; go_simp
          refine wpAnyH_take (i := 12) (v := ?_) rfl (by kernel_rfl) (by kernel_rfl) (by kernel_rfl) (fun _ _ _ h => h) (Or.inl ⟨by rfl, ?_⟩) hS0 ?_
          case refine_1 => exact .pointer (some ⟨g, j * 2 + 1, none⟩)
          · intro wq hSw; go_simp
          refine wpAnyH_take (i := 13) (v := ?_) rfl (by kernel_rfl) (by kernel_rfl) (by kernel_rfl) (fun _ _ _ h => h) (Or.inl ⟨by rfl, ?_⟩) hS0 ?_
          case refine_1 => exact .int .i64 Y
          · rintro wq ⟨_, hSw, _⟩; go_simp
          refine wpAnyH_take (i := 14) (v := ?_) rfl (by kernel_rfl) (by kernel_rfl) (by kernel_rfl) (fun _ _ _ h => h) (Or.inl ⟨by rfl, ?_⟩) hS0 ?_
          case refine_1 => exact .pointer (some ⟨w.heap.size + 1, 1, none⟩)
          · intro wq hSw; go_simp
          refine wpAnyH_take (i := 15) (v := ?_) rfl (by kernel_rfl) (by kernel_rfl) (by kernel_rfl) (fun _ _ _ h => h) (Or.inl ⟨by rfl, ?_⟩) hS0 ?_
          case refine_1 => exact .int .i64 C
          · rintro wq ⟨_, _, ⟨_, hSw, _, _⟩⟩; go_simp
          refine wpAnyH_take (i := 16) (v := ?_) rfl (by kernel_rfl) (by kernel_rfl) (by kernel_rfl) (fun _ _ _ h => h) (Or.inl ⟨by rfl, ?_⟩) hS0 ?_
          case refine_1 => exact .int .i64 (Y + C)
          · intro wq hSw; go_simp; exact IntWalk.i64_in _ (by omega)
          refine wpAnyH_take (i := 17) (v := ?_) rfl (by kernel_rfl) (by kernel_rfl) (by kernel_rfl) (fun _ _ _ h => h) (Or.inl ⟨by rfl, ?_⟩) hS0 ?_
          case refine_1 => exact .agg #[.int .i64 (X + A), .int .i64 (Y + C)]
          · intro wq hSw; go_simp
          refine wpAnyH_take (i := 0) (v := ?_) rfl (by kernel_rfl) (by kernel_rfl) (by kernel_rfl) (fun _ _ _ h => h) (Or.inl ⟨by rfl, ?_⟩) hS0 ?_
          rotate_left
          · intro wq hSw; go_simp; rfl
          refine wpAnyH_ready (rs := [18]) (by kernel_rfl) (by simp) ?_
          refine AllReadyH.cons rfl (fun K hK => ?_) AllReadyH.nil
          rw [if_pos ?hw]
          case hw => kernel_rfl
          go_wp2_with fail
          have hk1 : Below V0.heap.size V0 (V0.alloc (.cells #[.int .i64 (X + A), .int .i64 (Y + C)] 29)) := (Below.refl _ _).alloc (Nat.le_refl _) _
          have hS1 : (V0.alloc (.cells #[.int .i64 (X + A), .int .i64 (Y + C)] 29)).cell? ⟨g, j * 2, none⟩ = some (.int .i64 X) ∧ (V0.alloc (.cells #[.int .i64 (X + A), .int .i64 (Y + C)] 29)).cell? ⟨g, j * 2 + 1, none⟩ = some (.int .i64 Y) ∧ Own2 (V0.alloc (.cells #[.int .i64 (X + A), .int .i64 (Y + C)] 29)) (w.heap.size + 1) A C := ⟨keepcell hk1 hS0.1, keepcell hk1 hS0.2.1, hS0.2.2.alloc _⟩
          refine hK.out _ _ hS1 ?_
          clear hK K hk1
          intro _
          refine wpAnyH_ready (rs := [19]) (by kernel_rfl) (by simp) ?_
          refine AllReadyH.cons rfl (fun K hK => ?_) AllReadyH.nil
          rw [if_pos ?hw]
          case hw => kernel_rfl
          refine wp_append_keep2 _ _ 24 rfl w.heap.size 29 i0 (.agg #[.int .i64 0, .int .i64 0]) 16 Tryd.underlying24 hi hz0 hz1 hz2 rfl g N cap _ rfl (HOd.out.alloc _) (by omega) ⟨V0.heap.size, 0, none⟩ 1 1 [.int .i64 (X + A), .int .i64 (Y + C)] rfl rfl (cells2 _ _ _ _) (two1 _ _ rfl rfl) (by omega) (by unfold maxLen; omega) (by omega) (by simp; omega) ?_
          intro g' cap' W7 hown' hgrow hkeep hg'
          have hpb := hS1.2.2.lt
          have hB7 : Below w.heap.size w W7 := Below.grown (by (first | ((repeat' with_reducible first | assumption | exact Below.refl _ _ | apply Blw.alloc | apply Blw.drew | apply Blw.drewN | (refine Blw.after ?_ (by assumption)) | (refine Blw.set ?_ (by first | (dsimp only; omega) | (simp; omega)) _)); done) | (repeat' (first | assumption | exact Below.refl _ _ | apply Blw.alloc | apply Blw.drew | apply Blw.drewN | (refine Blw.after ?_ (by assumption)) | (refine Blw.set ?_ (by first | (dsimp only; omega) | (simp; done) | (simp; omega)) _))))) hgrow (by simp; omega) (fun k hk => by cases hk; exact (HOd.out.lt g rfl).1)
          have hS7 : W7.cell? ⟨g, j * 2, none⟩ = some (.int .i64 X) ∧ W7.cell? ⟨g, j * 2 + 1, none⟩ = some (.int .i64 Y) ∧ Own2 W7 (w.heap.size + 1) A C :=
            ⟨(hkeep _ (by omega)).trans hS1.1, (hkeep _ (by omega)).trans hS1.2.1, ⟨hgrow.cell hS1.2.2.c0 (fun e => hg (Option.some.inj e).symm), hgrow.cell hS1.2.2.c1 (fun e => hg (Option.some.inj e).symm), (World.frozen?_of_block (hgrow.block _ hpb (fun e => hg (Option.some.inj e).symm))).trans hS1.2.2.f0, (World.frozen?_of_block (hgrow.block _ hpb (fun e => hg (Option.some.inj e).symm))).trans hS1.2.2.f1⟩⟩
          have HO7 := Lib.hid hown'
          have HG7 := Lib.hid (show g' ≠ w.heap.size + 1 from by
            rcases hg' with h | h
            · rw [h]; exact hg
            · have := hS0.2.2.lt; rw [alloc_size] at h; omega)
          clear hgrow hown' HOd hBd hkeep hg'
          refine hK.out _ _ hS7 ?_
          clear hK K
          intro _
          refine wpAnyH_ready (rs := [20]) (by kernel_rfl) (by simp) ?_
          refine AllReadyH.cons rfl (fun K hK => ?_) AllReadyH.nil
          rw [if_pos ?hw]
          case hw => kernel_rfl
          go_simp
          refine hK.out _ _ hS7 ?_
          clear hK K
          intro _
          refine wpAnyH_done (by kernel_rfl) ?_ _
          go_wp2_with fail
          go_roundg (gk - 1)
          case measure => omega
          case rel => exact ⟨j + 1, g', cap', N + 1, HJ.out, by have := HN.out; omega, by go_num, rfl, by rw [HMS.out, gcells_snoc]; exact HO7.out, HG7.out, hS7.2.2, hB7⟩
        · have HLN := Lib.hid (show k + 1 + (gk0 - 1) = n by omega)
          obtain rfl : j = L.length := by omega
          have HO := Lib.hid hown
          have HX := Lib.hid (And.intro O1 hB)
          obtain ⟨p0, p1, f40, f41⟩ := id O1
          have hLP := O1.lt
          have HE := Lib.hid (show g ≠ w.heap.size + 1 from hg)
          have HNN := Lib.hid (show N = (allT (k + 1)).length by rw [HS.out, List.length_append, List.length_map]; omega)
          have HMA := Lib.hid (midL_all L (A, C))
          clear hown hg O1 hj hN
          go_wp2
          go_roundg (gk0 - 1)
          case measure => have := HGK.out; omega
          case rel =>
            obtain ⟨hO, hB⟩ := HX.out
            refine ⟨k + 1, g, cap, by omega, by go_num, ?_, ?_, HE.out, ?_, by (first | ((repeat' with_reducible first | assumption | exact Below.refl _ _ | apply Blw.alloc | apply Blw.drew | apply Blw.drewN | (refine Blw.after ?_ (by assumption)) | (refine Blw.set ?_ (by first | (dsimp only; omega) | (simp; omega)) _)); done) | (repeat' (first | assumption | exact Below.refl _ _ | apply Blw.alloc | apply Blw.drew | apply Blw.drewN | (refine Blw.after ?_ (by assumption)) | (refine Blw.set ?_ (by first | (dsimp only; omega) | (simp; done) | (simp; omega)) _))))⟩
            · rw [HNN.out]
            · have ho := HO.out
              rw [HMA.out, ← HS.out] at ho
              rw [← HNN.out]
              exact own_setNe (own_setNe ho HE.out _) HE.out _
            · rw [HBN.out]; dsimp only; ((try simp only [Nat.add_assoc, Nat.reduceAdd]) <;> (repeat with_reducible first | assumption | exact Own2.x (by assumption) | apply Own2X.put | (refine Own2.set ?_ (by omega)) | (refine Own2.alloc ?_ _) | (refine Own2X.set ?_ (by omega)) | (refine Own2X.alloc ?_ _)))
    · obtain rfl : k = n := by omega
      have HX := Lib.hid (own_slice hown rfl)
      clear hown
      go_wp2_with fail
      go_ret
      exact ⟨_, rfl, HX.out, hB⟩
end Go.Proofs.YtjjpjjoadphapaaDoor

namespace Go.Proofs.YtjjpjjoadphapaaDoor
set_option linter.unusedSimpArgs false
set_option linter.unusedVariables false
open Go.RowKit Ieee
open Go.ChangeMaps Go.MapKept

theorem lenE {α : Type} {P : Program} {M k el ty : TypeId} {enc : α → Value} (hM : P.underlying M = some (.map k el)) (w : World) {b c : Nat} {E : List (En α)} (hb : w.heap[b]? = some (.map (mkA enc E) c)) :
    (Builtin.len_ #[M] ty #[.map (some b)]).run P w = .ok (.int .i64 (E.length : Int)) w := by
  simp [Builtin.len_, run_underlying hM, Go.MapKept.run_getObj_map hb, goInt, Result.andThen, mkA]
set_option maxRecDepth 100000 in
theorem sTilePoints_c (a : Int) (w : World) : Calls Tryd.prog 18 #[.int .i64 a] w (PtsPost a w) := by
  rcases Bool.eq_false_or_eq_true (inR 0 8 a) with h1 | h1
  · have H1 := inR_le h1
    have HT := Lib.hid (show ptsT a = allT a.toNat by unfold ptsT; rw [if_pos h1])
    have HH := Lib.hid h1
    obtain ⟨n, rfl⟩ : ∃ n : Nat, a = (n : Int) := ⟨a.toNat, by omega⟩
    rw [Int.toNat_natCast] at HT
    go_enter Tryd.func18, Tryd.ntmps18
    go_wp2_with (first | (go_at_call 36; refine (l6In_c _ _ _ _).mono ?_; rintro e w1 ⟨rfl, rfl⟩) | (go_at_call 37; fail))
    refine (l6tAll_c n w (by omega)).mono ?_
    rintro e w1 ⟨v, rfl, ho, hb⟩
    have HO := Lib.hid ho
    clear ho
    go_wp2_with fail
    go_ret2
    exact ⟨v, by rw [HH.out]; rfl, by rw [HT.out]; exact HO.out, hb⟩
  · have HT := Lib.hid (show ptsT a = [] by unfold ptsT; rw [if_neg (by rw [h1]; decide)])
    have HH := Lib.hid h1
    go_enter Tryd.func18, Tryd.ntmps18
    go_wp2_with (first | (go_at_call 36; refine (l6In_c _ _ _ _).mono ?_; rintro e w1 ⟨rfl, rfl⟩))
    go_ret2
    exact ⟨_, by rw [HH.out]; rfl, by rw [HT.out]; exact ⟨_, _, rfl, Or.inl rfl, Or.inl rfl⟩, by (first | ((repeat' with_reducible first | assumption | exact Below.refl _ _ | apply Blw.alloc | apply Blw.drew | apply Blw.drewN | (refine Blw.after ?_ (by assumption)) | (refine Blw.set ?_ (by first | (dsimp only; omega) | (simp; omega)) _)); done) | (repeat' (first | assumption | exact Below.refl _ _ | apply Blw.alloc | apply Blw.drew | apply Blw.drewN | (refine Blw.after ?_ (by assumption)) | (refine Blw.set ?_ (by first | (dsimp only; omega) | (simp; done) | (simp; omega)) _))))⟩
/-- the numbers that have come lie at their indexes -/
def Put (g : Nat) (D : List (En ZZ)) (w : World) : Prop := ∀ x ∈ D, w.cell? ⟨g, x.1 * 2, none⟩ = some (.int .i64 x.2.1.1) ∧ w.cell? ⟨g, x.1 * 2 + 1, none⟩ = some (.int .i64 x.2.1.2)
def There (g n : Nat) (w : World) : Prop := ∀ j, j < n → (∃ u, w.cell? ⟨g, j, none⟩ = some u)
def TpRel (n : Nat) (w : World) (g r : Nat) (m : Nat) (wr : World) : Prop :=
  ∃ D R, R.length = m ∧ IterAt encP wr w.heap.size r (tlE n (2 ^ n)) (2 ^ n) D R ∧ Put g D wr ∧ There g (2 ^ n * 2) wr ∧ (∀ j, wr.frozen? ⟨g, j, none⟩ = false) ∧ Below w.heap.size w wr
theorem Put.keep {g : Nat} {D : List (En ZZ)} {w w' : World} (h : Put g D w) (hc : ∀ j u, w.cell? ⟨g, j, none⟩ = some u → w'.cell? ⟨g, j, none⟩ = some u) : Put g D w' := fun x hx => ⟨hc _ _ (h x hx).1, hc _ _ (h x hx).2⟩
theorem There.keep {g n : Nat} {w w' : World} (h : There g n w) (hc : ∀ j u, w.cell? ⟨g, j, none⟩ = some u → w'.cell? ⟨g, j, none⟩ = some u) : There g n w' := fun j hj => by
  obtain ⟨u, hu⟩ := h j hj; exact ⟨u, hc j u hu⟩
theorem IterAt.lt {α : Type} {enc : α → Value} {w : World} {b r c : Nat} {E D R : List (En α)} (h : IterAt enc w b r E c D R) : b < w.heap.size ∧ r < w.heap.size ∧ r ≠ b := by
  obtain ⟨since, seen, c0, hb, hr, _⟩ := h
  exact ⟨(Array.getElem?_eq_some_iff.1 hb).1, (Array.getElem?_eq_some_iff.1 hr).1, fun e => by rw [e, hb] at hr; cases hr⟩
theorem IterAt.below {α : Type} {enc : α → Value} {w w' : World} {b r c : Nat} {E D R : List (En α)} (h : IterAt enc w b r E c D R) (hb : Below w.heap.size w w') : IterAt enc w' b r E c D R :=
  h.kept (row := none) ⟨hb.os, hb.tape, hb.output, hb.size, fun i hi _ => hb.block i hi⟩ (by simp) (by simp)
theorem IterAt.set {α : Type} {enc : α → Value} {w : World} {b r c : Nat} {E D R : List (En α)} (h : IterAt enc w b r E c D R) {a : Addr} (h1 : b ≠ a.block) (h2 : r ≠ a.block) (v : Value) : IterAt enc (w.setCell a v) b r E c D R := by
  obtain ⟨since, seen, c0, hb, hr, rest⟩ := h
  exact ⟨since, seen, c0, (Below.heap_setCell _ _ _ _ h1).trans hb, (Below.heap_setCell _ _ _ _ h2).trans hr, rest⟩
end Go.Proofs.YtjjpjjoadphapaaDoor

namespace Go.Proofs.YtjjpjjoadphapaaDoor
set_option linter.unusedSimpArgs false
set_option linter.unusedVariables false
open Go.RowKit Ieee
open Go.ChangeMaps Go.MapKept

set_option maxRecDepth 100000 in
theorem clone_c (n b : Nat) (w : World) (hm : TileAt n w b) : Calls Tryd.prog 26 #[.map (some b)] w fun e w' => e = .returned (.map (some w.heap.size)) ∧ w' = w.alloc (.map (mkA encP (tlE n (2 ^ n))) (2 ^ n)) := by
  have HM := Lib.hid hm
  clear hm
  go_enter Tryd.func26, Tryd.ntmps26
  have hq := fun w => run_eql_map_nil_sl (P := Tryd.prog) w 34 _ _ (some b) Tryd.underlying34
  go_wp2
  rw [run_callFunc_extern Tryd.func44 (by kernel_rfl) (by kernel_rfl) (by kernel_rfl) (e := Extern.MapsClone.clone) (by kernel_rfl), run_maps_clone_sl w 34 HM.out]
  simp only [Result.andThen]
  rw [Oper.upon_value]
  go_wp2
  rw [run_typeAssert_map_sl _ 34 _ _ _ _ Tryd.underlying34]
  simp only [Result.andThen]
  rw [Oper.upon_value]
  go_wp2
  go_ret
  exact ⟨rfl, rfl⟩
/-- the entries that have not been struck: D has been looked at -/
def rimE (n : Nat) (D : List (En ZZ)) : List (En ZZ) := (tlE n (2 ^ n)).filter fun y => !(decide (outs n y.2.1 = []) && D.any fun x => decide (x.2.1 = y.2.1))
/-- the rim's entries -/
def rimF (n : Nat) : List (En ZZ) := (tlE n (2 ^ n)).filter fun y => !decide (outs n y.2.1 = [])
theorem rimE_nil (n : Nat) : rimE n [] = tlE n (2 ^ n) := by
  unfold rimE
  rw [List.filter_eq_self]
  intro y _
  simp
theorem rimE_in {n : Nat} {D : List (En ZZ)} {x : En ZZ} (h : outs n x.2.1 = []) : rimE n (D ++ [x]) = (rimE n D).filter (fun y => !decide (y.2.1 = x.2.1)) := by
  unfold rimE
  rw [List.filter_filter]
  congr 1
  funext y
  rw [List.any_append]
  by_cases e : y.2.1 = x.2.1
  · rw [e, h]; simp
  · have e2 : ¬ x.2.1 = y.2.1 := fun h => e h.symm
    simp [e, e2]
theorem rimE_out {n : Nat} {D : List (En ZZ)} {x : En ZZ} (h : ¬ outs n x.2.1 = []) : rimE n (D ++ [x]) = rimE n D := by
  unfold rimE
  congr 1
  funext y
  rw [List.any_append]
  by_cases e : x.2.1 = y.2.1
  · rw [← e]; simp [h]
  · simp [e]
theorem rimE_all {n : Nat} {D : List (En ZZ)} (h : D.Perm (tlE n (2 ^ n))) : rimE n D = rimF n := by
  unfold rimE rimF
  refine List.filter_congr fun y hy => ?_
  have : D.any (fun x => decide (x.2.1 = y.2.1)) = true := List.any_eq_true.2 ⟨y, h.mem_iff.2 hy, by simp⟩
  rw [this, Bool.and_true]
theorem rimE_sub (n : Nat) (D : List (En ZZ)) : (rimE n D).Sublist (tlE n (2 ^ n)) := List.filter_sublist
def RmRel (n b c r : Nat) (w : World) (m : Nat) (wr : World) : Prop :=
  ∃ D R, R.length = m ∧ IterAt encP wr b r (tlE n (2 ^ n)) (2 ^ n) D R ∧ wr.heap[c]? = some (.map (mkA encP (rimE n D)) (2 ^ n)) ∧ Below w.heap.size w wr
def RimPost (n : Nat) (w : World) (e : Ending) (w' : World) : Prop := e = .returned (.map (some w.heap.size)) ∧ w'.heap[w.heap.size]? = some (.map (mkA encP (rimF n)) (2 ^ n)) ∧ Below w.heap.size w w'
set_option maxRecDepth 100000 in
set_option maxHeartbeats 4000000 in
theorem rimOf_c (n b : Nat) (w : World) (hn : n ≤ 8) (hm : TileAt n w b) : Calls Tryd.prog 11 #[.map (some b)] w (RimPost n w) := by
  have HM := Lib.hid hm
  have Lb : b < w.heap.size := (Array.getElem?_eq_some_iff.1 hm).1
  clear hm
  go_enter Tryd.func11, Tryd.ntmps11
  go_wp2_with fail
  refine (clone_c n b w HM.out).mono ?_
  rintro e w1 ⟨rfl, hw1⟩
  have HM1 := Lib.hid (show TileAt n w1 b by rw [hw1]; exact ((MapKept.heap_alloc w _).2 b Lb).trans HM.out)
  have HC1 := Lib.hid (show w1.heap[w.heap.size]? = some (.map (mkA encP (tlE n (2 ^ n))) (2 ^ n)) by rw [hw1]; exact (MapKept.heap_alloc w _).1)
  have HB1 := Lib.hid (show Below w.heap.size w w1 by rw [hw1]; (first | ((repeat' with_reducible first | assumption | exact Below.refl _ _ | apply Blw.alloc | apply Blw.drew | apply Blw.drewN | (refine Blw.after ?_ (by assumption)) | (refine Blw.set ?_ (by first | (dsimp only; omega) | (simp; omega)) _)); done) | (repeat' (first | assumption | exact Below.refl _ _ | apply Blw.alloc | apply Blw.drew | apply Blw.drewN | (refine Blw.after ?_ (by assumption)) | (refine Blw.set ?_ (by first | (dsimp only; omega) | (simp; done) | (simp; omega)) _)))))
  have L1 : w.heap.size < w1.heap.size := by rw [hw1, alloc_size]; omega
  clear hw1
  go_wp2_with (first | (at_range; refine wpList_rangeE (M := 34) (enc := encP) _ rfl _ rfl Tryd.underlying34 b (2 ^ n) (tlE n (2 ^ n)) rfl HM1.out (fun x hx => by obtain ⟨i, hi, rfl⟩ := tlE_mem.1 hx; exact hi) (tlE_nodup _ _) ?_; intro w3 hit hg3 hs3) | fail)
  go_frame
  have HB3 := Lib.hid (show Below w.heap.size w w3 from Below.grown HB1.out hg3 HB1.out.size (fun k hk => by cases hk))
  have HC3 := Lib.hid (show w3.heap[w.heap.size]? = some (.map (mkA encP (rimE n [])) (2 ^ n)) by rw [rimE_nil]; exact (hg3.block _ (by omega) (by simp)).trans HC1.out)
  have S0 := Lib.hid (show RmRel n b w.heap.size w1.heap.size w (2 ^ n) w3 from ⟨[], _, tlE_len _ _, hit, HC3.out, HB3.out⟩)
  clear hit hg3 hs3
  go_loopg [] (2 ^ n) (fun m wr => RmRel n b w.heap.size w1.heap.size w m wr)
  case atStart => exact S0.out
  case round =>
    clear S0
    obtain ⟨D, R, hR, hit, hc, hBw⟩ := hrel
    obtain ⟨Lbr, Lr, hrb⟩ := hit.lt
    have HI := Lib.hid hit
    have HX := Lib.hid (And.intro hc hBw)
    have HR := Lib.hid hR
    have Lc : w.heap.size < wr.heap.size := (Array.getElem?_eq_some_iff.1 hc).1
    clear hit hc hBw hR
    go_wp2_with (first | (at_next; refine wpList_nextE (enc := encP) _ rfl _ rfl b w1.heap.size (2 ^ n) (tlE n (2 ^ n)) D R rfl HI.out ?_ ?_) | fail)
    · intro hR0 hp
      have HP := Lib.hid (rimE_all hp)
      clear hR0 hp
      go_wp2
      go_ret
      exact ⟨rfl, by rw [← HP.out]; exact HX.out.1, HX.out.2⟩
    · intro i X Y v w4 R' hx hit4 hlt hperm hg4 hs4 hen
      obtain ⟨i', hi, he⟩ := tlE_mem.1 (HI.out.mem hx)
      simp only [Prod.mk.injEq] at he
      obtain ⟨rfl, hz, rfl⟩ := he
      obtain ⟨hc, hBw⟩ := HX.out
      have ht := tp_in hn hi
      rw [← hz] at ht
      have HM4 := Lib.hid (show TileAt n w4 b from hit4.map)
      have HO := Lib.hid (outside_c n b (X, Y) w4 hn ⟨Nat.le_trans ht.1 (by omega), Nat.le_trans ht.2 (by omega)⟩ HM4.out)
      have HK := Lib.hid (show okP (X, Y) from ⟨Nat.le_trans ht.1 (by omega), Nat.le_trans ht.2 (by omega)⟩)
      have hB4 := Lib.hid (show Below w.heap.size w w4 from Below.grown hBw hg4 hBw.size (fun k hk => by cases hk; omega))
      have hc4 := Lib.hid (show w4.heap[w.heap.size]? = some (.map (mkA encP (rimE n D)) (2 ^ n)) from (hg4.block _ Lc (by first | (simp; done) | (simp; omega))).trans hc)
      have Lc4 : w.heap.size < w4.heap.size := by omega
      have HIT := Lib.hid hit4
      have HLT := Lib.hid hlt
      clear hx hit4 hlt hperm hg4 hc hBw ht hz hi
      go_wp2_with fail
      refine HO.out.mono ?_
      rintro e w5 ⟨v, rfl, hown, hb5⟩
      have HIT5 := Lib.hid (HIT.out.below hb5)
      have HB5 := Lib.hid (Blw.after hB4.out hb5)
      have HC5 := Lib.hid ((hb5.block _ Lc4).trans hc4.out)
      have L5 := hb5.size
      have hsh : (v = .slice none 0 0 ∧ outs n (X, Y) = []) ∨ ∃ g cap, v = .slice (some ⟨g, 0, none⟩) (outs n (X, Y)).length cap := by
        rcases hown.2 with ⟨h1, h2⟩ | ⟨g, cap, _, h1, _⟩
        · exact Or.inl ⟨h1, List.eq_nil_of_length_eq_zero h2⟩
        · exact Or.inr ⟨g, cap, h1⟩
      clear hown hb5
      by_cases hin : outs n (X, Y) = []
      · have HE := Lib.hid (rimE_in (D := D) (x := (i, (X, Y), .int .i64 (i : Int))) hin)
        have h0 : (outs n (X, Y)).length = 0 := by rw [hin]; rfl
        rw [h0] at hsh
        have hsh2 : ∃ a cap, v = .slice a 0 cap := by
          rcases hsh with ⟨rfl, -⟩ | ⟨g, cap, rfl⟩ <;> exact ⟨_, _, rfl⟩
        obtain ⟨a1, cap, rfl⟩ := hsh2
        clear hsh h0 hin
        go_wp2_with (first | (at_delete; refine wpList_deleteE (enc := encP) (ok := okP) _ rfl _ _ rfl Tryd.underlying34 keyP w.heap.size (2 ^ n) (rimE n D) (X, Y) rfl rfl HC5.out HK.out (fun y hy => tlE_ok hn (Nat.le_refl _) y ((rimE_sub n D).subset hy)) (((rimE_sub n D).map _).nodup tlE_keys) ?_; go_frame) | fail)
        go_wp2_with fail
        go_roundg R'.length
        case measure => have := HLT.out; have := HR.out; omega
        case rel =>
          refine ⟨_, R', rfl, HIT5.out.kept (row := some w.heap.size) ⟨rfl, rfl, rfl, by simp [setBlock], fun k _ hk => heap_setBlock_other HC5.out _ (fun e => hk (by rw [e]))⟩ (by simp; omega) (by simp; omega), ?_, Below.map HB5.out (Nat.le_refl _) HC5.out⟩
          rw [HE.out]; exact heap_setBlock_same HC5.out _
      · have HE := Lib.hid (rimE_out (D := D) (x := (i, (X, Y), .int .i64 (i : Int))) hin)
        obtain ⟨g, cap, rfl⟩ := hsh.resolve_left (fun h => hin h.2)
        have h0 : ¬ (outs n (X, Y)).length = 0 := fun h => hin (List.eq_nil_of_length_eq_zero h)
        clear hsh hin
        generalize (outs n (X, Y)).length = ln at *
        go_wp2_with fail
        go_roundg R'.length
        case measure => have := HLT.out; have := HR.out; omega
        case rel => exact ⟨_, R', rfl, HIT5.out, by rw [HE.out]; exact HC5.out, HB5.out⟩
end Go.Proofs.YtjjpjjoadphapaaDoor

namespace Go.Proofs.YtjjpjjoadphapaaDoor
set_option linter.unusedSimpArgs false
set_option linter.unusedVariables false
open Go.RowKit Ieee
open Go.ChangeMaps Go.MapKept

def sumO (n : Nat) (D : List (En ZZ)) : Nat := (D.map fun x => (outs n x.2.1).length).sum
def edN (n : Nat) : Nat := ((List.range (2 ^ n)).map fun i => (outs n (tp n i)).length).sum
theorem sumO_snoc (n : Nat) (D : List (En ZZ)) (x : En ZZ) : sumO n (D ++ [x]) = sumO n D + (outs n x.2.1).length := by simp [sumO]
theorem outs_len (n : Nat) (z : ZZ) : (outs n z).length ≤ 4 := outsN_len n z 4
theorem sumO_le (n : Nat) (D : List (En ZZ)) : sumO n D ≤ 4 * D.length := by
  induction D with
  | nil => simp [sumO]
  | cons x r ih =>
    have := outs_len n x.2.1
    have e : sumO n (x :: r) = (outs n x.2.1).length + sumO n r := by simp [sumO]
    rw [e, List.length_cons]; omega
theorem sumO_perm {n : Nat} {D E : List (En ZZ)} (h : D.Perm E) : sumO n D = sumO n E := by
  induction h with
  | nil => rfl
  | cons x _ ih => have e : ∀ r, sumO n (x :: r) = (outs n x.2.1).length + sumO n r := fun r => by simp [sumO]
                   rw [e, e, ih]
  | swap x y l => simp only [sumO, List.map_cons, List.sum_cons]; omega
  | trans _ _ h1 h2 => exact h1.trans h2
theorem sumO_rim (n : Nat) : sumO n (rimF n) = edN n := by
  have key : ∀ L : List (En ZZ), sumO n (L.filter fun y => !decide (outs n y.2.1 = [])) = sumO n L := by
    intro L
    induction L with
    | nil => rfl
    | cons x r ih =>
      have e : ∀ r, sumO n (x :: r) = (outs n x.2.1).length + sumO n r := fun r => by simp [sumO]
      rw [List.filter_cons]
      by_cases h : outs n x.2.1 = []
      · rw [if_neg (by simp [h]), e, ih, h]; simp
      · rw [if_pos (by simp [h]), e, e, ih]
  unfold rimF
  rw [key]
  unfold sumO tlE edN
  rw [List.map_map]; rfl
theorem edN_all : ∀ n ∈ List.range 9, edN n % 2 = 0 ∧ 4 ≤ edN n ∧ edN n ≤ 4 * 2 ^ n := by decide +kernel
def edO (a : Int) : Nat := if inR 0 8 a = true then edN a.toNat else 0
abbrev edV (a : Int) : Value := .tuple #[.int .i64 (edO a : Nat), .bool (inR 0 8 a)]
def EiRel (n b r : Nat) (w : World) (m : Nat) (v : Value) (wr : World) : Prop :=
  ∃ D R, R.length = m ∧ IterAt encP wr b r (rimF n) (2 ^ n) D R ∧ TileAt n wr w.heap.size ∧ v = .int .i64 (sumO n D : Nat) ∧ Below w.heap.size w wr
end Go.Proofs.YtjjpjjoadphapaaDoor

namespace Go.Proofs.YtjjpjjoadphapaaDoor
set_option linter.unusedSimpArgs false
set_option linter.unusedVariables false
open Go.RowKit Ieee

/-- a slice of the four near numbers -/
def NrAt (g : Nat) (z : ZZ) (w : World) : Prop := ∀ (k : Nat) (x y : Int), (nrT z)[k]? = some (x, y) → w.cell? ⟨g, k * 2, none⟩ = some (.int .i64 x) ∧ w.cell? ⟨g, k * 2 + 1, none⟩ = some (.int .i64 y)
theorem NrAt.keep {g : Nat} {z : ZZ} {w w' : World} (h : NrAt g z w) (hb : Below w.heap.size w w') : NrAt g z w' := fun k x y hk => ⟨keepcell hb (h k x y hk).1, keepcell hb (h k x y hk).2⟩
set_option maxRecDepth 100000 in
set_option maxHeartbeats 4000000 in
theorem l6tNear_c (x y : Int) (w : World) (h : x.natAbs ≤ 1000 ∧ y.natAbs ≤ 1000) : Calls Tryd.prog 19 #[pr x y] w fun e w' => ∃ g, e = .returned (.slice (some ⟨g, 0, none⟩) 4 4) ∧ NrAt g (x, y) w' ∧ Below w.heap.size w w' := by
  have h1 : -1000 ≤ x ∧ x ≤ 1000 ∧ -1000 ≤ y ∧ y ≤ 1000 := by omega
  clear h
  go_enter Tryd.func19, Tryd.ntmps19
  go_wp2
  go_ret
  refine ⟨_, rfl, ?_, by (first | ((repeat' with_reducible first | assumption | exact Below.refl _ _ | apply Blw.alloc | apply Blw.drew | apply Blw.drewN | (refine Blw.after ?_ (by assumption)) | (refine Blw.set ?_ (by first | (dsimp only; omega) | (simp; omega)) _)); done) | (repeat' (first | assumption | exact Below.refl _ _ | apply Blw.alloc | apply Blw.drew | apply Blw.drewN | (refine Blw.after ?_ (by assumption)) | (refine Blw.set ?_ (by first | (dsimp only; omega) | (simp; done) | (simp; omega)) _))))⟩
  intro k a b hk
  have hk4 : k < 4 := (List.getElem?_eq_some_iff.1 hk).1
  obtain rfl | rfl | rfl | rfl : k = 0 ∨ k = 1 ∨ k = 2 ∨ k = 3 := by omega
  all_goals
    simp only [nrT, List.getElem?_cons_zero, List.getElem?_cons_succ, Option.some.injEq, Prod.mk.injEq] at hk
    obtain ⟨rfl, rfl⟩ := hk
    constructor <;> go_simp
def EsRel (n N : Nat) (w : World) (m : Nat) (v i : Value) (wr : World) : Prop :=
  ∃ k : Nat, k + m = N ∧ i = .int .i64 k ∧ v = .int .i64 (sumO n (tlE n k) : Nat) ∧ Below w.heap.size w wr
def EkRel (n c : Nat) (z : ZZ) (w : World) (m : Nat) (v i : Value) (wr : World) : Prop :=
  ∃ k : Nat, k + m = 4 ∧ i = .int .i64 k ∧ v = .int .i64 (c + (outsN n z k).length : Nat) ∧ Below w.heap.size w wr
theorem hasT_near {n : Nat} {p : ZZ} (hn : n ≤ 8) (hp : p.1.natAbs ≤ 1000 ∧ p.2.natAbs ≤ 1000) : hasT n p.1 p.2 = decide (qn n p = (0, 0)) := by
  simp only [hasT, okT, Int.toNat_natCast]
  have h1 : inR 0 12 (n : Int) = true := by simp only [inR, Bool.and_eq_true, decide_eq_true_eq]; omega
  have h2 : inB 1000000 p.1 p.2 = true := by simp only [inB, inR, Bool.and_eq_true, decide_eq_true_eq]; omega
  rw [h1, h2]; rfl
theorem sumO_all (n : Nat) : sumO n (tlE n (2 ^ n)) = edN n := by
  unfold sumO tlE edN
  rw [List.map_map]; rfl
theorem nrT_in {z : ZZ} (h : z.1.natAbs ≤ 200 ∧ z.2.natAbs ≤ 200) : ∀ p ∈ nrT z, p.1.natAbs ≤ 1000 ∧ p.2.natAbs ≤ 1000 := by
  intro p hp
  simp only [nrT, List.mem_cons, List.not_mem_nil, or_false] at hp
  rcases hp with rfl | rfl | rfl | rfl <;> dsimp only <;> omega
end Go.Proofs.YtjjpjjoadphapaaDoor

namespace Go.Proofs.YtjjpjjoadphapaaDoor
set_option linter.unusedSimpArgs false
set_option linter.unusedVariables false
open Go.RowKit

/-- a Gaussian number as the value of a struct -/
def encG (z : Int × Int) : Value := .agg #[.int .i64 z.1, .int .i64 z.2]
theorem keyG : KeyOk Tryd.prog 29 encG (fun _ => True) where
  eq := fun w a b _ _ => by
    refine Exists.intro (decide (a.1 = b.1) && decide (a.2 = b.2)) (And.intro ?_ ?_)
    · simp only [Bool.and_eq_true, decide_eq_true_eq]
      exact ⟨fun h => Prod.ext h.1 h.2, fun h => by rw [h]; exact ⟨rfl, rfl⟩⟩
    · obtain ⟨a1, a2⟩ := a
      obtain ⟨b1, b2⟩ := b
      change (Op.equalIn (9998 + 1 + 1) 29 (.agg #[.int .i64 a1, .int .i64 a2]) (.agg #[.int .i64 b1, .int .i64 b2])).run Tryd.prog w = _
      by_cases h1 : a1 = b1 <;> by_cases h2 : a2 = b2 <;> simp only [h1, h2] <;> go_simp <;> simp_all
  under := ⟨_, Tryd.underlying29, fun a b => rfl⟩
  check := fun w em a _ => by
    obtain ⟨a1, a2⟩ := a
    change (Instr.checkKey em (9998 + 1 + 1) 29 (.agg #[.int .i64 a1, .int .i64 a2])).run Tryd.prog w = _
    have hi : ∀ (x : Int) (w : World), (Instr.checkKey em (9998 + 1) 3 (.int .i64 x)).run Tryd.prog w = .ok () w := fun x w => by
      rw [Instr.checkKey]
      simp [run_underlying Tryd.underlying3]
    rw [Instr.checkKey]
    go_simp
  bits := fun a => by
    change Instr.sameBits (9998 + 1 + 1) (.agg #[.int .i64 a.1, .int .i64 a.2]) (.agg #[.int .i64 a.1, .int .i64 a.2]) = true
    simp [Instr.sameBits]
end Go.Proofs.YtjjpjjoadphapaaDoor

namespace Go.Proofs.YtjjpjjoadphapaaDoor
set_option linter.unusedSimpArgs false
set_option linter.unusedVariables false
open Go.RowKit Go.Sort

/-- whole numbers compared -/
def cmpI (x y : Int) : Int := if x < y then -1 else if y < x then 1 else 0
/-- the first that isn't 0 -/
def orI (x y : Int) : Int := if x = 0 then y else x

theorem isNaN_c (x : Int) (w : World) : Calls Tryd.prog 52 #[.int .i64 x] w fun e w' => e = .returned (.bool false) ∧ w = w' := by
  go_enter Tryd.func52, Tryd.ntmps52
  go_wp2
  go_ret
  exact ⟨by simp, rfl⟩
theorem compare_c (x y : Int) (w : World) : Calls Tryd.prog 35 #[.int .i64 x, .int .i64 y] w fun e w' => e = .returned (.int .i64 (cmpI x y)) ∧ w = w' := by
  unfold cmpI
  by_cases h1 : x < y
  · rw [if_pos h1]
    go_enter Tryd.func35, Tryd.ntmps35
    go_wp2_with (go_at_call 52; refine (isNaN_c _ _).mono ?_; rintro e w1 ⟨rfl, rfl⟩)
    go_ret
    exact ⟨rfl, rfl⟩
  · rw [if_neg h1]
    by_cases h2 : y < x
    · rw [if_pos h2]
      go_enter Tryd.func35, Tryd.ntmps35
      go_wp2_with (go_at_call 52; refine (isNaN_c _ _).mono ?_; rintro e w1 ⟨rfl, rfl⟩)
      go_ret
      exact ⟨rfl, rfl⟩
    · rw [if_neg h2]
      go_enter Tryd.func35, Tryd.ntmps35
      go_wp2_with (go_at_call 52; refine (isNaN_c _ _).mono ?_; rintro e w1 ⟨rfl, rfl⟩)
      go_ret
      exact ⟨rfl, rfl⟩
def OrRel (a b : Int) (w : World) (m : Nat) (i : Value) (wr : World) : Prop := ∃ k : Nat, k + m = 2 ∧ i = .int .i64 k ∧ wr = w ∧ ((k = 0 ∨ a = 0) ∧ (k ≤ 1 ∨ b = 0))
theorem or_c (g : Nat) (a b : Int) (w : World) (h0 : w.cell? ⟨g, 0, none⟩ = some (.int .i64 a)) (h1 : w.cell? ⟨g, 1, none⟩ = some (.int .i64 b)) : Calls Tryd.prog 34 #[.slice (some ⟨g, 0, none⟩) 2 2] w fun e w' => e = .returned (.int .i64 (orI a b)) ∧ w = w' := by
  have Lg : g < w.heap.size := World.block_lt_of_cell? w _ h0
  go_enter Tryd.func34, Tryd.ntmps34
  go_wp2
  go_loopg [8] 2 (fun m i wr => OrRel a b w m i wr)
  case atStart => exact ⟨0, by omega, rfl, rfl, Or.inl rfl, Or.inl (by omega)⟩
  case round =>
    obtain ⟨k, hk, rfl, rfl, hb⟩ := hrel
    have hk3 : k = 0 ∨ k = 1 ∨ k = 2 := by omega
    rcases hk3 with rfl | rfl | rfl
    · clear hb
      by_cases ha : a = 0
      · subst ha
        go_wp2
        go_roundg (gk - 1)
        case measure => omega
        case rel => exact ⟨1, by omega, rfl, rfl, Or.inr rfl, Or.inl (by omega)⟩
      · have ha1 : (a != 0) = true := by simp [ha]
        have HV := Lib.hid (show orI a b = a by simp [orI, ha])
        clear ha
        go_wp2
        go_ret
        exact ⟨by rw [HV.out]; rfl, rfl⟩
    · have ha : a = 0 := by omega
      subst ha
      clear hb
      by_cases hb0 : b = 0
      · subst hb0
        go_wp2
        go_roundg (gk - 1)
        case measure => omega
        case rel => exact ⟨2, by omega, rfl, rfl, Or.inr rfl, Or.inr rfl⟩
      · have hb1 : (b != 0) = true := by simp [hb0]
        clear hb0
        go_wp2
        go_ret
        exact ⟨by simp [orI], rfl⟩
    · have ha : a = 0 := by omega
      have hb0 : b = 0 := by omega
      subst ha hb0
      clear hb
      go_wp2
      go_ret
      exact ⟨by simp [orI], rfl⟩
/-- Gaussian numbers by their real parts, and then by their imaginary ones -/
def cmpG (x y : Int × Int) : Int := orI (cmpI x.1 y.1) (cmpI x.2 y.2)
set_option maxHeartbeats 1000000 in
theorem byParts_c (x y : Int × Int) (w : World) : Calls Tryd.prog 17 #[encG x, encG y] w fun e w' => e = .returned (.int .i64 (cmpG x y)) ∧ ∃ q os', w' = grow (w.drewN q) os' := by
  obtain ⟨x1, x2⟩ := x
  obtain ⟨y1, y2⟩ := y
  simp only [encG, cmpG]
  have HC1 := Lib.hid (fun w => compare_c x1 y1 w)
  have HC2 := Lib.hid (fun w => compare_c x2 y2 w)
  have HOr := Lib.hid (fun g a b w h0 h1 => or_c g a b w h0 h1)
  generalize cmpI x1 y1 = r1 at *
  generalize cmpI x2 y2 = r2 at *
  go_enter Tryd.func17, Tryd.ntmps17
  go_upto_region 1 with fail
  generalize hWW : World.alloc _ _ = W0
  have hGr : ∃ os, W0 = grow w os := ⟨_, by rw [← hWW, alloc_eq_grow, alloc_eq_grow, grow_grow]⟩
  have kW0_1 : W0.cell? ⟨w.heap.size, 0, none⟩ = some (.int .i64 x1) := by rw [← hWW]; clear hWW; first | (go_simp; done) | ((repeat refine keepcell ((Below.refl _ _).alloc (Nat.le_refl _) _) ?_); go_simp; done)
  have kW0_2 : W0.cell? ⟨w.heap.size, 1, none⟩ = some (.int .i64 x2) := by rw [← hWW]; clear hWW; first | (go_simp; done) | ((repeat refine keepcell ((Below.refl _ _).alloc (Nat.le_refl _) _) ?_); go_simp; done)
  have kW0_3 : W0.cell? ⟨w.heap.size + 1, 0, none⟩ = some (.int .i64 y1) := by rw [← hWW]; clear hWW; first | (go_simp; done) | ((repeat refine keepcell ((Below.refl _ _).alloc (Nat.le_refl _) _) ?_); go_simp; done)
  have kW0_4 : W0.cell? ⟨w.heap.size + 1, 1, none⟩ = some (.int .i64 y2) := by rw [← hWW]; clear hWW; first | (go_simp; done) | ((repeat refine keepcell ((Below.refl _ _).alloc (Nat.le_refl _) _) ?_); go_simp; done)
  clear hWW
  obtain ⟨os0, hGr⟩ := hGr
  have hd : RowKit.Below W0.heap.size W0 W0.drew := (Below.refl _ _).drew
  refine wp_region_held_drew (S := fun w' => ((w'.cell? ⟨w.heap.size, 0, none⟩ = some (.int .i64 x1) ∧ w'.cell? ⟨w.heap.size, 1, none⟩ = some (.int .i64 x2)) ∧ (w'.cell? ⟨w.heap.size + 1, 0, none⟩ = some (.int .i64 y1) ∧ w'.cell? ⟨w.heap.size + 1, 1, none⟩ = some (.int .i64 y2)))) (by kernel_rfl) ⟨⟨keepcell hd kW0_1, keepcell hd kW0_2⟩, ⟨keepcell hd kW0_3, keepcell hd kW0_4⟩⟩ ?_
  intro hS0
  have HG := Lib.hid (show ∃ q os, W0.drew = grow (w.drewN q) os from ⟨1, os0, by rw [hGr]; rfl⟩)
  generalize W0.drew = V0 at *
  clear hd hGr kW0_1 kW0_2 kW0_3 kW0_4
  refine wpAnyH_take (i := 0) (v := ?_) rfl (by kernel_rfl) (by kernel_rfl) (by kernel_rfl) (fun _ _ _ h => h) (Or.inl ⟨by rfl, ?_⟩) hS0 ?_
  case refine_1 => exact .pointer (some ⟨w.heap.size, 0, none⟩)
  · intro wq hSw; go_simp
  refine wpAnyH_take (i := 1) (v := ?_) rfl (by kernel_rfl) (by kernel_rfl) (by kernel_rfl) (fun _ _ _ h => h) (Or.inl ⟨by rfl, ?_⟩) hS0 ?_
  case refine_1 => exact .int .i64 x1
  · rintro wq ⟨⟨hSw, _⟩, _⟩; go_simp
  refine wpAnyH_take (i := 2) (v := ?_) rfl (by kernel_rfl) (by kernel_rfl) (by kernel_rfl) (fun _ _ _ h => h) (Or.inl ⟨by rfl, ?_⟩) hS0 ?_
  case refine_1 => exact .pointer (some ⟨w.heap.size + 1, 0, none⟩)
  · intro wq hSw; go_simp
  refine wpAnyH_take (i := 3) (v := ?_) rfl (by kernel_rfl) (by kernel_rfl) (by kernel_rfl) (fun _ _ _ h => h) (Or.inl ⟨by rfl, ?_⟩) hS0 ?_
  case refine_1 => exact .int .i64 y1
  · rintro wq ⟨_, hSw, _⟩; go_simp
  refine wpAnyH_take (i := 5) (v := ?_) rfl (by kernel_rfl) (by kernel_rfl) (by kernel_rfl) (fun _ _ _ h => h) (Or.inl ⟨by rfl, ?_⟩) hS0 ?_
  case refine_1 => exact .pointer (some ⟨w.heap.size, 1, none⟩)
  · intro wq hSw; go_simp
  refine wpAnyH_take (i := 6) (v := ?_) rfl (by kernel_rfl) (by kernel_rfl) (by kernel_rfl) (fun _ _ _ h => h) (Or.inl ⟨by rfl, ?_⟩) hS0 ?_
  case refine_1 => exact .int .i64 x2
  · rintro wq ⟨⟨_, hSw⟩, _⟩; go_simp
  refine wpAnyH_take (i := 7) (v := ?_) rfl (by kernel_rfl) (by kernel_rfl) (by kernel_rfl) (fun _ _ _ h => h) (Or.inl ⟨by rfl, ?_⟩) hS0 ?_
  case refine_1 => exact .pointer (some ⟨w.heap.size + 1, 1, none⟩)
  · intro wq hSw; go_simp
  refine wpAnyH_take (i := 8) (v := ?_) rfl (by kernel_rfl) (by kernel_rfl) (by kernel_rfl) (fun _ _ _ h => h) (Or.inl ⟨by rfl, ?_⟩) hS0 ?_
  case refine_1 => exact .int .i64 y2
  · rintro wq ⟨_, _, hSw⟩; go_simp
  refine wpAnyH_ready (rs := [4]) (by kernel_rfl) (by simp) ?_
  refine AllReadyH.cons rfl (fun K hK => ?_) AllReadyH.nil
  rw [if_pos ?hw]
  case hw => kernel_rfl
  go_wp2_with fail
  refine (HC1.out _).mono ?_
  rintro e w1 ⟨rfl, rfl⟩
  go_wp2_with fail
  refine hK _ _ hS0 ?_
  clear hK K
  intro _
  refine wpAnyH_ready (rs := [9]) (by kernel_rfl) (by simp) ?_
  refine AllReadyH.cons rfl (fun K hK => ?_) AllReadyH.nil
  rw [if_pos ?hw]
  case hw => kernel_rfl
  go_wp2_with fail
  refine (HC2.out _).mono ?_
  rintro e w1 ⟨rfl, rfl⟩
  go_wp2_with fail
  refine hK _ _ hS0 ?_
  clear hK K
  intro _
  refine wpAnyH_ready (rs := [10]) (by kernel_rfl) (by simp) ?_
  refine AllReadyH.cons rfl (fun K hK => ?_) AllReadyH.nil
  rw [if_pos ?hw]
  case hw => kernel_rfl
  go_wp2_with fail
  have hk1 : RowKit.Below V0.heap.size V0 (V0.alloc (.cells #[.int .i64 r1, .int .i64 r2] 3)) := (Below.refl _ _).alloc (Nat.le_refl _) _
  have hS1 := And.intro (And.intro (keepcell hk1 hS0.1.1) (keepcell hk1 hS0.1.2)) (And.intro (keepcell hk1 hS0.2.1) (keepcell hk1 hS0.2.2))
  have hc0 : (V0.alloc (.cells #[.int .i64 r1, .int .i64 r2] 3)).cell? ⟨V0.heap.size, 0, none⟩ = some (.int .i64 r1) := by go_simp
  have hc1 : (V0.alloc (.cells #[.int .i64 r1, .int .i64 r2] 3)).cell? ⟨V0.heap.size, 1, none⟩ = some (.int .i64 r2) := by go_simp
  have HG1 := Lib.hid (show ∃ q os, V0.alloc (.cells #[.int .i64 r1, .int .i64 r2] 3) = grow (w.drewN q) os from by
    obtain ⟨q, os, h⟩ := HG.out
    exact ⟨q, _, by rw [alloc_eq_grow, h, grow_grow]⟩)
  clear hk1 hS0 HG HC1 HC2
  refine hK _ _ hS1 ?_
  clear hK K
  intro _
  generalize V0.alloc (.cells #[.int .i64 r1, .int .i64 r2] 3) = V1 at *
  generalize V0.heap.size = g at *
  refine wpAnyH_ready (rs := [11]) (by kernel_rfl) (by simp) ?_
  refine AllReadyH.cons rfl (fun K hK => ?_) AllReadyH.nil
  rw [if_pos ?hw]
  case hw => kernel_rfl
  go_wp2_with fail
  refine (HOr.out _ _ _ _ hc0 hc1).mono ?_
  rintro e w1 ⟨rfl, rfl⟩
  go_wp2_with fail
  refine hK _ _ hS1 ?_
  clear hK K
  intro _
  refine wpAnyH_ready (rs := [12]) (by kernel_rfl) (by simp) ?_
  refine AllReadyH.cons rfl (fun K hK => ?_) AllReadyH.nil
  rw [if_pos ?hw]
  case hw => kernel_rfl
  go_wp2_with fail
  refine hK _ _ hS1 ?_
  clear hK K
  intro _
  refine wpAnyH_done (by kernel_rfl) ?_ _
  go_wp2
  go_ret
  exact ⟨rfl, HG1.out⟩
/-- less by the parts: a total order -/
def ltG (x y : Int × Int) : Bool := decide (x.1 < y.1) || (decide (x.1 = y.1) && decide (x.2 < y.2))
theorem cmpG_lt (x y : Int × Int) : decide (cmpG x y < 0) = ltG x y := by
  unfold cmpG orI cmpI ltG
  by_cases h1 : x.1 < y.1
  · simp [h1]
  · by_cases h2 : y.1 < x.1
    · simp [h1, h2]; omega
    · have h3 : x.1 = y.1 := by omega
      by_cases h4 : x.2 < y.2
      · simp [h3, h4]
      · by_cases h5 : y.2 < x.2 <;> simp [h3, h4, h5]
theorem swoG : SWO ltG where
  irrefl x := by simp [ltG]
  trans x y z h1 h2 := by simp [ltG] at *; omega
  ntrans x y z h1 h2 := by simp [ltG] at *; omega
theorem ltG_total (x y : Int × Int) (h1 : ltG x y = false) (h2 : ltG y x = false) : x = y := by
  simp [ltG] at h1 h2
  exact Prod.ext (by omega) (by omega)
end Go.Proofs.YtjjpjjoadphapaaDoor

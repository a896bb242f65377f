/- Merged texts: Mr Reg Ga Ya Yb DMath Yd Oo Da Dit DNum Gc Math Gd De De2. No law is stated here. -/
import Derived.Test.YtmondgcehgmamaaGreatDoorRows
import Derived.Maps.RangeWalk
import Derived.Tactics2
import Derived.Orders
import Derived.OrdersHeld
import Derived.Below
import Derived.WalkKit
import Derived.Deep.Quiet
import Derived.ProofKit
import Derived.WalkSpells
import Derived.WalkLawsBesides
import Derived.Lib.Hide
import Derived.Laws.ResultCell
import Derived.Defers
import Derived.Recover
import Derived.WalkSmall
import Derived.Lib.Split
import Derived.Lib.SplitLaws
import Derived.Lib.IndexMore
import Derived.Laws.RangeString
import Derived.Laws.RangeAny
import Derived.Deep.LoopGhost
import Derived.Lib.OthersKept
import Derived.Outline
import Derived.KernelRfl
import Derived.StillTailTactics
namespace Go.Proofs.YtmondgcehgmamaaGreatDoor
set_option linter.unusedSimpArgs false
set_option linter.unusedVariables false
open Go.RowKit
open Go.ChangeMaps Go.MapKept Go.WideShapes

/-- what a type's keys must keep -/
structure KeyOk {α : Type} (P : Program) (T : TypeId) (enc : α → Value) (ok : α → Prop) : Prop where
  eq : ∀ (w : World) (a b : α), ok a → ok b → ∃ q : Bool, (q = true ↔ a = b) ∧ (Op.equal T (enc a) (enc b)).run P w = .ok q w
  under : ∃ d, P.underlying T = some d ∧ ∀ a b, Instr.sameNow d (enc a) (enc b) = none
  check : ∀ (w : World) (em : Bool) (a : α), ok a → (Instr.checkKey em 10000 T (enc a)).run P w = .ok () w
  bits : ∀ a, Instr.sameBits 10000 (enc a) (enc a) = true

/-- an entry: its stamp, its key, its value -/
abbrev En (α : Type) := Nat × α × Value
section
variable {α : Type}
def mk1 (enc : α → Value) (x : En α) : MapEntry := { key := enc x.2.1, val := x.2.2, born := x.1 }
def mkA (enc : α → Value) (E : List (En α)) : Array MapEntry := (E.map (mk1 enc)).toArray
def fndE [DecidableEq α] (a : α) : List (En α) → Nat → Option (Nat × Value)
  | [], _ => none
  | x :: r, i => if a = x.2.1 then some (i, x.2.2) else fndE a r (i + 1)
def hasE [DecidableEq α] (E : List (En α)) (a : α) : Bool := E.any fun x => decide (a = x.2.1)
section
variable [DecidableEq α]
theorem hasE_iff (E : List (En α)) (a : α) : hasE E a = true ↔ ∃ x ∈ E, a = x.2.1 := by simp [hasE]
theorem fndE_none {a : α} (E : List (En α)) : ∀ i, hasE E a = false → fndE a E i = none := by
  induction E with
  | nil => intro i _; rfl
  | cons x r ih =>
    intro i h
    simp only [hasE, List.any_cons, Bool.or_eq_false_iff, decide_eq_false_iff_not] at h
    unfold fndE
    rw [if_neg h.1]
    exact ih _ h.2
theorem fndE_some {a : α} (E : List (En α)) : ∀ i, hasE E a = true → ∃ j x, fndE a E i = some (i + j, x.2.2) ∧ E[j]? = some x ∧ x.2.1 = a := by
  induction E with
  | nil => intro i h; simp [hasE] at h
  | cons x r ih =>
    intro i h
    unfold fndE
    by_cases e : a = x.2.1
    · rw [if_pos e]; exact ⟨0, x, rfl, rfl, e.symm⟩
    · rw [if_neg e]
      obtain ⟨j, y, h1, h2, h3⟩ := ih (i + 1) (by simpa [hasE, e] using h)
      exact ⟨j + 1, y, by rw [h1]; congr 2; omega, h2, h3⟩
omit [DecidableEq α] in
theorem map_er {β : Type} (f : En α → β) : ∀ (L : List (En α)) (j : Nat), (L.map f).eraseIdx j = (L.eraseIdx j).map f
  | [], _ => by simp
  | _ :: _, 0 => by simp
  | y :: r, j + 1 => by simp [map_er f r j]
theorem erase_at {E : List (En α)} {j : Nat} {x : En α} (hn : (E.map (fun y => y.2.1)).Nodup) (h : E[j]? = some x) : E.eraseIdx j = E.filter (fun y => !decide (y.2.1 = x.2.1)) := by
  induction E generalizing j with
  | nil => simp
  | cons y r ih =>
    obtain ⟨h1, h2⟩ := List.nodup_cons.1 hn
    dsimp only at h1
    cases j with
    | zero =>
      simp only [List.getElem?_cons_zero, Option.some.injEq] at h
      subst h
      simp only [List.eraseIdx_cons_zero]
      rw [List.filter_cons, if_neg (by simp)]
      symm
      rw [List.filter_eq_self]
      intro z hz
      simp only [Bool.not_eq_eq_eq_not, Bool.not_true, decide_eq_false_iff_not]
      exact fun e => h1 (by rw [← e]; exact List.mem_map.2 ⟨z, hz, rfl⟩)
    | succ j =>
      simp only [List.getElem?_cons_succ] at h
      rw [List.eraseIdx_cons_succ, ih h2 h, List.filter_cons, if_pos]
      have hx : x ∈ r := List.mem_of_getElem? h
      simp only [Bool.not_eq_eq_eq_not, Bool.not_true, decide_eq_false_iff_not]
      exact fun e => h1 (by rw [e]; exact List.mem_map.2 ⟨x, hx, rfl⟩)
variable {P : Program} {M T el : TypeId} {enc : α → Value} {ok : α → Prop}
theorem askE (K : KeyOk P T enc ok) (w : World) {a : α} (ha : ok a) (E : List (En α)) : ∀ i, (∀ x ∈ E, ok x.2.1) → (Instr.findAsking T (enc a) (E.map (mk1 enc)) i).run P w = .ok (fndE a E i) w := by
  induction E with
  | nil => intro i _; rfl
  | cons x r ih =>
    intro i hB
    obtain ⟨q, hq, h1⟩ := K.eq w a x.2.1 ha (hB x (by simp))
    unfold fndE
    have hk : (mk1 enc x).key = enc x.2.1 := rfl
    have hv : (mk1 enc x).val = x.2.2 := rfl
    show (Instr.findAsking T (enc a) (mk1 enc x :: r.map (mk1 enc)) i).run P w = _
    unfold Instr.findAsking
    by_cases e : a = x.2.1
    · rw [if_pos e]
      rw [hq.2 e] at h1
      simp [hk, hv, h1]
    · rw [if_neg e]
      have hq0 : q = false := by
        cases q with
        | false => rfl
        | true => exact absurd (hq.1 rfl) e
      rw [hq0] at h1
      have h2 := ih (i + 1) (fun y hy => hB y (by simp [hy]))
      simp [hk, h1, h2]
theorem findE (K : KeyOk P T enc ok) (w : World) {a : α} (ha : ok a) (E : List (En α)) (hB : ∀ x ∈ E, ok x.2.1) : (Instr.findKey T (enc a) (E.map (mk1 enc))).run P w = .ok (fndE a E 0) w := by
  have h := askE K w ha E 0 hB
  obtain ⟨d, hd, hn⟩ := K.under
  unfold Instr.findKey
  cases E with
  | nil => simp [run_underlying hd, Instr.findNow, fndE]
  | cons x r =>
    have e : Instr.findNow d (enc a) ((x :: r).map (mk1 enc)) 0 = none := by simp [mk1, Instr.findNow, hn]
    simp only [Sem.run_bind, run_underlying hd, Result.andThen, e]
    exact h
/-- '_, has := m[k]' -/
theorem lookE (hM : P.underlying M = some (.map T el)) (K : KeyOk P T enc ok) {zv : Value} (w : World) (hz0 : (zeroValue el).run P w = .ok zv w) {b c : Nat} {E : List (En α)} (hb : w.heap[b]? = some (.map (mkA enc E) c)) {a : α} (ha : ok a) (hB : ∀ x ∈ E, ok x.2.1) :
    ∃ v, (Instr.lookup M (.map (some b)) (enc a) true).run P w = .ok (.tuple #[v, .bool (hasE E a)]) w := by
  have h1 := findE K w ha E hB
  have h1' : (Instr.findKey T (enc a) (mkA enc E).toList).run P w = .ok (fndE a E 0) w := h1
  unfold Instr.lookup
  rcases Bool.eq_false_or_eq_true (hasE E a) with hh | hh
  · obtain ⟨j, x, h2, _, _⟩ := fndE_some E 0 hh
    rw [h2] at h1'
    exact ⟨x.2.2, by rw [hh]; simp [run_underlying hM, Go.MapKept.run_getObj_map hb, K.check w _ a ha, h1']⟩
  · rw [fndE_none E 0 hh] at h1'
    exact ⟨zv, by rw [hh]; simp [run_underlying hM, Go.MapKept.run_getObj_map hb, K.check w _ a ha, h1', hz0]⟩
/-- a key that isn't there is laid at the end -/
theorem newE (hM : P.underlying M = some (.map T el)) (K : KeyOk P T enc ok) (w : World) {b c : Nat} {E : List (En α)} (hb : w.heap[b]? = some (.map (mkA enc E) c)) {a : α} (ha : ok a) (hB : ∀ x ∈ E, ok x.2.1) (hh : hasE E a = false) (v : Value) :
    (Instr.mapUpdate M (.map (some b)) (enc a) v).run P w = .ok () (setBlock w b (.map (mkA enc (E ++ [(c, a, v)])) (c + 1))) := by
  have h1 : (Instr.findKey T (enc a) (mkA enc E).toList).run P w = .ok (fndE a E 0) w := findE K w ha E hB
  rw [fndE_none E 0 hh] at h1
  have e2 : (mkA enc E).push { key := enc a, val := v, born := c } = mkA enc (E ++ [(c, a, v)]) := by simp [mkA, mk1]
  unfold Instr.mapUpdate
  simp [run_underlying hM, Go.MapKept.run_getObj_map hb, K.check w _ a ha, h1, Go.MapKept.run_setObj_map _ hb, e2, setBlock]
/-- a key that is there, with the value that it has: the map reads on as it did -/
theorem sameE (hM : P.underlying M = some (.map T el)) (K : KeyOk P T enc ok) (w : World) {b c : Nat} {E : List (En α)} (hb : w.heap[b]? = some (.map (mkA enc E) c)) {a : α} (ha : ok a) (hB : ∀ x ∈ E, ok x.2.1) (hh : hasE E a = true) (v : Value) (hv : ∀ x ∈ E, x.2.2 = v) :
    (Instr.mapUpdate M (.map (some b)) (enc a) v).run P w = .ok () (setBlock w b (.map (mkA enc E) c)) := by
  have h1 : (Instr.findKey T (enc a) (mkA enc E).toList).run P w = .ok (fndE a E 0) w := findE K w ha E hB
  obtain ⟨j, x, h2, h3, h4⟩ := fndE_some E 0 hh
  rw [h2, Nat.zero_add] at h1
  have k0 : (mkA enc E)[j]? = some (mk1 enc x) := by simp [mkA, h3]
  have hk : ((((mkA enc E)[j]?).map (·.key)).getD (enc a)) = enc a := by rw [k0]; simp [mk1, h4]
  have hs : (Instr.keyThatStays (enc a) (enc a)).run P w = .ok (enc a) w := by
    unfold Instr.keyThatStays
    simp [K.bits a]
  have e2 : (mkA enc E).modify j (fun e => { e with key := enc a, val := v }) = mkA enc E := by
    apply Array.ext_getElem?
    intro i
    rw [Array.getElem?_modify]
    by_cases e : j = i
    · subst e
      rw [if_pos rfl, k0]
      simp [mk1, h4, hv x (List.mem_of_getElem? h3)]
    · rw [if_neg e]
  unfold Instr.mapUpdate
  simp only [Sem.run_bind, run_underlying hM, Result.andThen, Go.MapKept.run_getObj_map hb, K.check w _ a ha, h1, hk, hs, e2, Go.MapKept.run_setObj_map _ hb, setBlock]
/-- 'delete' -/
theorem dropE (hM : P.underlying M = some (.map T el)) (K : KeyOk P T enc ok) (w : World) {b c : Nat} {E : List (En α)} (hb : w.heap[b]? = some (.map (mkA enc E) c)) {a : α} (ha : ok a) (hB : ∀ x ∈ E, ok x.2.1) (hn : (E.map (fun y => y.2.1)).Nodup) (ty : TypeId) :
    (Builtin.delete_ #[M, T] ty #[.map (some b), enc a]).run P w = .ok (.tuple #[]) (setBlock w b (.map (mkA enc (E.filter fun y => !decide (y.2.1 = a))) c)) := by
  have h1 : (Instr.findKey T (enc a) (mkA enc E).toList).run P w = .ok (fndE a E 0) w := findE K w ha E hB
  rcases Bool.eq_false_or_eq_true (hasE E a) with hh | hh
  · obtain ⟨j, x, h2, h3, h4⟩ := fndE_some E 0 hh
    rw [h2, Nat.zero_add] at h1
    have e2 : (mkA enc E).eraseIdxIfInBounds j = mkA enc (E.filter fun y => !decide (y.2.1 = a)) := by
      rw [← h4, ← erase_at hn h3]
      have hj : j < (mkA enc E).size := by simp [mkA, (List.getElem?_eq_some_iff.1 h3).1]
      have hsub : ((mkA enc E).eraseIdxIfInBounds j).toList = (mkA enc E).toList.eraseIdx j := by
        unfold Array.eraseIdxIfInBounds
        rw [dif_pos hj]
        simp
      apply Array.toList_inj.1
      rw [hsub]
      exact map_er (mk1 enc) E j
    simp [Builtin.delete_, run_underlying hM, Go.MapKept.run_getObj_map hb, K.check w _ a ha, h1, Go.MapKept.run_setObj_map _ hb, e2, setBlock]
  · rw [fndE_none E 0 hh] at h1
    have e2 : E.filter (fun y => !decide (y.2.1 = a)) = E := by
      rw [List.filter_eq_self]
      intro y hy
      simp only [Bool.not_eq_eq_eq_not, Bool.not_true, decide_eq_false_iff_not]
      intro e
      have := (hasE_iff E a).2 ⟨y, hy, e.symm⟩
      rw [hh] at this; cases this
    simp [Builtin.delete_, run_underlying hM, Go.MapKept.run_getObj_map hb, K.check w _ a ha, h1, Go.MapKept.run_setObj_map _ hb, e2, setBlock]

end
/-! ### ranged over -/
section
variable {P : Program} {M T el : TypeId} {enc : α → Value}
/-- a loop over the map at b is under way, its iterator at r: D has come, in this order, and R is still to come -/
def IterAt (enc : α → Value) (w : World) (b r : Nat) (E : List (En α)) (c : Nat) (D R : List (En α)) : Prop :=
  ∃ since seen c0, w.heap[b]? = some (.map (mkA enc E) c) ∧ w.heap[r]? = some (.mapIter (some b) since seen c0) ∧ (∀ x ∈ E, x.1 < since) ∧ since ≤ c0 ∧ since ≤ c ∧ (E.map (·.1)).Nodup ∧ R = E.filter (fun x => !seen.contains x.1) ∧ (D ++ R).Perm E
theorem leftE (E : List (En α)) (seen : Array Nat) : (leftOf (mkA enc E) seen).toList = (E.filter (fun x => !seen.contains x.1)).map (mk1 enc) := by
  unfold leftOf mkA
  rw [Array.toList_filter, List.filter_map]
  rfl
theorem perm_out : ∀ (R : List (En α)), (R.map (·.1)).Nodup → ∀ x ∈ R, R.Perm (x :: R.filter (fun y => y.1 != x.1)) := by
  intro R
  induction R with
  | nil => intro _ x hx; simp at hx
  | cons y r ih =>
    intro hn x hx
    obtain ⟨h1, h2⟩ := List.nodup_cons.1 hn
    dsimp only at h1
    rcases List.mem_cons.1 hx with rfl | hx
    · rw [List.filter_cons, if_neg (by simp)]
      have : r.filter (fun y => y.1 != x.1) = r := by
        rw [List.filter_eq_self]
        intro z hz
        simp only [bne_iff_ne]
        exact fun e => h1 (by rw [← e]; exact List.mem_map.2 ⟨z, hz, rfl⟩)
      rw [this]
    · have hne : y.1 ≠ x.1 := fun e => h1 (by rw [e]; exact List.mem_map.2 ⟨x, hx, rfl⟩)
      rw [List.filter_cons, if_pos (by simpa using hne)]
      exact ((ih h2 x hx).cons y).trans (List.Perm.swap x y _)
theorem startE (hM : P.underlying M = some (.map T el)) (w : World) {b c : Nat} {E : List (En α)} (hb : w.heap[b]? = some (.map (mkA enc E) c)) (hc : ∀ x ∈ E, x.1 < c) (hn : (E.map (·.1)).Nodup) :
    (Instr.range M (.map (some b))).run P w = .ok (.pointer (some ⟨w.heap.size, 0, none⟩)) (w.alloc (.mapIter (some b) c #[] c)) ∧ IterAt enc (w.alloc (.mapIter (some b) c #[] c)) b w.heap.size E c [] E := by
  have hlt : b < w.heap.size := (Array.getElem?_eq_some_iff.1 hb).1
  exact ⟨run_range_map w M T el b _ c hM hb, c, #[], c, ((MapKept.heap_alloc w _).2 b hlt).trans hb, (MapKept.heap_alloc w _).1, hc, Nat.le_refl _, Nat.le_refl _, hn, by rw [List.filter_eq_self.2 (fun x _ => by simp)], by simp⟩
theorem stepE {w : World} {b r c : Nat} {E D R : List (En α)} (h : IterAt enc w b r E c D R) (ty : TypeId) :
    (R = [] ∧ D.Perm E ∧ (Instr.next (.pointer (some ⟨r, 0, none⟩)) false ty).run P w = .ok (.tuple #[.bool false]) w) ∨
    ∃ x ∈ R, ∃ w' R', (Instr.next (.pointer (some ⟨r, 0, none⟩)) false ty).run P w = .ok (.tuple #[.bool true, enc x.2.1, x.2.2]) w' ∧ IterAt enc w' b r E c (D ++ [x]) R' ∧ R'.length < R.length ∧ R.Perm (x :: R') ∧ w.grownBy w' (some r) ∧ w'.heap.size = w.heap.size ∧
      (Instr.entry (.pointer (some ⟨r, 0, none⟩))).run P w' = .ok (.tuple #[enc x.2.1, x.2.2]) w' := by
  obtain ⟨since, seen, c0, hb, hr, hold, h1, h2, hn, hR, hp⟩ := h
  have hne : r ≠ b := fun e => by rw [e, hb] at hr; cases hr
  have hold' : ∀ x ∈ (mkA enc E).toList, x.born < since := fun x hx => by
    obtain ⟨y, hy, rfl⟩ := List.mem_map.1 (show x ∈ E.map (mk1 enc) from hx)
    exact hold y hy
  have hnb : ((mkA enc E).toList.map (·.born)).Nodup := by
    have e : (mkA enc E).toList.map (·.born) = E.map (·.1) := by simp [mkA, mk1, Function.comp_def]
    rw [e]; exact hn
  rcases run_next_at (P := P) w ty r b since c0 seen (mkA enc E) c hr hb hold' h1 with ⟨h0, hrun⟩ | ⟨e, he, w1, hal, hrun⟩
  · left
    have hR0 : R = [] := by
      have := leftE (enc := enc) E seen
      rw [← hR] at this
      have h3 : R.length = 0 := by rw [← List.length_map (f := mk1 enc), ← this, Array.length_toList]; exact h0
      exact List.eq_nil_of_length_eq_zero h3
    exact ⟨hR0, by rw [hR0, List.append_nil] at hp; exact hp, hrun⟩
  · right
    rw [leftE, ← hR] at he
    obtain ⟨x, hx, rfl⟩ := List.mem_map.1 he
    have hxE : x ∈ E := by rw [hR] at hx; exact (List.mem_filter.1 hx).1
    have hr1 : w1.heap[r]? = some (.mapIter (some b) since seen c0) := by rcases hal with rfl | rfl <;> exact hr
    have hb1 : w1.heap[b]? = some (.map (mkA enc E) c) := by rcases hal with rfl | rfl <;> exact hb
    have hset := heap_set (o' := .mapIter (some b) since (seen.push x.1) c) hr1
    have hb' : (setBlock w1 r (.mapIter (some b) since (seen.push x.1) c)).heap[b]? = some (.map (mkA enc E) c) := (hset.2 b (fun e1 => hne e1.symm)).trans hb1
    have hsub : R.Sublist E := by rw [hR]; exact List.filter_sublist
    have hnR : (R.map (·.1)).Nodup := (hsub.map _).nodup hn
    have hpo := perm_out R hnR x hx
    have hR' : E.filter (fun y => !(seen.push x.1).contains y.1) = R.filter (fun y => y.1 != x.1) := by
      rw [hR, List.filter_filter]
      congr 1
      funext y
      rw [contains_push, Bool.not_or]
      rw [show (y.1 != x.1) = !(y.1 == x.1) from rfl, Bool.and_comm]
    refine ⟨x, hx, _, R.filter (fun y => y.1 != x.1), hrun, ⟨since, seen.push x.1, c, hb', hset.1, hold, h2, h2, hn, hR'.symm, ?_⟩, ?_, hpo, ?_, ?_, ?_⟩
    · rw [List.append_assoc]; exact (List.Perm.append_left D hpo.symm).trans hp
    · have := hpo.length_eq; rw [List.length_cons] at this; omega
    · rcases hal with rfl | rfl <;> exact ⟨rfl, rfl, rfl, by simp [setBlock], fun i _ hi => hset.2 i (fun e1 => hi (by rw [e1]))⟩
    · rcases hal with rfl | rfl <;> simp [setBlock]
    · exact run_entry_at _ r b since seen (mkA enc E) c (mk1 enc x) hset.1 hb' (List.mem_map.2 ⟨x, hxE, rfl⟩) hnb
theorem IterAt.kept {w w' : World} {b r c : Nat} {E D R : List (En α)} {row : Option Nat} (h : IterAt enc w b r E c D R) (hg : w.grownBy w' row) (hb' : some b ≠ row) (hr' : some r ≠ row) : IterAt enc w' b r E c D R := by
  obtain ⟨since, seen, c0, hb, hr, rest⟩ := h
  exact ⟨since, seen, c0, (hg.block b (Array.getElem?_eq_some_iff.1 hb).1 hb').trans hb, (hg.block r (Array.getElem?_eq_some_iff.1 hr).1 hr').trans hr, rest⟩
theorem IterAt.map {w : World} {b r c : Nat} {E D R : List (En α)} (h : IterAt enc w b r E c D R) : w.heap[b]? = some (.map (mkA enc E) c) := by
  obtain ⟨_, _, _, hb, _⟩ := h; exact hb
theorem IterAt.perm {w : World} {b r c : Nat} {E D R : List (En α)} (h : IterAt enc w b r E c D R) : (D ++ R).Perm E := by
  obtain ⟨_, _, _, _, _, _, _, _, _, _, hp⟩ := h; exact hp
theorem IterAt.mem {w : World} {b r c : Nat} {E D R : List (En α)} (h : IterAt enc w b r E c D R) {x : En α} (hx : x ∈ R) : x ∈ E := h.perm.mem_iff.1 (List.mem_append_right _ hx)
section
variable (w : World) {ops : Array Oper} {rest : List Oper} {o : Oper} {a : Act} {Q : Exit → Act → World → Prop}
theorem wpList_rangeE (hg : o.guard = none) (m : Operand) (hop : o.op = Op.range M m) (hM : P.underlying M = some (.map T el)) (b c : Nat) (E : List (En α)) (hm : a.eval m = .map (some b)) (hb : w.heap[b]? = some (.map (mkA enc E) c)) (hc : ∀ x ∈ E, x.1 < c) (hn : (E.map (·.1)).Nodup)
    (hK : ∀ w', IterAt enc w' b w.heap.size E c [] E → w.grownBy w' none → w'.heap.size = w.heap.size + 1 → wpList P ops Q rest (a.put o.dst (.pointer (some ⟨w.heap.size, 0, none⟩))) w') :
    wpList P ops Q (o :: rest) a w := by
  refine wpList_plain hg fun K' hK' => ?_
  obtain ⟨hrun, r1⟩ := startE (P := P) (M := M) (T := T) (el := el) (enc := enc) hM w hb hc hn
  unfold Oper.wp
  simp [execOp, hop, hm, hrun, Result.andThen]
  exact hK' _ _ (hK _ r1 (World.grownBy_alloc w _ none) (by simp))
theorem wpList_nextE (hg : o.guard = none) (it : Operand) (hop : o.op = Op.next it false) (b r c : Nat) (E D R : List (En α)) (hit : a.eval it = .pointer (some ⟨r, 0, none⟩)) (h : IterAt enc w b r E c D R)
    (hDone : R = [] → D.Perm E → wpList P ops Q rest (a.put o.dst (.tuple #[.bool false])) w)
    (hMore : ∀ (x : En α) (w' : World) (R' : List (En α)), x ∈ R → IterAt enc w' b r E c (D ++ [x]) R' → R'.length < R.length → R.Perm (x :: R') → w.grownBy w' (some r) → w'.heap.size = w.heap.size →
      (Instr.entry (.pointer (some ⟨r, 0, none⟩))).run P w' = .ok (.tuple #[enc x.2.1, x.2.2]) w' → wpList P ops Q rest (a.put o.dst (.tuple #[.bool true, enc x.2.1, x.2.2])) w') :
    wpList P ops Q (o :: rest) a w := by
  refine wpList_plain hg fun K' hK' => ?_
  unfold Oper.wp
  rcases stepE (P := P) h o.type with ⟨h0, hl, hrun⟩ | ⟨x, hx, w', R', hrun, hi, hlt, hp, hgr, hsz, hen⟩
  · simp [execOp, hop, hit, hrun, Result.andThen]
    exact hK' _ _ (hDone h0 hl)
  · simp [execOp, hop, hit, hrun, Result.andThen]
    exact hK' _ _ (hMore x w' R' hx hi hlt hp hgr hsz hen)
theorem wpList_deleteE [DecidableEq α] {ok : α → Prop} (hg : o.guard = none) (m x : Operand) (hop : o.op = Op.call { callee := Callee.builtin Builtin.delete, args := #[m, x], argTypes := #[M, T] }) (hM : P.underlying M = some (.map T el)) (K : KeyOk P T enc ok) (b c : Nat) (E : List (En α)) (z : α)
    (hm : a.eval m = .map (some b)) (hx : a.eval x = enc z) (hb : w.heap[b]? = some (.map (mkA enc E) c)) (hz : ok z) (hB : ∀ y ∈ E, ok y.2.1) (hn : (E.map (fun y => y.2.1)).Nodup)
    (hK : wpList P ops Q rest (a.put o.dst (.tuple #[])) (setBlock w b (.map (mkA enc (E.filter fun y => !decide (y.2.1 = z))) c))) :
    wpList P ops Q (o :: rest) a w := by
  refine wpList_plain hg fun K' hK' => ?_
  have hrun := dropE hM K w hb hz hB hn o.type
  unfold Oper.wp
  simp [execOp, hop, resolve, invoke, builtin, hm, hx, hrun, Result.andThen]
  exact hK' _ _ hK
end
end
end
end Go.Proofs.YtmondgcehgmamaaGreatDoor

namespace Go.Proofs.YtmondgcehgmamaaGreatDoor
set_option linter.unusedSimpArgs false
set_option linter.unusedVariables false
open Go.RowKit

section
variable {P : Program} {ops : Array Oper} {Q : Exit → Act → World → Prop} {S : World → Prop}

theorem Oper.wp_then {o : Oper} {a : Act} {w : World} {K : Act → World → Prop} (h : o.wp P a w K (Exit.then K Q)) : o.wp P a w K Q := by
  unfold Oper.wp at *
  generalize (execOp a.eval o).run P w = r at *
  cases r with
  | ok n w' =>
    cases n <;> simp only [Oper.upon] at h ⊢ <;>
      first
        | exact h
        | exact Calls.mono h (fun e w'' he => by cases e <;> exact he)
  | halt x w' => cases x <;> simp only [Oper.upon] at h ⊢ <;> exact h

theorem wpOp_of_list {i : Nat} {o : Oper} {K : Act → World → Prop} {a : Act} {w : World} (ho : ops[i]? = some o)
    (h : wpList P ops (Exit.then K Q) [o] a w) : wpOp P ops Q i K a w := by
  unfold wpOp
  rw [ho]
  simp only [wpList] at h
  simp only []
  split
  · rename_i hw
    rw [if_pos hw] at h
    rcases h with h | ⟨h1, h2⟩
    · exact Or.inl (Oper.wp_then h)
    · exact Or.inr ⟨h1, h2⟩
  · rename_i hw
    rw [if_neg hw] at h
    exact h

/-- the operations in their order; behind each S holds -/
def wpListS (P : Program) (ops : Array Oper) (Q : Exit → Act → World → Prop) (S : World → Prop) : List Oper → Act → World → Prop
  | [], a, w => Q .normal a w
  | o :: rest, a, w =>
    if Region.wanted o (yielded ops a.tmps) then o.wp P a w (fun a' w' => S w' ∧ wpListS P ops Q S rest a' w') Q ∨ (o.asks P a w ∧ LetsOut Q) else S w ∧ wpListS P ops Q S rest (a.put o.dst undef) w

theorem wpListS_step {o : Oper} {rest : List Oper} {a : Act} {w : World}
    (h : ∀ K : Act → World → Prop, (∀ a' w', S w' → wpListS P ops Q S rest a' w' → K a' w') → wpList P ops (Exit.then K Q) [o] a w) : wpListS P ops Q S (o :: rest) a w := by
  have h := h _ (fun a' w' h1 h2 => And.intro h1 h2)
  simp only [wpList] at h
  simp only [wpListS]
  split
  · rename_i hw
    rw [if_pos hw] at h
    rcases h with h | ⟨h1, h2⟩
    · exact Or.inl (Oper.wp_then h)
    · exact Or.inr ⟨h1, h2⟩
  · rename_i hw
    rw [if_neg hw] at h
    exact h

theorem wpListS_nil {a : Act} {w : World} (h : wpList P ops Q [] a w) : wpListS P ops Q S [] a w := h
theorem wpListS_true {l : List Oper} {a : Act} {w : World} (h : wpList P ops Q l a w) : wpListS P ops Q (fun _ => True) l a w := by
  induction l generalizing a w with
  | nil => exact h
  | cons o rest ih =>
    simp only [wpList] at h
    simp only [wpListS]
    split
    · rename_i hw
      rw [if_pos hw] at h
      exact h.imp (Oper.wp_mono fun a w h => ⟨trivial, ih h⟩) id
    · rename_i hw
      rw [if_neg hw] at h
      exact ⟨trivial, ih h⟩

/-- the frame l with u's values in the slots of D -/
def setU (D : List Nat) (u : Nat → Value) : Nat → List Value → List Value
  | _, [] => []
  | k, v :: r => (if D.contains k then u k else v) :: setU D u (k + 1) r
def upd (u : Nat → Value) (j : Nat) (v : Value) : Nat → Value := fun k => if k = j then v else u k

theorem setU_get (D : List Nat) (u : Nat → Value) (l : List Value) : ∀ (k i : Nat), (setU D u k l)[i]? = (l[i]?).map fun v => if D.contains (k + i) then u (k + i) else v := by
  induction l with
  | nil => intro k i; simp [setU]
  | cons v r ih =>
    intro k i
    cases i with
    | zero => simp [setU]
    | succ i => simp only [setU, List.getElem?_cons_succ]; rw [ih]; simp only [show k + 1 + i = k + (i + 1) from by omega]

theorem setU_put (D : List Nat) (u : Nat → Value) (l : List Value) (j : Nat) (v : Value) (hj : D.contains j = true) :
    (setU D u 0 l).set j v = setU D (upd u j v) 0 l := by
  apply List.ext_getElem?
  intro i
  rw [List.getElem?_set, setU_get, setU_get]
  have hlen : (setU D u 0 l).length = l.length := by
    have : ∀ (l : List Value) k, (setU D u k l).length = l.length := by
      intro l; induction l with
      | nil => intro k; rfl
      | cons a r ih => intro k; simp [setU, ih]
    exact this l 0
  by_cases h : j = i
  · subst h
    by_cases hl : j < l.length
    · simp only [List.contains_eq_mem, decide_eq_true_eq] at hj
      simp [hlen, hl, upd, hj]
    · simp [hlen, hl]
  · have h' : ¬ (0 + i = j) := by omega
    rw [if_neg h]
    cases l[i]? with
    | none => rfl
    | some x => simp only [Option.map_some, upd, if_neg h']

def dstAt (ops : Array Oper) (i : Nat) : Option Nat := (ops[i]?).bind (·.dst)
def edgesAt (ops : Array Oper) (i : Nat) : List Nat := ((ops[i]?).map fun o => (o.after.toList.filter (Region.binds .any)).map (·.on)).getD []
def depsAt (ops : Array Oper) (i : Nat) : List Nat := (edgesAt ops i).filterMap (dstAt ops)
/-- the number of the block that a pointer leads to -/
def blk : Value → Nat | .pointer (some a) => a.block | _ => 0

def nodupB : List Nat → Bool
  | [] => true
  | x :: r => !r.contains x && nodupB r
theorem nodupB_inj {l : List Nat} (h : nodupB l = true) : ∀ (i k x : Nat), l[i]? = some x → l[k]? = some x → i = k := by
  induction l with
  | nil => intro i k x hi; simp at hi
  | cons y r ih =>
    simp only [nodupB, Bool.and_eq_true, Bool.not_eq_true', List.contains_eq_mem, decide_eq_false_iff_not] at h
    intro i k x hi hk
    cases i with
    | zero =>
      cases k with
      | zero => rfl
      | succ k =>
        simp at hi hk
        exact absurd (List.mem_of_getElem? hk) (hi ▸ h.1)
    | succ i =>
      cases k with
      | zero =>
        simp at hi hk
        exact absurd (List.mem_of_getElem? hi) (hk ▸ h.1)
      | succ k => simp at hi hk; rw [ih h.2 i k x hi hk]

/-- j must have come up ahead of i, through at most so many edges -/
def reachB (ops : Array Oper) : Nat → Nat → Nat → Bool
  | 0, _, _ => false
  | f + 1, i, j => (edgesAt ops i).contains j || (edgesAt ops i).any fun k => reachB ops f k j

theorem reach_listed {L : Array Bool} (hcl : ∀ i, L.getD i false = true → ∀ j ∈ edgesAt ops i, L.getD j false = true) : ∀ (f i j : Nat), (∀ k ∈ edgesAt ops i, L.getD k false = true) → reachB ops f i j = true → L.getD j false = true := by
  intro f
  induction f with
  | zero => intro i j _ h; cases h
  | succ f ih =>
    intro i j he h
    simp only [reachB, Bool.or_eq_true, List.contains_eq_mem, decide_eq_true_eq, List.any_eq_true] at h
    rcases h with h | ⟨k, hk, h⟩
    · exact he j h
    · exact ih k j (hcl k (he k hk)) h

/-- the operations ahead of number m each yield into a slot of D of their own; whatever is waited for stands ahead; each from m on waits for all that stand ahead of it, but for those of T, whose own waits it has waited for; those of T touch no slot of others -/
def regionOk (ops : Array Oper) (m : Nat) (D T : List Nat) : Bool :=
  ((List.range m).map (dstAt ops) == D.map some) && nodupB D &&
  (List.range ops.size).all (fun i => (edgesAt ops i).all (fun j => decide (j < i)) && (decide (i < m) || (List.range i).all fun j => reachB ops ops.size i j || (decide (j < m) && T.contains j && (edgesAt ops j).all fun d => reachB ops ops.size i d || T.contains d))) && decide (m ≤ ops.size) &&
  T.all (fun i => decide (i < m) && (List.range ops.size).all fun j => decide (j = i) || reachB ops ops.size i j || (edgesAt ops j).contains i || ((ops[i]?).bind fun oi => (ops[j]?).map fun oj => oi.apart ops oj).getD false) && (T.isEmpty || Region.noSelect ops)

structure RegionOk (ops : Array Oper) (m : Nat) (D T : List Nat) : Prop where
  dst : ∀ i, i < m → ∃ j, D[i]? = some j ∧ dstAt ops i = some j
  len : D.length = m
  inj : ∀ i k x : Nat, D[i]? = some x → D[k]? = some x → i = k
  low : ∀ i, i < ops.size → ∀ j ∈ edgesAt ops i, j < i
  tail : ∀ i, i < ops.size → m ≤ i → ∀ j, j < i → reachB ops ops.size i j = true ∨ (j < m ∧ j ∈ T ∧ ∀ d ∈ edgesAt ops j, reachB ops ops.size i d = true ∨ d ∈ T)
  fit : m ≤ ops.size
  take : ∀ i ∈ T, i < m ∧ ∀ j, j < ops.size → j ≠ i → reachB ops ops.size i j = true ∨ i ∈ edgesAt ops j ∨ ∀ oi oj, ops[i]? = some oi → ops[j]? = some oj → oi.apart ops oj = true
  nosel : T ≠ [] → Region.noSelect ops = true

theorem RegionOk.of {m : Nat} {D T : List Nat} (h : regionOk ops m D T = true) : RegionOk ops m D T := by
  simp only [regionOk, Bool.and_eq_true, beq_iff_eq, decide_eq_true_eq, List.all_eq_true, List.mem_range, Bool.or_eq_true, List.contains_eq_mem] at h
  obtain ⟨⟨⟨⟨⟨h1, h2⟩, h3⟩, h4⟩, h5⟩, h6⟩ := h
  have hl : D.length = m := by have := congrArg List.length h1; simpa using this.symm
  refine ⟨fun i hi => ?_, hl, nodupB_inj h2, fun i hi j hj => (h3 i hi).1 j hj, fun i hi hm j hj => ?_, h4, fun i hi => ⟨(h5 i hi).1, fun j hj hne => ?_⟩, fun hT => ?_⟩
  · have e := congrArg (fun l : List (Option Nat) => l[i]?) h1
    have hi' : i < D.length := by omega
    simp [hi, hi'] at e
    exact ⟨D[i], by simp [hi'], e⟩
  · rcases (h3 i hi).2 with h | h
    · omega
    · rcases h j hj with h | ⟨⟨h7, h8⟩, h9⟩
      · exact Or.inl h
      · exact Or.inr ⟨h7, h8, h9⟩
  · rcases (h5 i hi).2 j hj with ((h | h) | h) | h
    · exact absurd h hne
    · exact Or.inl h
    · exact Or.inr (Or.inl h)
    · refine Or.inr (Or.inr fun oi oj ho ho' => ?_)
      simpa [ho, ho'] using h
  · rcases h6 with h | h
    · simp at h; exact absurd h hT
    · exact h

theorem ready_iff {L : Array Bool} {i : Nat} : i ∈ Region.ready .any ops L ↔ i < ops.size ∧ L.getD i true = false ∧ ∀ j ∈ edgesAt ops i, L.getD j false = true := by
  simp only [Region.ready, List.mem_filter, List.mem_range, Bool.and_eq_true, Bool.not_eq_true', edgesAt]
  refine and_congr_right fun hi => and_congr_right fun _ => ?_
  obtain ⟨o, ho⟩ : ∃ o, ops[i]? = some o := ⟨ops[i], by simp [hi]⟩
  simp only [ho, Option.map_some, Option.getD_some, Array.all_eq_true, Bool.or_eq_true, Bool.not_eq_true', List.mem_map, List.mem_filter, Array.mem_toList_iff]
  constructor
  · rintro h j ⟨e, ⟨he, hb⟩, rfl⟩
    obtain ⟨k, hk, rfl⟩ := Array.mem_iff_getElem.1 he
    rcases h k hk with h | h
    · rw [h] at hb; cases hb
    · exact h
  · intro h k hk
    cases hb : Region.binds .any o.after[k] with
    | false => exact Or.inl rfl
    | true => exact Or.inr (h _ ⟨_, ⟨Array.getElem_mem hk, hb⟩, rfl⟩)

theorem count_set {n i : Nat} {L : Array Bool} (hn : L.size = n) (hi : i < n) (hf : L.getD i true = false) :
    (List.range n).countP (fun j => !(L.setIfInBounds i true).getD j true) + 1 = (List.range n).countP (fun j => !L.getD j true) := by
  have g : ∀ j, (L.setIfInBounds i true).getD j true = if j = i then true else L.getD j true := by
    intro j
    simp only [Array.getD_eq_getD_getElem?, Array.getElem?_setIfInBounds]
    by_cases h : i = j
    · subst h; simp [hn, hi]
    · rw [if_neg h, if_neg (fun e => h e.symm)]
  have key : ∀ k, (List.range k).countP (fun j => !(if j = i then true else L.getD j true)) + (if i < k then 1 else 0) = (List.range k).countP (fun j => !L.getD j true) := by
    intro k
    induction k with
    | zero => simp
    | succ k ih =>
      rw [List.range_succ, List.countP_append, List.countP_append, ← ih]
      by_cases hk : k = i
      · subst hk
        simp only [Nat.lt_irrefl, if_false, Nat.add_zero, Nat.lt_succ_self, if_true, List.countP_cons, List.countP_nil, hf] at ih ⊢
        simp
      · have e1 : (i < k + 1) = (i < k) := by apply propext; omega
        simp only [e1, List.countP_cons, List.countP_nil, if_neg hk]
        omega
  have := key n
  rw [if_pos hi] at this
  simp only [g]
  exact this

theorem getD_set {L : Array Bool} {i j : Nat} (d : Bool) (hi : i < L.size) : (L.setIfInBounds i true).getD j d = if j = i then true else L.getD j d := by
  simp only [Array.getD_eq_getD_getElem?, Array.getElem?_setIfInBounds]
  by_cases h : i = j
  · subst h; simp [hi]
  · rw [if_neg h, if_neg (fun e => h e.symm)]

theorem getD_any {L : Array Bool} {j : Nat} (hj : j < L.size) (d d' : Bool) : L.getD j d = L.getD j d' := by
  simp [Array.getD_eq_getD_getElem?, hj]

theorem tail_any {m : Nat} {D T : List Nat} (ok : RegionOk ops m D T) : ∀ (fuel k : Nat) (L : Array Bool) (a : Act) (w : World), L.size = ops.size →
    (∀ j, j < ops.size → L.getD j true = decide (j < k)) → k ≤ ops.size → m ≤ k → ops.size - k ≤ fuel → wpListS P ops Q S (ops.toList.drop k) a w → wpAnyH P .any ops Q S fuel L a w := by
  intro fuel
  induction fuel with
  | zero =>
    intro k L a w hL hk hkn hm hf h
    have hk' : k = ops.size := by omega
    subst hk'
    refine ⟨?_, by rw [List.drop_of_length_le (by simp)] at h; exact h⟩
    apply List.eq_nil_iff_forall_not_mem.2
    intro i hi
    obtain ⟨h1, h2, _⟩ := ready_iff.1 hi
    rw [hk i h1] at h2
    simp [h1] at h2
  | succ fuel ih =>
    intro k L a w hL hk hkn hm hf h
    by_cases hlt : k < ops.size
    · have hr : k ∈ Region.ready .any ops L := by
        refine ready_iff.2 ⟨hlt, by rw [hk k hlt]; simp, fun j hj => ?_⟩
        have hjk := ok.low k hlt j hj
        rw [getD_any (by omega) false true, hk j (by omega)]
        simpa using hjk
      refine ⟨fun e => absurd (e ▸ hr) (by simp), fun i hi => ?_⟩
      obtain ⟨h1, h2, h3⟩ := ready_iff.1 hi
      rw [hk i h1] at h2
      have hik : k ≤ i := by simpa using h2
      have hik' : i = k := by
        rcases Nat.lt_or_ge k i with hl | hl
        · have hcl : ∀ x, L.getD x false = true → ∀ j ∈ edgesAt ops x, L.getD j false = true := by
            intro x hx j hj
            have hxn : x < ops.size := by
              rcases Nat.lt_or_ge x ops.size with h | h
              · exact h
              · rw [Array.getD_eq_getD_getElem?, Array.getElem?_eq_none (by omega)] at hx; cases hx
            have hjx := ok.low x hxn j hj
            rw [getD_any (by omega) false true, hk x hxn] at hx
            rw [getD_any (by omega) false true, hk j (by omega)]
            simp at hx ⊢
            omega
          have := reach_listed hcl _ i k h3 ((ok.tail i h1 (by omega) k hl).resolve_right fun h => absurd h.1 (by omega))
          rw [getD_any (by omega) false true, hk k hlt] at this
          simp at this
        · omega
      subst hik'
      have hd : ops.toList.drop i = ops[i] :: ops.toList.drop (i + 1) := by
        rw [List.drop_eq_getElem_cons (by simpa using hlt)]
        simp
      rw [hd] at h
      have next : ∀ a w, wpListS P ops Q S (ops.toList.drop (i + 1)) a w → wpAnyH P .any ops Q S fuel (L.setIfInBounds i true) a w := fun a w hh =>
        ih (i + 1) _ a w (by simpa using hL) (fun j hj => by
          rw [getD_set true (by omega)]
          by_cases e : j = i
          · subst e; simp
          · rw [if_neg e, hk j hj]
            have : (j < i) ↔ (j < i + 1) := by omega
            simp [this]) (by omega) (by omega) (by omega) hh
      simp only [wpOp, show ops[i]? = some ops[i] from by simp [hlt]]
      simp only [wpListS] at h
      split
      · rename_i hw
        rw [if_pos hw] at h
        exact h.imp (Oper.wp_mono fun a w h => ⟨h.1, next a w h.2⟩) id
      · rename_i hw
        rw [if_neg hw] at h
        exact ⟨h.1, next _ _ h.2⟩
    · have hk' : k = ops.size := by omega
      subst hk'
      have hr : Region.ready .any ops L = [] := by
        apply List.eq_nil_iff_forall_not_mem.2
        intro i hi
        obtain ⟨h1, h2, _⟩ := ready_iff.1 hi
        rw [hk i h1] at h2
        simp [h1] at h2
      refine ⟨fun _ => by rw [List.drop_of_length_le (by simp)] at h; exact h, fun i hi => ?_⟩
      rw [hr] at hi
      cases hi

/-- what is to be shown of operation number i, ahead of the tail -/
def StepOk (P : Program) (ops : Array Oper) (Q : Exit → Act → World → Prop) (D PS : List Nat) (B : World → Prop) (F : Nat → Value → World → Prop) (l : List Value) (df : List Deferred) (i : Nat) (o : Oper) (j : Nat) : Prop :=
  ∀ (u : Nat → Value) (w : World), B w → (∀ k, (depsAt ops i).contains k = true → F k (u k) w) →
    ∀ K : Act → World → Prop, (∀ v w', B w' → Below w.heap.size w w' → F j v w' → (PS.contains j = true → w.heap.size ≤ blk v) → K ⟨(setU D (upd u j v) 0 l).toArray, df⟩ w') →
      wpList P ops (Exit.then K Q) [o] ⟨(setU D u 0 l).toArray, df⟩ w

/-- what is to be shown of an operation of T -/
def StepYOk (P : Program) (ops : Array Oper) (S : World → Prop) (D : List Nat) (B : World → Prop) (F : Nat → Value → World → Prop) (l : List Value) (df : List Deferred) (i : Nat) (o : Oper) (j : Nat) : Prop :=
  ∀ (u : Nat → Value) (w : World), B w → (∀ k, (depsAt ops i).contains k = true → F k (u k) w) →
    ∃ v, YieldsIf P ops S o v ⟨(setU D u 0 l).toArray, df⟩ ∧ F j v w

theorem region_any {m : Nat} {D T PS : List Nat} {B : World → Prop} {F : Nat → Value → World → Prop} {l : List Value} {df : List Deferred}
    (ok : RegionOk ops m D T) (hBS : ∀ w, B w → S w) (hQ : T ≠ [] → ∀ c (a : Act) (d : Nat) v w, Q (.panic c) (a.put (some d) v) w → Q (.panic c) a w)
    (mono : ∀ j v w w', B w → B w' → Below w.heap.size w w' → F j v w → F j v w')
    (ps : ∀ j, PS.contains j = true → ∀ v w, F j v w → blk v < w.heap.size)
    (tps : ∀ i ∈ T, ∀ j, dstAt ops i = some j → PS.contains j = false)
    (step : ∀ i o j, i < m → i ∉ T → ops[i]? = some o → o.dst = some j → StepOk P ops Q D PS B F l df i o j)
    (stepY : ∀ i o j, i ∈ T → ops[i]? = some o → o.dst = some j → StepYOk P ops S D B F l df i o j)
    (fin : ∀ u w', B w' → (∀ j, D.contains j = true → F j (u j) w') → (∀ j j', D.contains j = true → D.contains j' = true → PS.contains j = true → PS.contains j' = true → j ≠ j' → blk (u j) ≠ blk (u j')) →
      wpListS P ops Q S (ops.toList.drop m) ⟨(setU D u 0 l).toArray, df⟩ w') :
    ∀ (fuel : Nat) (L : Array Bool) (u : Nat → Value) (w : World), L.size = ops.size → (List.range ops.size).countP (fun j => !L.getD j true) ≤ fuel →
      (∀ i, m ≤ i → i < ops.size → L.getD i true = false) → (∀ i, L.getD i false = true → ∀ j ∈ edgesAt ops i, L.getD j false = true) → B w →
      (∀ i j, i < m → L.getD i false = true → dstAt ops i = some j → F j (u j) w) →
      (∀ i i' j j', i < m → i' < m → L.getD i false = true → L.getD i' false = true → dstAt ops i = some j → dstAt ops i' = some j' → PS.contains j = true → PS.contains j' = true → j ≠ j' → blk (u j) ≠ blk (u j')) →
      wpAnyH P .any ops Q S fuel L ⟨(setU D u 0 l).toArray, df⟩ w := by
  intro fuel
  -- all ahead of the tail have come up
  have toTail : ∀ (fuel : Nat) (L : Array Bool) (u : Nat → Value) (w : World), L.size = ops.size → (List.range ops.size).countP (fun j => !L.getD j true) ≤ fuel →
      (∀ i, m ≤ i → i < ops.size → L.getD i true = false) → B w → (∀ i, i < m → L.getD i true = true) →
      (∀ i j, i < m → L.getD i false = true → dstAt ops i = some j → F j (u j) w) →
      (∀ i i' j j', i < m → i' < m → L.getD i false = true → L.getD i' false = true → dstAt ops i = some j → dstAt ops i' = some j' → PS.contains j = true → PS.contains j' = true → j ≠ j' → blk (u j) ≠ blk (u j')) →
      wpAnyH P .any ops Q S fuel L ⟨(setU D u 0 l).toArray, df⟩ w := by
    intro fuel L u w hL hc ht hB hall hF hP
    have hall' : ∀ i, i < m → L.getD i false = true := fun i hi => by rw [getD_any (by have := ok.fit; omega) false true]; exact hall i hi
    have inD : ∀ j, D.contains j = true → ∃ i, i < m ∧ dstAt ops i = some j := by
      intro j hj
      simp only [List.contains_eq_mem, decide_eq_true_eq] at hj
      obtain ⟨i, hi⟩ := List.mem_iff_getElem?.1 hj
      have hi' : i < m := by
        have := (List.getElem?_eq_some_iff.1 hi).1
        rw [ok.len] at this; exact this
      obtain ⟨j', h1, h2⟩ := ok.dst i hi'
      rw [hi] at h1
      cases h1
      exact ⟨i, hi', h2⟩
    refine tail_any ok fuel m L _ w hL (fun j hj => ?_) ok.fit (Nat.le_refl _) ?_ (fin u w hB ?_ ?_)
    · by_cases h : j < m
      · rw [hall j h]; simp [h]
      · rw [ht j (by omega) hj]; simp [h]
    · have e : (List.range ops.size).countP (fun j => !L.getD j true) = (List.range ops.size).countP (fun j => decide (m ≤ j)) := by
        apply List.countP_congr
        intro j hj
        have hj' : j < ops.size := by simpa using hj
        by_cases h : j < m
        · rw [hall j h]; simp; omega
        · rw [ht j (by omega) hj']; simp; omega
      have key : ∀ k, (List.range k).countP (fun j => decide (m ≤ j)) = k - m := by
        intro k
        induction k with
        | zero => simp
        | succ k ih =>
          rw [List.range_succ, List.countP_append, ih]
          by_cases h : m ≤ k
          · simp [h]; omega
          · simp [h]; omega
      rw [e, key] at hc
      exact hc
    · intro j hj
      obtain ⟨i, hi, hd⟩ := inD j hj
      exact hF i j hi (hall' i hi) hd
    · intro j j' hj hj' hp hp' hne
      obtain ⟨i, hi, hd⟩ := inD j hj
      obtain ⟨i', hi', hd'⟩ := inD j' hj'
      exact hP i i' j j' hi hi' (hall' i hi) (hall' i' hi') hd hd' hp hp' hne
  induction fuel with
  | zero =>
    intro L u w hL hc ht hcl hB hF hP
    refine toTail 0 L u w hL hc ht hB (fun i hi => ?_) hF hP
    have h0 : (List.range ops.size).countP (fun j => !L.getD j true) = 0 := by omega
    rw [List.countP_eq_zero] at h0
    have := h0 i (by have := ok.fit; simp; omega)
    simpa using this
  | succ fuel ih =>
    intro L u w hL hc ht hcl hB hF hP
    by_cases hall : ∀ i, i < m → L.getD i true = true
    · exact toTail (fuel + 1) L u w hL hc ht hB hall hF hP
    · -- the least that has not come up may come up
      have hex : ∃ i, i < m ∧ L.getD i true = false := by
        refine Classical.byContradiction fun h => hall fun i hi => ?_
        cases e : L.getD i true with
        | true => rfl
        | false => exact absurd ⟨i, hi, e⟩ h
      have hne : Region.ready .any ops L ≠ [] := by
        obtain ⟨i0, h01, h02⟩ := hex
        have : ∀ n i, i ≤ n → i < m → L.getD i true = false → ∃ k, k ∈ Region.ready .any ops L := by
          intro n
          induction n with
          | zero =>
            intro i hi hm hf
            have : i = 0 := by omega
            subst this
            exact ⟨0, ready_iff.2 ⟨by have := ok.fit; omega, hf, fun j hj => absurd (ok.low 0 (by have := ok.fit; omega) j hj) (by omega)⟩⟩
          | succ n ihn =>
            intro i hi hm hf
            by_cases hd : ∀ j ∈ edgesAt ops i, L.getD j false = true
            · exact ⟨i, ready_iff.2 ⟨by have := ok.fit; omega, hf, hd⟩⟩
            · simp only [Classical.not_forall] at hd
              obtain ⟨j, hj, hjf⟩ := hd
              have hji := ok.low i (by have := ok.fit; omega) j hj
              refine ihn j (by omega) (by omega) ?_
              rw [getD_any (by have := ok.fit; omega) true false]
              simpa using hjf
        obtain ⟨k, hk⟩ := this i0 i0 (Nat.le_refl _) h01 h02
        intro e
        rw [e] at hk
        cases hk
      -- one more has come up
      have next : ∀ i, i < m → i ∈ Region.ready .any ops L → ∀ j, dstAt ops i = some j → ∀ v w', B w' → Below w.heap.size w w' → F j v w' → (PS.contains j = true → w.heap.size ≤ blk v) →
          wpAnyH P .any ops Q S fuel (L.setIfInBounds i true) ⟨(setU D (upd u j v) 0 l).toArray, df⟩ w' := by
        intro i him hi j hdj v w' hB' hbel hFv hpv
        obtain ⟨h1, h2, h3⟩ := ready_iff.1 hi
        obtain ⟨jx, hDj, hdj'⟩ := ok.dst i him
        rw [hdj] at hdj'
        cases hdj'
        have other : ∀ i' j', i' < m → i' ≠ i → dstAt ops i' = some j' → j' ≠ j := by
          intro i' j' hi' hne' hd' e
          subst e
          obtain ⟨x, hx1, hx2⟩ := ok.dst i' hi'
          rw [hd'] at hx2
          cases hx2
          exact hne' (ok.inj i' i j' hx1 hDj)
        have gL : ∀ i' d, (L.setIfInBounds i true).getD i' d = if i' = i then true else L.getD i' d := fun i' d => getD_set d (by omega)
        refine ih _ (upd u j v) w' (by simpa using hL) ?_ ?_ ?_ hB' ?_ ?_
        · have := count_set hL h1 h2
          omega
        · intro i' hi' hn'
          rw [gL, if_neg (by omega)]
          exact ht i' hi' hn'
        · intro x hx j' hj'
          rw [gL]
          split
          · rfl
          · rw [gL] at hx
            split at hx
            · rename_i e; subst e; exact h3 j' hj'
            · exact hcl x hx j' hj'
        · intro i' j' hi' hl' hd'
          rw [gL] at hl'
          by_cases e : i' = i
          · subst e
            rw [hdj] at hd'
            cases hd'
            simp only [upd, if_true]
            exact hFv
          · rw [if_neg e] at hl'
            simp only [upd, if_neg (other i' j' hi' e hd')]
            exact mono _ _ _ _ hB hB' hbel (hF i' j' hi' hl' hd')
        · intro i1 i2 j1 j2 hi1 hi2 hl1 hl2 hd1 hd2 hp1 hp2 hne12
          rw [gL] at hl1 hl2
          by_cases e1 : i1 = i
          · by_cases e2 : i2 = i
            · subst e1; rw [e2, hd1] at hd2; cases hd2; exact absurd rfl hne12
            · subst e1
              rw [hdj] at hd1
              cases hd1
              rw [if_neg e2] at hl2
              simp only [upd, if_true, if_neg (other i2 j2 hi2 e2 hd2)]
              have a1 := hpv hp1
              have a2 := ps j2 hp2 _ _ (hF i2 j2 hi2 hl2 hd2)
              omega
          · rw [if_neg e1] at hl1
            by_cases e2 : i2 = i
            · subst e2
              rw [hdj] at hd2
              cases hd2
              simp only [upd, if_true, if_neg (other i1 j1 hi1 e1 hd1)]
              have a1 := hpv hp2
              have a2 := ps j1 hp1 _ _ (hF i1 j1 hi1 hl1 hd1)
              omega
            · rw [if_neg e2] at hl2
              simp only [upd, if_neg (other i1 j1 hi1 e1 hd1), if_neg (other i2 j2 hi2 e2 hd2)]
              exact hP i1 i2 j1 j2 hi1 hi2 hl1 hl2 hd1 hd2 hp1 hp2 hne12
      have depsHold : ∀ i, i < m → i ∈ Region.ready .any ops L → ∀ k, (depsAt ops i).contains k = true → F k (u k) w := by
        intro i him hi k hk
        obtain ⟨h1, h2, h3⟩ := ready_iff.1 hi
        simp only [List.contains_eq_mem, decide_eq_true_eq, depsAt, List.mem_filterMap] at hk
        obtain ⟨e, he, hek⟩ := hk
        have hei := ok.low i h1 e he
        exact hF e k (by omega) (h3 e he) hek
      have put_eq : ∀ j v, D.contains j = true → (⟨(setU D u 0 l).toArray, df⟩ : Act).put (some j) v = ⟨(setU D (upd u j v) 0 l).toArray, df⟩ := by
        intro j v hj
        simp only [Act.put, List.setIfInBounds_toArray, setU_put D u l j v hj]
      by_cases hT : ∃ i ∈ T, i ∈ Region.ready .any ops L
      · obtain ⟨i, hiT, hi⟩ := hT
        obtain ⟨h1, h2, h3⟩ := ready_iff.1 hi
        have him := (ok.take i hiT).1
        obtain ⟨j, hDj, hdj⟩ := ok.dst i him
        have ho : ops[i]? = some ops[i] := by simp [h1]
        have hdo : ops[i].dst = some j := by simpa [dstAt, ho] using hdj
        have hDc : D.contains j = true := by simp only [List.contains_eq_mem, decide_eq_true_eq]; exact List.mem_of_getElem? hDj
        obtain ⟨v, hy, hv⟩ := stepY i _ j hiT ho hdo u w hB (depsHold i him hi)
        have hTne : T ≠ [] := fun e => by rw [e] at hiT; cases hiT
        refine wpAnyH_first ho (Region.noSelect_spec (ok.nosel hTne)) (fun c a w => by rw [hdo]; exact hQ hTne c a j v w) fuel L _ w (fun jj oj hoj hne' hun hno => ?_) hi hy (hBS w hB) ?_
        · have hjj : jj < ops.size := (Array.getElem?_eq_some_iff.1 hoj).1
          rcases (ok.take i hiT).2 jj hjj hne' with h | h | h
          · have := reach_listed hcl _ i jj h3 h
            rw [getD_any (by omega) false true, hun] at this
            cases this
          · simp only [edgesAt, hoj, Option.map_some, Option.getD_some, List.mem_map, List.mem_filter, Array.mem_toList_iff] at h
            obtain ⟨e, ⟨he, hb⟩, hon⟩ := h
            exact absurd hon (hno e he hb)
          · exact h _ oj ho hoj
        · rw [hdo, put_eq j v hDc]
          exact next i him hi j hdj v w hB (Below.refl _ _) hv fun hp => by rw [tps i hiT j hdj] at hp; cases hp
      · refine ⟨fun e => absurd e hne, fun i hi => ?_⟩
        obtain ⟨h1, h2, h3⟩ := ready_iff.1 hi
        have him : i < m := by
          rcases Nat.lt_or_ge i m with h | h
          · exact h
          · obtain ⟨k, hk1, hk2⟩ := hex
            have all : ∀ n k, k ≤ n → k < i → L.getD k false = true := by
              intro n
              induction n with
              | zero =>
                intro k hkn hki
                rcases ok.tail i h1 h k hki with hr | ⟨hkm, hkT, hr⟩
                · exact reach_listed hcl _ i k h3 hr
                · cases hl : L.getD k true with
                  | true => rw [getD_any (by have := ok.fit; omega) false true, hl]
                  | false =>
                    exact absurd ⟨k, hkT, ready_iff.2 ⟨by have := ok.fit; omega, hl, fun d hd => absurd (ok.low k (by have := ok.fit; omega) d hd) (by omega)⟩⟩ hT
              | succ n ihn =>
                intro k hkn hki
                rcases ok.tail i h1 h k hki with hr | ⟨hkm, hkT, hr⟩
                · exact reach_listed hcl _ i k h3 hr
                · cases hl : L.getD k true with
                  | true => rw [getD_any (by have := ok.fit; omega) false true, hl]
                  | false =>
                    exact absurd ⟨k, hkT, ready_iff.2 ⟨by have := ok.fit; omega, hl, fun d hd => by
                      have hdk := ok.low k (by have := ok.fit; omega) d hd
                      exact ihn d (by omega) (by omega)⟩⟩ hT
            have := all k k (Nat.le_refl _) (by omega)
            rw [getD_any (by have := ok.fit; omega) false true, hk2] at this
            cases this
        have hiT : i ∉ T := fun h => hT ⟨i, h, hi⟩
        obtain ⟨j, hDj, hdj⟩ := ok.dst i him
        have ho : ops[i]? = some ops[i] := by simp [h1]
        have hdo : ops[i].dst = some j := by simpa [dstAt, ho] using hdj
        exact wpOp_of_list ho (step i _ j him hiT ho hdo u w hB (depsHold i him hi) _ (fun v w' hB' hbel hFv hpv => ⟨hBS w' hB', next i him hi j hdj v w' hB' hbel hFv hpv⟩))

theorem setU_self (D : List Nat) (l : List Value) : setU D (fun k => l.getD k undef) 0 l = l := by
  apply List.ext_getElem?
  intro i
  rw [setU_get]
  cases h : l[i]? with
  | none => rfl
  | some x => simp [h]

/-- ████ THE REGION: m operations in whatever order, each by a fact on its slot; then the tail ████ -/
theorem region_facts {id : Nat} {l : List Value} {df : List Deferred} {w : World} (hmx : P.follows .mixedOrders = true)
    (m : Nat) (D T PS : List Nat) (B : World → Prop) (F : Nat → Value → World → Prop)
    (chk : regionOk ops m D T = true) (hBS : ∀ w, B w → S w) (hQ : T ≠ [] → ∀ c (a : Act) (d : Nat) v w, Q (.panic c) (a.put (some d) v) w → Q (.panic c) a w)
    (mono : ∀ j v w w', B w → B w' → Below w.heap.size w w' → F j v w → F j v w')
    (ps : ∀ j, PS.contains j = true → ∀ v w, F j v w → blk v < w.heap.size)
    (hB0 : B w.drew)
    (tps : ∀ i ∈ T, ∀ j, dstAt ops i = some j → PS.contains j = false)
    (step : ∀ i o j, i < m → i ∉ T → ops[i]? = some o → o.dst = some j → StepOk P ops Q D PS B F l df i o j)
    (stepY : ∀ i o j, i ∈ T → ops[i]? = some o → o.dst = some j → StepYOk P ops S D B F l df i o j)
    (fin : ∀ u w', B w' → (∀ j, D.contains j = true → F j (u j) w') → (∀ j j', D.contains j = true → D.contains j' = true → PS.contains j = true → PS.contains j' = true → j ≠ j' → blk (u j) ≠ blk (u j')) →
      wpListS P ops Q S (ops.toList.drop m) ⟨(setU D u 0 l).toArray, df⟩ w') :
    (Code.region id ops true).wp P Q ⟨l.toArray, df⟩ w := by
  have ok := RegionOk.of chk
  refine wp_region_held (S := S) hmx ?_
  have h := region_any (P := P) (Q := Q) (l := l) (df := df) ok hBS hQ mono ps tps step stepY fin ops.size (Array.replicate ops.size false) (fun k => l.getD k undef) w.drew (by simp)
    (by have := List.countP_le_length (p := fun j => !(Array.replicate ops.size false).getD j true) (l := List.range ops.size); simpa using this)
    (fun i _ hi => by simp [Array.getD_eq_getD_getElem?, hi])
    (fun i hl => by simp [Array.getD_eq_getD_getElem?, Array.getElem?_replicate] at hl; split at hl <;> simp at hl) hB0
    (fun i j hi hl => by simp [Array.getD_eq_getD_getElem?, Array.getElem?_replicate] at hl; split at hl <;> simp at hl)
    (fun i i' j j' hi hi' hl => by simp [Array.getD_eq_getD_getElem?, Array.getElem?_replicate] at hl; split at hl <;> simp at hl)
  rw [setU_self] at h
  exact h

/-! ### the facts, written as a list -/
theorem bcell {W w1 : World} (hb : Below W.heap.size W w1) : (∀ b o, b < W.heap.size → w1.cell? ⟨b, o, none⟩ = W.cell? ⟨b, o, none⟩) ∧ (∀ b o, b < W.heap.size → w1.frozen? ⟨b, o, none⟩ = W.frozen? ⟨b, o, none⟩) :=
  ⟨fun b o h => hb.cell (p := ⟨b, o, none⟩) h, fun b o h => hb.frozen (p := ⟨b, o, none⟩) h⟩
theorem bsize {W w1 : World} (hb : Below W.heap.size W w1) : ∀ b, b < W.heap.size → b < w1.heap.size := fun _ h => Nat.lt_of_lt_of_le h hb.size
/-- a cell that is there stays, whatever has been made since -/
theorem keepcell {W w1 : World} (hb : Below W.heap.size W w1) {a : Addr} {v : Value} (h : W.cell? a = some v) : w1.cell? a = some v :=
  (hb.cell (p := a) (World.block_lt_of_cell? W _ h)).trans h
theorem Blw.after {w W w1 : World} (h : Below w.heap.size w W) (hb : Below W.heap.size W w1) : Below w.heap.size w w1 := h.trans (hb.mono h.size)
theorem Blw.alloc {w W : World} (h : Below w.heap.size w W) (o : Obj) : Below w.heap.size w (W.alloc o) := h.alloc h.size _
theorem Blw.drew {w W : World} (h : Below w.heap.size w W) : Below w.heap.size w W.drew := h.drew
theorem Blw.drewN {w W : World} (n : Nat) (h : Below w.heap.size w W) : Below w.heap.size w (W.drewN n) := ⟨h.os, h.tape, h.output, h.size, h.block⟩
theorem Blw.set {w W : World} (h : Below w.heap.size w W) {p : Addr} (hp : w.heap.size ≤ p.block) (u : Value) : Below w.heap.size w (W.setCell p u) := h.setCell hp u

/-- w' is W0 below W0's size, and so each cell reads -/
abbrev Hld (W0 w' : World) : Prop := Below W0.heap.size W0 w' ∧ (∀ b o, b < W0.heap.size → w'.cell? ⟨b, o, none⟩ = W0.cell? ⟨b, o, none⟩) ∧ (∀ b o, b < W0.heap.size → w'.frozen? ⟨b, o, none⟩ = W0.frozen? ⟨b, o, none⟩) ∧ W0.heap.size ≤ w'.heap.size
theorem heldM {W0 w' : World} (h : Below W0.heap.size W0 w') : Hld W0 w' := ⟨h, fun b o hb => h.cell (p := ⟨b, o, none⟩) hb, fun b o hb => h.frozen (p := ⟨b, o, none⟩) hb, h.size⟩
theorem heldB {W0 w1 w' : World} (h : Hld W0 w1) (hb : Below w1.heap.size w1 w') : Hld W0 w' := heldM (Blw.after h.1 hb)

/-- v leads to a block from B on that holds the values vs from its head on, not frozen -/
def OwnP (B : Nat) (vs : List Value) (v : Value) (w : World) : Prop :=
  ∃ b, v = .pointer (some ⟨b, 0, none⟩) ∧ B ≤ b ∧ b < w.heap.size ∧ (∀ i x, vs[i]? = some x → w.cell? ⟨b, i, none⟩ = some x) ∧ ∀ i, i < vs.length → w.frozen? ⟨b, i, none⟩ = false
theorem OwnP.mono {B : Nat} {vs : List Value} {v : Value} {w w' : World} (h : OwnP B vs v w) (hb : Below w.heap.size w w') : OwnP B vs v w' := by
  obtain ⟨b, h1, h2, h3, h4, h5⟩ := h
  exact ⟨b, h1, h2, bsize hb b h3, fun i x hx => keepcell hb (h4 i x hx), fun i hi => ((bcell hb).2 b i h3).trans (h5 i hi)⟩
theorem OwnP.new (w : World) (vs : List Value) (t : TypeId) : OwnP w.heap.size vs (.pointer (some ⟨w.heap.size, 0, none⟩)) (w.alloc (.cells vs.toArray t)) :=
  ⟨w.heap.size, rfl, Nat.le_refl _, by simp, fun i x hx => by simp [go_sem, hx], fun i hi => by rw [frozen?_alloc_cells]; simp [World.frozen?]⟩

inductive SlotFact where
  | is (v : Value)
  | own (vs : List Value)
  | sat (p : Value → Prop)
def SlotFact.h (B : Nat) : SlotFact → Value → World → Prop
  | .is x, v, _ => v = x
  | .own vs, v, w => OwnP B vs v w
  | .sat p, v, _ => p v
def SlotFact.owns : SlotFact → Bool | .own _ => true | _ => false
def factAt (B : Nat) : List (Nat × SlotFact) → Nat → Value → World → Prop
  | [], _, _, _ => True
  | (k, f) :: r, j, v, w => if k = j then f.h B v w else factAt B r j v w
def ownsAt : List (Nat × SlotFact) → List Nat
  | [] => []
  | (k, f) :: r => if f.owns then k :: ownsAt r else ownsAt r
def allFacts (B : Nat) (u : Nat → Value) (w : World) : List (Nat × SlotFact) → Prop
  | [] => True
  | (k, f) :: r => f.h B (u k) w ∧ allFacts B u w r

theorem SlotFact.mono {B : Nat} {f : SlotFact} {v : Value} {w w' : World} (hb : Below w.heap.size w w') (h : f.h B v w) : f.h B v w' := by
  cases f with
  | is x => exact h
  | own vs => exact OwnP.mono h hb
  | sat p => exact h
theorem SlotFact.low {B B' : Nat} {f : SlotFact} {v : Value} {w : World} (hB : B' ≤ B) (h : f.h B v w) : f.h B' v w := by
  cases f with
  | is x => exact h
  | own vs => obtain ⟨b, h1, h2, h3⟩ := h; exact ⟨b, h1, by omega, h3⟩
  | sat p => exact h
theorem factAt_mono {B : Nat} {fs : List (Nat × SlotFact)} {j : Nat} {v : Value} {w w' : World} (hb : Below w.heap.size w w') (h : factAt B fs j v w) : factAt B fs j v w' := by
  induction fs with
  | nil => trivial
  | cons f r ih =>
    simp only [factAt] at h ⊢
    split
    · rename_i e; rw [if_pos e] at h; exact f.2.mono hb h
    · rename_i e; rw [if_neg e] at h; exact ih h
theorem factAt_at {B : Nat} {fs : List (Nat × SlotFact)} (hn : nodupB (fs.map (·.1)) = true) {i : Nat} {j : Nat} {f : SlotFact} (hi : fs[i]? = some (j, f)) (v : Value) (w : World) : factAt B fs j v w = f.h B v w := by
  induction fs generalizing i with
  | nil => simp at hi
  | cons g r ih =>
    obtain ⟨k, g⟩ := g
    simp only [List.map_cons, nodupB, Bool.and_eq_true, Bool.not_eq_true', List.contains_eq_mem, decide_eq_false_iff_not] at hn
    cases i with
    | zero => simp at hi; obtain ⟨rfl, rfl⟩ := hi; simp [factAt]
    | succ i =>
      simp at hi
      have : k ≠ j := fun e => hn.1 (by subst e; exact List.mem_map.2 ⟨_, List.mem_of_getElem? hi, rfl⟩)
      simp only [factAt, if_neg this]
      exact ih hn.2 hi
theorem ownsAt_mem {fs : List (Nat × SlotFact)} (hn : nodupB (fs.map (·.1)) = true) {i j : Nat} {f : SlotFact} (hi : fs[i]? = some (j, f)) : (ownsAt fs).contains j = f.owns := by
  induction fs generalizing i with
  | nil => simp at hi
  | cons g r ih =>
    obtain ⟨k, g⟩ := g
    simp only [List.map_cons, nodupB, Bool.and_eq_true, Bool.not_eq_true', List.contains_eq_mem, decide_eq_false_iff_not] at hn
    have sub : ∀ (r : List (Nat × SlotFact)) x, x ∈ ownsAt r → x ∈ r.map (·.1) := by
      intro r
      induction r with
      | nil => intro x hx; simp [ownsAt] at hx
      | cons g r ih => intro x hx; simp only [ownsAt] at hx; split at hx <;> simp at hx ⊢ <;> grind
    cases i with
    | zero =>
      simp at hi; obtain ⟨rfl, rfl⟩ := hi
      simp only [ownsAt]
      cases hg : g.owns with
      | true => simp
      | false => simp; intro h; have := sub _ _ h; simp at this hn; grind
    | succ i =>
      simp at hi
      have : k ≠ j := fun e => hn.1 (by subst e; exact List.mem_map.2 ⟨_, List.mem_of_getElem? hi, rfl⟩)
      have h2 := ih hn.2 hi
      simp only [ownsAt]
      split
      · rw [← h2]; simp [Ne.symm this]
      · exact h2
theorem allFacts_of {B : Nat} {u : Nat → Value} {w : World} : ∀ (fs : List (Nat × SlotFact)), (∀ (i j : Nat) (f : SlotFact), fs[i]? = some (j, f) → f.h B (u j) w) → allFacts B u w fs
  | [], _ => trivial
  | (k, f) :: r, h => ⟨h 0 k f rfl, allFacts_of r fun i j f hf => h (i + 1) j f hf⟩

/-- what is to be shown of an operation of the front: into slot j, with the fact f -/
def Step (P : Program) (ops : Array Oper) (Q : Exit → Act → World → Prop) (W0 : World) (fs : List (Nat × SlotFact)) (l : List Value) (df : List Deferred) (i : Nat) (o : Oper) (j : Nat) (f : SlotFact) : Prop :=
  ∀ (u : Nat → Value) (w : World), Hld W0 w → (∀ k, (depsAt ops i).contains k = true → factAt W0.heap.size fs k (u k) w) →
    ∀ K : Act → World → Prop, (∀ v w', Below w.heap.size w w' → f.h w.heap.size v w' → K ⟨(setU (fs.map (·.1)) (upd u j v) 0 l).toArray, df⟩ w') →
      wpList P ops (Exit.then K Q) [o] ⟨(setU (fs.map (·.1)) u 0 l).toArray, df⟩ w
def StepY (P : Program) (ops : Array Oper) (S : World → Prop) (W0 : World) (fs : List (Nat × SlotFact)) (l : List Value) (df : List Deferred) (i : Nat) (o : Oper) (f : SlotFact) : Prop :=
  ∀ (u : Nat → Value) (w : World), Hld W0 w → (∀ k, (depsAt ops i).contains k = true → factAt W0.heap.size fs k (u k) w) →
    ∃ v, (∀ w, S w → (execOp (⟨(setU (fs.map (·.1)) u 0 l).toArray, df⟩ : Act).eval o).run P w = .ok (.value v) w) ∧ o.guard = none ∧ f.owns = false ∧ f.h w.heap.size v w
def Steps (P : Program) (ops : Array Oper) (Q : Exit → Act → World → Prop) (S : World → Prop) (W0 : World) (T : List Nat) (fs : List (Nat × SlotFact)) (l : List Value) (df : List Deferred) : Nat → List (Nat × SlotFact) → List Oper → Prop
  | i, (j, f) :: r, o :: os => (if T.contains i then StepY P ops S W0 fs l df i o f else Step P ops Q W0 fs l df i o j f) ∧ Steps P ops Q S W0 T fs l df (i + 1) r os
  | _, [], os => ∀ (u : Nat → Value) (w' : World), Hld W0 w' → allFacts W0.heap.size u w' fs → (∀ j j', (ownsAt fs).contains j = true → (ownsAt fs).contains j' = true → j ≠ j' → blk (u j) ≠ blk (u j')) →
      wpListS P ops Q S os ⟨(setU (fs.map (·.1)) u 0 l).toArray, df⟩ w'
  | _, _ :: _, [] => False

theorem Steps.at {W0 : World} {T : List Nat} {fs : List (Nat × SlotFact)} {l : List Value} {df : List Deferred} : ∀ (r : List (Nat × SlotFact)) (os : List Oper) (i : Nat), Steps P ops Q S W0 T fs l df i r os →
    (∀ k j f o, r[k]? = some (j, f) → os[k]? = some o → if T.contains (i + k) then StepY P ops S W0 fs l df (i + k) o f else Step P ops Q W0 fs l df (i + k) o j f) ∧ Steps P ops Q S W0 T fs l df (i + r.length) [] (os.drop r.length)
  | [], os, i, h => ⟨fun k j f o hk => by simp at hk, by simpa using h⟩
  | (j, f) :: r, [], i, h => h.elim
  | (j, f) :: r, o :: os, i, h => by
    obtain ⟨h1, h2⟩ := h
    obtain ⟨h3, h4⟩ := Steps.at r os (i + 1) h2
    refine ⟨fun k j' f' o' hk ho => ?_, ?_⟩
    · cases k with
      | zero => simp at hk ho; obtain ⟨rfl, rfl⟩ := hk; subst ho; exact h1
      | succ k => simp at hk ho; have := h3 k j' f' o' hk ho; rwa [show i + 1 + k = i + (k + 1) from by omega] at this
    · simp only [List.length_cons, List.drop_succ_cons]
      rwa [show i + 1 + r.length = i + (r.length + 1) from by omega] at h4

/-- ████ THE REGION, ITS FACTS AS A LIST IN THE OPERATIONS' ORDER ████ -/
theorem region_slots {id : Nat} {l : List Value} {df : List Deferred} {W0 : World} (S : World → Prop) (T : List Nat) (fs : List (Nat × SlotFact)) (hmx : P.follows .mixedOrders = true)
    (chk : regionOk ops fs.length (fs.map (·.1)) T = true) (chk2 : (T.all fun i => ((fs[i]?).map fun g => !g.2.owns).getD true) = true) (hBS : ∀ w', Hld W0 w' → S w') (hQ : T ≠ [] → ∀ c (a : Act) (d : Nat) v w, Q (.panic c) (a.put (some d) v) w → Q (.panic c) a w) (steps : Steps P ops Q S W0 T fs l df 0 fs ops.toList) :
    (Code.region id ops true).wp P Q ⟨l.toArray, df⟩ W0 := by
  have ok := RegionOk.of chk
  have hn : nodupB (fs.map (·.1)) = true := by
    simp only [regionOk, Bool.and_eq_true] at chk; exact chk.1.1.1.1.2
  obtain ⟨s1, s2⟩ := Steps.at fs ops.toList 0 steps
  have inFs : ∀ j, (fs.map (·.1)).contains j = true → ∃ (i : Nat) (f : SlotFact), fs[i]? = some (j, f) := by
    intro j hj
    simp only [List.contains_eq_mem, decide_eq_true_eq, List.mem_map] at hj
    obtain ⟨⟨k, f⟩, hf, rfl⟩ := hj
    obtain ⟨i, hi⟩ := List.mem_iff_getElem?.1 hf
    exact ⟨i, f, hi⟩
  have ownIn : ∀ j, (ownsAt fs).contains j = true → (fs.map (·.1)).contains j = true := by
    have sub : ∀ (r : List (Nat × SlotFact)) x, x ∈ ownsAt r → x ∈ r.map (·.1) := by
      intro r
      induction r with
      | nil => intro x hx; simp [ownsAt] at hx
      | cons g r ih => intro x hx; simp only [ownsAt] at hx; split at hx <;> simp at hx ⊢ <;> grind
    intro j hj
    simp only [List.contains_eq_mem, decide_eq_true_eq] at hj ⊢
    exact sub _ _ hj
  refine region_facts hmx fs.length (fs.map (·.1)) T (ownsAt fs) (Hld W0) (factAt W0.heap.size fs) chk hBS hQ (fun j v w w' _ _ hb h => factAt_mono hb h) ?_ (heldM ((Below.refl _ _).drew)) ?_ ?_ ?_ ?_
  · intro j hj v w h
    obtain ⟨i, f, hf⟩ := inFs j (ownIn j hj)
    rw [factAt_at hn hf] at h
    rw [ownsAt_mem hn hf] at hj
    cases f with
    | own vs => obtain ⟨b, rfl, _, h3, _⟩ := h; exact h3
    | is x => cases hj
    | sat p => cases hj
  · intro i hiT j hd
    obtain ⟨him, _⟩ := ok.take i hiT
    obtain ⟨j', hj1, hj2⟩ := ok.dst i him
    rw [hd] at hj2
    cases hj2
    rw [List.getElem?_map] at hj1
    cases hf : fs[i]? with
    | none => rw [hf] at hj1; cases hj1
    | some g =>
      rw [hf] at hj1
      obtain ⟨k, f⟩ := g
      simp only [Option.map_some, Option.some.injEq] at hj1
      subst hj1
      rw [ownsAt_mem hn hf]
      have h2 := List.all_eq_true.1 chk2 i hiT
      simpa [hf] using h2
  · intro i o j hi hiT ho hd u w hB hdeps K hK
    obtain ⟨j', hj1, hj2⟩ := ok.dst i hi
    have e : j' = j := by simp only [dstAt, ho, Option.bind_some, hd] at hj2; cases hj2; rfl
    subst e
    obtain ⟨⟨k, f⟩, hf, hk⟩ : ∃ g, fs[i]? = some g ∧ g.1 = j' := by
      rw [List.getElem?_map] at hj1
      cases h : fs[i]? with
      | none => rw [h] at hj1; cases hj1
      | some g => rw [h] at hj1; exact ⟨g, rfl, by simpa using hj1⟩
    simp only at hk
    subst hk
    have st := s1 i k f o hf (by simpa using ho)
    rw [Nat.zero_add, if_neg (by simpa using hiT)] at st
    refine st u w hB hdeps K fun v w' hb hv => hK v w' (heldB hB hb) hb (by rw [factAt_at hn hf]; exact f.low hB.2.2.2 hv) fun hp => ?_
    rw [ownsAt_mem hn hf] at hp
    cases f with
    | own vs => obtain ⟨b, rfl, h2, _⟩ := hv; exact h2
    | is x => cases hp
    | sat p => cases hp
  · intro i o j hiT ho hd u w hB hdeps
    obtain ⟨hi, _⟩ := ok.take i hiT
    obtain ⟨j', hj1, hj2⟩ := ok.dst i hi
    have e : j' = j := by simp only [dstAt, ho, Option.bind_some, hd] at hj2; cases hj2; rfl
    subst e
    obtain ⟨⟨k, f⟩, hf, hk⟩ : ∃ g, fs[i]? = some g ∧ g.1 = j' := by
      rw [List.getElem?_map] at hj1
      cases h : fs[i]? with
      | none => rw [h] at hj1; cases hj1
      | some g => rw [h] at hj1; exact ⟨g, rfl, by simpa using hj1⟩
    simp only at hk
    subst hk
    have st := s1 i k f o hf (by simpa using ho)
    rw [Nat.zero_add, if_pos (by simpa using hiT)] at st
    obtain ⟨v, h1, h2, _, h3⟩ := st u w hB hdeps
    refine ⟨v, Or.inl ⟨by simp [Region.wanted, h2], h1⟩, by rw [factAt_at hn hf]; exact f.low hB.2.2.2 h3⟩
  · intro u w' hB hF hP
    refine s2 u w' hB (allFacts_of fs fun i j f hf => ?_) fun j j' hj hj' hne => hP j j' (ownIn j hj) (ownIn j' hj') hj hj' hne
    have := hF j (by simp only [List.contains_eq_mem, decide_eq_true_eq, List.mem_map]; exact ⟨_, List.mem_of_getElem? hf, rfl⟩)
    rwa [factAt_at hn hf] at this
end
end Go.Proofs.YtmondgcehgmamaaGreatDoor

namespace Go.Proofs.YtmondgcehgmamaaGreatDoor
set_option linter.unusedSimpArgs false
set_option linter.unusedVariables false
open Go.RowKit

/-- in a range, as a Bool that the walk does not take apart -/
def inR (a b n : Int) : Bool := decide (a ≤ n) && decide (n ≤ b)
/-- both parts in the range -l to l -/
def inB (l x y : Int) : Bool := inR (-l) l x && inR (-l) l y
/-- a pair as the value of a struct or of an array -/
abbrev pr (x y : Int) : Value := .agg #[.int .i64 x, .int .i64 y]

theorem l6In_c (n a b : Int) (w : World) : Calls Tryz.prog 45 #[.int .i64 n, .int .i64 a, .int .i64 b] w fun e w' => e = .returned (.bool (inR a b n)) ∧ w = w' := by
  by_cases h1 : a ≤ n <;> by_cases h2 : n ≤ b
  all_goals
    go_enter Tryz.func45, Tryz.ntmps45
    go_wp2
    go_ret
    exact ⟨by simp [inR, h1, h2], rfl⟩

theorem sGaussSmall_c (x y : Int) (w : World) : Calls Tryz.prog 155 #[pr x y] w fun e w' => e = .returned (.bool (inB 1000000 x y)) ∧ Below w.heap.size w w' := by
  rcases Bool.eq_false_or_eq_true (inR (-1000000) 1000000 x) with h1 | h1
  all_goals
    go_enter Tryz.func155, Tryz.ntmps155
    go_wp2_with (go_at_call 45; refine (l6In_c _ _ _ _).mono ?_; rintro e w1 ⟨rfl, rfl⟩)
    go_ret
    exact ⟨by simp [inB, h1], by (first | ((repeat' with_reducible first | assumption | exact Below.refl _ _ | apply Blw.alloc | apply Blw.drew | apply Blw.drewN | (refine Blw.after ?_ (by assumption)) | (refine Blw.set ?_ (by first | (dsimp only; omega) | (simp; omega)) _)); done) | (repeat' (first | assumption | exact Below.refl _ _ | apply Blw.alloc | apply Blw.drew | apply Blw.drewN | (refine Blw.after ?_ (by assumption)) | (refine Blw.set ?_ (by first | (dsimp only; omega) | (simp; done) | (simp; omega)) _))))⟩

theorem gPair_c (x y : Int) (w : World) : Calls Tryz.prog 171 #[pr x y] w fun e w' => e = .returned (pr x y) ∧ Below w.heap.size w w' := by
  go_enter Tryz.func171, Tryz.ntmps171
  go_wp2
  exact bodyPost_ret (v := pr x y) (by simp [results, Tryz.results171, go_sem]) rfl ⟨rfl, by (first | ((repeat' with_reducible first | assumption | exact Below.refl _ _ | apply Blw.alloc | apply Blw.drew | apply Blw.drewN | (refine Blw.after ?_ (by assumption)) | (refine Blw.set ?_ (by first | (dsimp only; omega) | (simp; omega)) _)); done) | (repeat' (first | assumption | exact Below.refl _ _ | apply Blw.alloc | apply Blw.drew | apply Blw.drewN | (refine Blw.after ?_ (by assumption)) | (refine Blw.set ?_ (by first | (dsimp only; omega) | (simp; done) | (simp; omega)) _))))⟩

theorem within_c (x y l : Int) (w : World) (hl : 0 ≤ l ∧ l ≤ 1000000) : Calls Tryz.prog 209 #[pr x y, .int .i64 l] w fun e w' => e = .returned (.bool (inB l x y)) ∧ Below w.heap.size w w' := by
  obtain ⟨hl0, hl1⟩ := hl
  by_cases h1 : -l ≤ x <;> by_cases h2 : x ≤ l <;> by_cases h3 : -l ≤ y <;> by_cases h4 : y ≤ l
  all_goals
    go_enter Tryz.func209, Tryz.ntmps209
    go_wp2
    go_ret
    exact ⟨by simp [inB, inR, h1, h2, h3, h4], by (first | ((repeat' with_reducible first | assumption | exact Below.refl _ _ | apply Blw.alloc | apply Blw.drew | apply Blw.drewN | (refine Blw.after ?_ (by assumption)) | (refine Blw.set ?_ (by first | (dsimp only; omega) | (simp; omega)) _)); done) | (repeat' (first | assumption | exact Below.refl _ _ | apply Blw.alloc | apply Blw.drew | apply Blw.drewN | (refine Blw.after ?_ (by assumption)) | (refine Blw.set ?_ (by first | (dsimp only; omega) | (simp; done) | (simp; omega)) _))))⟩

theorem small_c (x y : Int) (w : World) : Calls Tryz.prog 172 #[pr x y] w fun e w' => e = .returned (.bool (inB 1000000 x y)) ∧ Below w.heap.size w w' := by
  go_enter Tryz.func172, Tryz.ntmps172
  go_wp2_with (go_at_call 209; refine (within_c _ _ _ _ (by omega)).mono ?_; rintro e w1 ⟨rfl, hb⟩; obtain ⟨hc, hf⟩ := bcell hb; have hz := bsize hb; have hs := hb.size; try simp at hs)
  go_ret
  exact ⟨rfl, by (first | ((repeat' with_reducible first | assumption | exact Below.refl _ _ | apply Blw.alloc | apply Blw.drew | apply Blw.drewN | (refine Blw.after ?_ (by assumption)) | (refine Blw.set ?_ (by first | (dsimp only; omega) | (simp; omega)) _)); done) | (repeat' (first | assumption | exact Below.refl _ _ | apply Blw.alloc | apply Blw.drew | apply Blw.drewN | (refine Blw.after ?_ (by assumption)) | (refine Blw.set ?_ (by first | (dsimp only; omega) | (simp; done) | (simp; omega)) _))))⟩

theorem gauss_c (x y : Int) (w : World) : Calls Tryz.prog 221 #[pr x y] w fun e w' => e = .returned (pr x y) ∧ Below w.heap.size w w' := by
  go_enter Tryz.func221, Tryz.ntmps221
  go_wp2
  exact bodyPost_ret (v := pr x y) (by simp [results, Tryz.results221, go_sem]) rfl ⟨rfl, by (first | ((repeat' with_reducible first | assumption | exact Below.refl _ _ | apply Blw.alloc | apply Blw.drew | apply Blw.drewN | (refine Blw.after ?_ (by assumption)) | (refine Blw.set ?_ (by first | (dsimp only; omega) | (simp; omega)) _)); done) | (repeat' (first | assumption | exact Below.refl _ _ | apply Blw.alloc | apply Blw.drew | apply Blw.drewN | (refine Blw.after ?_ (by assumption)) | (refine Blw.set ?_ (by first | (dsimp only; omega) | (simp; done) | (simp; omega)) _))))⟩
end Go.Proofs.YtmondgcehgmamaaGreatDoor

namespace Go.Proofs.YtmondgcehgmamaaGreatDoor
set_option linter.unusedSimpArgs false
set_option linter.unusedVariables false
open Go.RowKit

/-- a refusal as a panic's value -/
def refV (s : ByteArray) : Value := .iface 81 (.string s)
def ent (s : ByteArray) : PanicEntry := { v := refV s, recovered := false }
def refE (s : ByteArray) : Ending := .panicked [ent s]
def noB : ByteArray := ⟨#[110, 111]⟩
def okB : ByteArray := ⟨#[111, 107]⟩
def whatB : ByteArray := ⟨#[119, 104, 97, 116]⟩
theorem failUnless_t (w : World) : Calls Tryz.prog 122 #[.bool true] w fun e w' => e = .returned (.tuple #[]) ∧ w' = w := by
  go_enter Tryz.func122, Tryz.ntmps122
  go_wp2
  go_end0
  exact ⟨rfl, rfl⟩
theorem failUnless_f (w : World) : Calls Tryz.prog 122 #[.bool false] w fun e w' => e = refE noB ∧ w' = w := by
  go_enter Tryz.func122, Tryz.ntmps122
  go_wp2
  exact ⟨rfl, rfl, rfl⟩
theorem mustS_t (v : ByteArray) (w : World) : Calls Tryz.prog 123 #[.string v, .bool true] w fun e w' => e = .returned (.string v) ∧ w' = w := by
  go_enter Tryz.func123, Tryz.ntmps123
  go_wp2_with (go_at_call 122; refine (failUnless_t _).mono ?_; rintro e w1 ⟨rfl, rfl⟩)
  go_ret
  exact ⟨rfl, rfl⟩
theorem mustS_f (v : ByteArray) (w : World) : Calls Tryz.prog 123 #[.string v, .bool false] w fun e w' => e = refE noB ∧ w' = w := by
  go_enter Tryz.func123, Tryz.ntmps123
  go_wp2_with fail
  refine (failUnless_f _).mono ?_
  rintro e w1 ⟨rfl, rfl⟩
  unfold refE
  go_wp2_with fail
  exact ⟨rfl, rfl, rfl⟩
theorem ta_ref (xT : TypeId) (s : ByteArray) (w : World) : (Instr.typeAssert (.iface 81 (.string s)) xT 81 true).run Tryz.prog w = .ok (.tuple #[.string s, .bool true]) w := by
  simp [Instr.typeAssert, run_underlying Tryz.underlying81, go_sem, Result.andThen]
theorem ta_nil (xT : TypeId) (w : World) : (Instr.typeAssert .nilIface xT 81 true).run Tryz.prog w = .ok (.tuple #[.string ⟨#[]⟩, .bool false]) w := by
  simp [Instr.typeAssert, run_underlying Tryz.underlying81, go_sem, Result.andThen]
/-- the closure over a line that was refused: the refusal's text is the output -/
theorem ans1_panicking (p : Addr) (x s : ByteArray) (w : World) (hc : w.cell? p = some (.string x)) (hz : w.frozen? p = false) :
    CallsD Tryz.prog 58 #[.pointer (some p)] (.panicking [ent s]) w fun e u' w' =>
      e = .returned (.tuple #[]) ∧ u' = .panicking [{ v := refV s, recovered := true }] ∧ w' = w.setCell p (.string s) := by
  refine callsD_of_wpS Tryz.func58 rfl fun c₀ cs hu => ?_
  have ta := fun xT => ta_ref xT s
  apply wpS_seq
  apply wpS_region
  simp [wpOpsS, go_sem, recoverD, hu, Tryz.ntmps58, Exit.thenS, ent, refV, ta]
  apply wpS_seq
  apply wpS_region
  simp [wpOpsS, go_sem, Tryz.ntmps58, Exit.thenS]
  refine wpS_cond (t := true) (by simp [Act.eval, Array.replicate]) ?_
  simp only [if_true]
  apply wpS_region
  simp [wpOpsS, go_sem, hc, hz, bodyPostS, results, Tryz.results58]
theorem ans1_idle (p : Addr) (w : World) :
    CallsD Tryz.prog 58 #[.pointer (some p)] .returning w fun e u' w' => e = .returned (.tuple #[]) ∧ u' = .returning ∧ w' = w := by
  refine callsD_of_wpS Tryz.func58 rfl fun c₀ cs hu => ?_
  have ta := ta_nil
  apply wpS_seq
  apply wpS_region
  simp [wpOpsS, go_sem, recoverD, hu, Tryz.ntmps58, Exit.thenS, ta]
  apply wpS_seq
  apply wpS_region
  simp [wpOpsS, go_sem, Tryz.ntmps58, Exit.thenS]
  refine wpS_cond (t := false) (by simp [Act.eval, Array.replicate]) ?_
  simp only [Bool.false_eq_true, if_false]
  refine wpS_of_wp (wp_skip ?_)
  cases c₀
  simp_all [bodyPostS, results, Tryz.results58]
end Go.Proofs.YtmondgcehgmamaaGreatDoor

namespace Go.Proofs.YtmondgcehgmamaaGreatDoor
set_option linter.unusedSimpArgs false
set_option linter.unusedVariables false
open Go.RowKit
open Go.ChangeMaps Go.MapKept

abbrev EnS := ByteArray × Value
def mkSL (E : List EnS) : List MapEntry := E.mapIdx fun i x => { key := .string x.1, val := x.2, born := i }
def mkS (E : List EnS) : Array MapEntry := (mkSL E).toArray
def getS (s : ByteArray) : List EnS → Option Value
  | [] => none
  | x :: r => if s == x.1 then some x.2 else getS s r
theorem findNow_S (s : ByteArray) : ∀ (es : List MapEntry) (E : List EnS) (i : Nat), es.map (fun e => (e.key, e.val)) = E.map (fun x => (Value.string x.1, x.2)) →
    ∃ r, Instr.findNow .string (.string s) es i = some r ∧ r.map (·.2) = getS s E := by
  intro es
  induction es with
  | nil =>
    intro E i h
    cases E with
    | nil => exact ⟨none, rfl, rfl⟩
    | cons x r => simp at h
  | cons e es ih =>
    intro E i h
    cases E with
    | nil => simp at h
    | cons x r =>
      simp only [List.map_cons, List.cons.injEq, Prod.mk.injEq] at h
      obtain ⟨⟨hk, hv⟩, ht⟩ := h
      obtain ⟨q, h1, h2⟩ := ih r (i + 1) ht
      unfold Instr.findNow getS
      rw [hk]
      cases hq : (s == x.1) with
      | true => exact ⟨some (i, e.val), by simp [Instr.sameNow, hq], by simp [hv]⟩
      | false => exact ⟨q, by simp [Instr.sameNow, hq, h1], by simp [h2]⟩
theorem mkSL_kv (E : List EnS) : (mkSL E).map (fun e => (e.key, e.val)) = E.map (fun x => (Value.string x.1, x.2)) := by
  apply List.ext_getElem?
  intro i
  simp [mkSL, List.getElem?_mapIdx]
  cases E[i]? <;> rfl
section
variable {P : Program} {M T el : TypeId}
theorem findKey_S (hT : P.underlying T = some .string) (s : ByteArray) (E : List EnS) (w : World) : ∃ r, (Instr.findKey T (.string s) (mkSL E)).run P w = .ok r w ∧ r.map (·.2) = getS s E := by
  obtain ⟨r, h1, h2⟩ := findNow_S s (mkSL E) E 0 (mkSL_kv E)
  exact ⟨r, by unfold Instr.findKey; simp [run_underlying hT, h1, Result.andThen], h2⟩
theorem checkKey_S (hT : P.underlying T = some .string) (em : Bool) (s : ByteArray) (w : World) : (Instr.checkKey em 10000 T (.string s)).run P w = .ok () w := by
  change (Instr.checkKey em (9999 + 1) T (.string s)).run P w = _
  rw [Instr.checkKey]
  simp [run_underlying hT]
theorem lookS (hM : P.underlying M = some (.map T el)) (hT : P.underlying T = some .string) {zv : Value} (w : World) (hz : (zeroValue el).run P w = .ok zv w) {b c : Nat} {E : List EnS} (hb : w.heap[b]? = some (.map (mkS E) c)) (s : ByteArray) :
    (Instr.lookup M (.map (some b)) (.string s) false).run P w = .ok ((getS s E).getD zv) w := by
  obtain ⟨r, h1, h2⟩ := findKey_S hT s E w
  have h1' : (Instr.findKey T (.string s) (mkS E).toList).run P w = .ok r w := h1
  unfold Instr.lookup
  rw [← h2]
  cases r with
  | none => simp [run_underlying hM, Go.MapKept.run_getObj_map hb, checkKey_S hT, h1', hz]
  | some q => simp [run_underlying hM, Go.MapKept.run_getObj_map hb, checkKey_S hT, h1']
theorem putS (hM : P.underlying M = some (.map T el)) (hT : P.underlying T = some .string) (w : World) {b : Nat} {E : List EnS} (hb : w.heap[b]? = some (.map (mkS E) E.length)) (s : ByteArray) (v : Value) (hn : getS s E = none) :
    (Instr.mapUpdate M (.map (some b)) (.string s) v).run P w = .ok () (setBlock w b (.map (mkS (E ++ [(s, v)])) (E ++ [(s, v)]).length)) := by
  obtain ⟨r, h1, h2⟩ := findKey_S hT s E w
  have h1' : (Instr.findKey T (.string s) (mkS E).toList).run P w = .ok r w := h1
  rw [hn] at h2
  have hr : r = none := by cases r <;> simp_all
  rw [hr] at h1'
  have e2 : (mkS E).push { key := .string s, val := v, born := E.length } = mkS (E ++ [(s, v)]) := by simp [mkS, mkSL]
  unfold Instr.mapUpdate
  simp [run_underlying hM, Go.MapKept.run_getObj_map hb, checkKey_S hT, h1', Go.MapKept.run_setObj_map _ hb, e2, setBlock]
/-- the map just made: laid into, it is as if made with one entry more -/
theorem putA (hM : P.underlying M = some (.map T el)) (hT : P.underlying T = some .string) (w : World) (E : List EnS) (s : ByteArray) (v : Value) (hn : getS s E = none) :
    (Instr.mapUpdate M (.map (some w.heap.size)) (.string s) v).run P (w.alloc (.map (mkS E) E.length)) = .ok () (w.alloc (.map (mkS (E ++ [(s, v)])) (E ++ [(s, v)]).length)) := by
  have h := putS hM hT (w.alloc (.map (mkS E) E.length)) (b := w.heap.size) (E := E) (heap_alloc_new w _) s v hn
  rw [h]
  congr 1
  unfold setBlock World.alloc
  dsimp only
  congr 1
  apply Array.ext_getElem?
  intro i
  rw [Array.getElem?_setIfInBounds]
  simp only [Array.getElem?_push, Array.size_push]
  by_cases h1 : w.heap.size = i
  · subst h1; simp
  · rw [if_neg h1, if_neg (fun e => h1 e.symm), if_neg (fun e => h1 e.symm)]
end
def fnV (n : Nat) : Value := .func (.func n) #[] #[]
/-- the words that have a rest behind them -/
def tabR : List EnS := [(⟨#[115, 101, 116]⟩, fnV 81), (⟨#[97, 100, 100]⟩, fnV 82), (⟨#[116, 105, 109, 101, 115]⟩, fnV 83), (⟨#[103, 97, 117, 115, 115]⟩, fnV 84),
  (⟨#[112, 108, 97, 99, 101]⟩, fnV 85), (⟨#[99, 114, 101, 97, 115, 101]⟩, fnV 86), (⟨#[116, 117, 114, 110]⟩, fnV 87), (⟨#[116, 105, 108, 101]⟩, fnV 88)]
def tabA : List EnS := [(⟨#[110, 101, 103, 97, 116, 101]⟩, fnV 89), (⟨#[110, 101, 120, 116]⟩, fnV 90), (⟨#[115, 104, 111, 119]⟩, fnV 91), (⟨#[118, 97, 108, 117, 101]⟩, fnV 92),
  (⟨#[101, 110, 100]⟩, fnV 93), (⟨#[99, 111, 114, 110, 101, 114, 115]⟩, fnV 94), (⟨#[115, 117, 109]⟩, fnV 95)]
def stS (E : List EnS) (w : World) : World := w.alloc (.map (mkS E) E.length)
theorem stS_put {M el : TypeId} (hM : Tryz.prog.underlying M = some (.map 9 el)) (E : List EnS) (s : ByteArray) (v : Value) (w : World) (hn : getS s E = none) :
    (Instr.mapUpdate M (.map (some w.heap.size)) (.string s) v).run Tryz.prog (stS E w) = .ok () (stS (E ++ [(s, v)]) w) := putA hM Tryz.underlying9 w E s v hn
set_option maxRecDepth 20000 in
theorem wordsWithRest_c (w : World) : Calls Tryz.prog 60 #[] w fun e w' => e = .returned (.map (some w.heap.size)) ∧ w' = stS tabR w := by
  have hmm : ∀ w : World, (Instr.makeMap 86 none).run Tryz.prog w = .ok (.map (some w.heap.size)) (stS [] w) := fun _ => rfl
  have h0 := stS_put Tryz.underlying86 (tabR.take 0) ⟨#[115, 101, 116]⟩ (fnV 81) w (by kernel_rfl)
  have h1 := stS_put Tryz.underlying86 (tabR.take 1) ⟨#[97, 100, 100]⟩ (fnV 82) w (by kernel_rfl)
  have h2 := stS_put Tryz.underlying86 (tabR.take 2) ⟨#[116, 105, 109, 101, 115]⟩ (fnV 83) w (by kernel_rfl)
  have h3 := stS_put Tryz.underlying86 (tabR.take 3) ⟨#[103, 97, 117, 115, 115]⟩ (fnV 84) w (by kernel_rfl)
  have h4 := stS_put Tryz.underlying86 (tabR.take 4) ⟨#[112, 108, 97, 99, 101]⟩ (fnV 85) w (by kernel_rfl)
  have h5 := stS_put Tryz.underlying86 (tabR.take 5) ⟨#[99, 114, 101, 97, 115, 101]⟩ (fnV 86) w (by kernel_rfl)
  have h6 := stS_put Tryz.underlying86 (tabR.take 6) ⟨#[116, 117, 114, 110]⟩ (fnV 87) w (by kernel_rfl)
  have h7 := stS_put Tryz.underlying86 (tabR.take 7) ⟨#[116, 105, 108, 101]⟩ (fnV 88) w (by kernel_rfl)
  rw [show tabR.take 0 ++ [(_, _)] = tabR.take 1 from rfl] at h0
  rw [show tabR.take 1 ++ [(_, _)] = tabR.take 2 from rfl] at h1
  rw [show tabR.take 2 ++ [(_, _)] = tabR.take 3 from rfl] at h2
  rw [show tabR.take 3 ++ [(_, _)] = tabR.take 4 from rfl] at h3
  rw [show tabR.take 4 ++ [(_, _)] = tabR.take 5 from rfl] at h4
  rw [show tabR.take 5 ++ [(_, _)] = tabR.take 6 from rfl] at h5
  rw [show tabR.take 6 ++ [(_, _)] = tabR.take 7 from rfl] at h6
  rw [show tabR.take 7 ++ [(_, _)] = tabR.take 8 from rfl] at h7
  rw [show tabR.take 0 = [] from rfl] at h0
  rw [show tabR.take 8 = tabR from rfl] at h7
  unfold fnV at h0 h1 h2 h3 h4 h5 h6 h7
  go_enter Tryz.func60, Tryz.ntmps60
  go_wp2
  go_ret
  exact ⟨rfl, rfl⟩
set_option maxRecDepth 20000 in
theorem wordsAlone_c (w : World) : Calls Tryz.prog 61 #[] w fun e w' => e = .returned (.map (some w.heap.size)) ∧ w' = stS tabA w := by
  have hmm : ∀ w : World, (Instr.makeMap 89 none).run Tryz.prog w = .ok (.map (some w.heap.size)) (stS [] w) := fun _ => rfl
  have h0 := stS_put Tryz.underlying89 (tabA.take 0) ⟨#[110, 101, 103, 97, 116, 101]⟩ (fnV 89) w (by kernel_rfl)
  have h1 := stS_put Tryz.underlying89 (tabA.take 1) ⟨#[110, 101, 120, 116]⟩ (fnV 90) w (by kernel_rfl)
  have h2 := stS_put Tryz.underlying89 (tabA.take 2) ⟨#[115, 104, 111, 119]⟩ (fnV 91) w (by kernel_rfl)
  have h3 := stS_put Tryz.underlying89 (tabA.take 3) ⟨#[118, 97, 108, 117, 101]⟩ (fnV 92) w (by kernel_rfl)
  have h4 := stS_put Tryz.underlying89 (tabA.take 4) ⟨#[101, 110, 100]⟩ (fnV 93) w (by kernel_rfl)
  have h5 := stS_put Tryz.underlying89 (tabA.take 5) ⟨#[99, 111, 114, 110, 101, 114, 115]⟩ (fnV 94) w (by kernel_rfl)
  have h6 := stS_put Tryz.underlying89 (tabA.take 6) ⟨#[115, 117, 109]⟩ (fnV 95) w (by kernel_rfl)
  rw [show tabA.take 0 ++ [(_, _)] = tabA.take 1 from rfl] at h0
  rw [show tabA.take 1 ++ [(_, _)] = tabA.take 2 from rfl] at h1
  rw [show tabA.take 2 ++ [(_, _)] = tabA.take 3 from rfl] at h2
  rw [show tabA.take 3 ++ [(_, _)] = tabA.take 4 from rfl] at h3
  rw [show tabA.take 4 ++ [(_, _)] = tabA.take 5 from rfl] at h4
  rw [show tabA.take 5 ++ [(_, _)] = tabA.take 6 from rfl] at h5
  rw [show tabA.take 6 ++ [(_, _)] = tabA.take 7 from rfl] at h6
  rw [show tabA.take 0 = [] from rfl] at h0
  rw [show tabA.take 7 = tabA from rfl] at h6
  unfold fnV at h0 h1 h2 h3 h4 h5 h6
  go_enter Tryz.func61, Tryz.ntmps61
  go_wp2
  go_ret
  exact ⟨rfl, rfl⟩
end Go.Proofs.YtmondgcehgmamaaGreatDoor

namespace Go.Proofs.YtmondgcehgmamaaGreatDoor
set_option linter.unusedSimpArgs false
set_option linter.unusedVariables false

/-- a byte list is an expansion -/
def vldL (l : List UInt8) : Bool := decide (1 ≤ l.length) && decide (l.length ≤ 50) && (l == [48] || !(l.head? == some 48)) && l.all fun c => c == 48 || c == 49
/-- the digit that a byte is -/
def dg (c : UInt8) : Int := (c.toNat : Int) - 48
def bitC (c : UInt8) : Bool := c == 48 || c == 49
theorem bitC_iff (c : UInt8) : bitC c = true ↔ c.toNat = 48 ∨ c.toNat = 49 := by
  unfold bitC
  rw [Bool.or_eq_true, beq_iff_eq, beq_iff_eq, ← UInt8.toNat_inj, ← UInt8.toNat_inj]
  rfl
theorem bitC_not {c : UInt8} (h : ¬ (c.toNat = 48 ∨ c.toNat = 49)) : bitC c = false := by
  rw [← Bool.not_eq_true, bitC_iff]; exact h
theorem dg_bit {c : UInt8} (h : bitC c = true) : 0 ≤ dg c ∧ dg c ≤ 1 := by
  rw [bitC_iff] at h; unfold dg; omega
theorem vldL_iff (l : List UInt8) : vldL l = true ↔ 1 ≤ l.length ∧ l.length ≤ 50 ∧ (l = [48] ∨ l.head? ≠ some 48) ∧ ∀ c ∈ l, bitC c = true := by
  simp only [vldL, bitC, Bool.and_eq_true, decide_eq_true_eq, Bool.or_eq_true, beq_iff_eq, List.all_eq_true, Bool.not_eq_true', beq_eq_false_iff_ne, ne_eq]
  grind

/-! ### values -/
def valF (l : List UInt8) : Int × Int := l.foldl (fun z c => (-z.1 - z.2 + dg c, z.1 - z.2)) (0, 0)
def valX (l : List UInt8) : Int := (valF l).1
def valY (l : List UInt8) : Int := (valF l).2
theorem valX_nil : valX [] = 0 := rfl
theorem valY_nil : valY [] = 0 := rfl
theorem valX_snoc (l : List UInt8) (c : UInt8) : valX (l ++ [c]) = -valX l - valY l + dg c := by simp [valX, valY, valF]
theorem valY_snoc (l : List UInt8) (c : UInt8) : valY (l ++ [c]) = valX l - valY l := by simp [valX, valY, valF]
theorem rev_ind {α : Type} {P : List α → Prop} (h0 : P []) (h1 : ∀ l a, P l → P (l ++ [a])) (l : List α) : P l := by
  rw [← List.reverse_reverse l]
  induction l.reverse with
  | nil => exact h0
  | cons a r ih => rw [List.reverse_cons]; exact h1 _ _ ih
theorem val_le (l : List UInt8) (h : ∀ c ∈ l, bitC c = true) : (-(2 ^ l.length : Nat) + 1 ≤ valX l ∧ valX l ≤ (2 ^ l.length : Nat) - 1) ∧ (-(2 ^ l.length : Nat) + 1 ≤ valY l ∧ valY l ≤ (2 ^ l.length : Nat) - 1) := by
  induction l using rev_ind with
  | h0 => simp [valX, valY, valF]
  | h1 l c ih =>
    have hc := dg_bit (h c (by simp))
    have := ih fun c hc => h c (by simp [hc])
    rw [valX_snoc, valY_snoc, List.length_append, List.length_singleton, Nat.pow_succ]
    generalize 2 ^ l.length = n at *
    omega
theorem pow_le50 {k n : Nat} (h : k ≤ n) : 2 ^ k ≤ 2 ^ n := Nat.pow_le_pow_right (by omega) h
theorem val_in {l : List UInt8} (h : ∀ c ∈ l, bitC c = true) (hl : l.length ≤ 50) : (-1125899906842624 ≤ valX l ∧ valX l ≤ 1125899906842624) ∧ (-1125899906842624 ≤ valY l ∧ valY l ≤ 1125899906842624) := by
  have a := val_le l h
  have b := pow_le50 hl
  have e : (2 : Nat) ^ 50 = 1125899906842624 := by decide
  rw [e] at b
  omega

/-! ### binary numbers -/
def idxF (l : List UInt8) : Int := l.foldl (fun n c => 2 * n + dg c) 0
theorem idxF_snoc (l : List UInt8) (c : UInt8) : idxF (l ++ [c]) = 2 * idxF l + dg c := by simp [idxF]
theorem idx_le (l : List UInt8) (h : ∀ c ∈ l, bitC c = true) : 0 ≤ idxF l ∧ idxF l ≤ (2 ^ l.length : Nat) - 1 := by
  induction l using rev_ind with
  | h0 => simp [idxF]
  | h1 l c ih =>
    have hc := dg_bit (h c (by simp))
    have := ih fun c hc => h c (by simp [hc])
    rw [idxF_snoc, List.length_append, List.length_singleton, Nat.pow_succ]
    generalize 2 ^ l.length = n at *
    omega
theorem idx_in {l : List UInt8} (h : ∀ c ∈ l, bitC c = true) (hl : l.length ≤ 50) : 0 ≤ idxF l ∧ idxF l ≤ 1125899906842623 := by
  have a := idx_le l h
  have b := pow_le50 hl
  have e : (2 : Nat) ^ 50 = 1125899906842624 := by decide
  rw [e] at b
  omega

/-! ### the bytes of a string -/
abbrev toL (s : ByteArray) : List UInt8 := s.data.toList
def bs (l : List UInt8) : ByteArray := ⟨l.toArray⟩
theorem bs_toL (s : ByteArray) : bs (toL s) = s := by simp [bs, toL]
theorem toL_bs (l : List UInt8) : toL (bs l) = l := by simp [bs, toL]
theorem toL_len (s : ByteArray) : (toL s).length = s.size := Array.length_toList
theorem toL_get (s : ByteArray) (k : Nat) (h : k < s.size) : (toL s)[k]? = some s[k] := by
  have : k < s.data.size := h
  show s.data.toList[k]? = _
  rw [Array.getElem?_toList, Array.getElem?_eq_getElem this]; rfl
theorem take_snocB (s : ByteArray) (k : Nat) (h : k < s.size) : (toL s).take (k + 1) = (toL s).take k ++ [s[k]] := by
  rw [List.take_add_one, toL_get s k h]; rfl
theorem take_allB (s : ByteArray) (k : Nat) (h : s.size ≤ k) : (toL s).take k = toL s := List.take_of_length_le (by rw [toL_len]; exact h)
/-- a string is an expansion -/
def vldB (s : ByteArray) : Bool := vldL (toL s)
theorem vldB_len {s : ByteArray} (h : vldB s = true) : 1 ≤ s.size ∧ s.size ≤ 50 := by
  have := (vldL_iff _).1 h; rw [toL_len] at this; exact ⟨this.1, this.2.1⟩
theorem vldB_bits {s : ByteArray} (h : vldB s = true) : ∀ c ∈ toL s, bitC c = true := ((vldL_iff _).1 h).2.2.2
theorem vldB_at {s : ByteArray} (h : vldB s = true) (k : Nat) (hk : k < s.size) : s[k].toNat = 48 ∨ s[k].toNat = 49 :=
  (bitC_iff _).1 (vldB_bits h _ (List.mem_of_getElem? (toL_get s k hk)))
theorem take_bits {s : ByteArray} (h : vldB s = true) (k : Nat) : ∀ c ∈ (toL s).take k, bitC c = true := fun c hc => vldB_bits h c (List.mem_of_mem_take hc)
theorem toL_ext {s t : ByteArray} (h : toL s = toL t) : s = t := by rw [← bs_toL s, ← bs_toL t, h]
/-- ways out of an expansion -/
theorem vldB_empty {s : ByteArray} (h : s.size < 1) : vldB s = false := by
  rw [← Bool.not_eq_true]; intro e; have := vldB_len e; omega
theorem vldB_long {s : ByteArray} (h : 50 < s.size) : vldB s = false := by
  rw [← Bool.not_eq_true]; intro e; have := vldB_len e; omega
theorem vldB_lead {s : ByteArray} (h0 : 0 < s.size) (h : s[0].toNat = 48) (h1 : (toL s == [48]) = false) : vldB s = false := by
  rw [← Bool.not_eq_true]
  intro e
  have := ((vldL_iff _).1 e).2.2.1
  have g := toL_get s 0 h0
  rw [← List.head?_eq_getElem?] at g
  rcases this with h2 | h2
  · rw [h2] at h1; simp at h1
  · rw [g] at h2; apply h2; rw [Option.some.injEq, ← UInt8.toNat_inj, h]; rfl
theorem vldB_bad {s : ByteArray} (k : Nat) (hk : k < s.size) (h : ¬ (s[k].toNat = 48 ∨ s[k].toNat = 49)) : vldB s = false := by
  rw [← Bool.not_eq_true]; intro e; exact h (vldB_at e k hk)
theorem vldB_good {s : ByteArray} (h0 : 1 ≤ s.size) (h1 : s.size ≤ 50) (h2 : (toL s == [48]) = true ∨ s[0].toNat ≠ 48) (h3 : ∀ c ∈ toL s, bitC c = true) : vldB s = true := by
  refine (vldL_iff _).2 ⟨by rw [toL_len]; exact h0, by rw [toL_len]; exact h1, ?_, h3⟩
  rcases h2 with h2 | h2
  · exact Or.inl (by simpa using h2)
  · right
    have g := toL_get s 0 (by omega)
    rw [← List.head?_eq_getElem?] at g
    rw [g]
    intro e
    apply h2
    rw [Option.some.injEq] at e
    rw [e]; rfl
end Go.Proofs.YtmondgcehgmamaaGreatDoor

namespace Go.Proofs.YtmondgcehgmamaaGreatDoor
set_option linter.unusedSimpArgs false
set_option linter.unusedVariables false
open Go.RowKit

theorem q_cases (q : UInt8) : ∀ l : List UInt8, q ∉ l ∨ ∃ a r, l = a ++ q :: r ∧ q ∉ a
  | [] => .inl (by simp)
  | c :: l => by
    by_cases h : c = q
    · exact .inr ⟨[], l, by rw [h]; rfl, by simp⟩
    · rcases q_cases q l with h1 | ⟨a, r, h1, h2⟩
      · exact .inl (by simp [h1, Ne.symm h])
      · exact .inr ⟨c :: a, r, by rw [h1]; rfl, by simp [h2, Ne.symm h]⟩
theorem indexQ_hit {q : UInt8} : ∀ {a r : List UInt8}, q ∉ a → Lib.index (a ++ q :: r) [q] = a.length
  | [], r, _ => by
    have h0 : ([q] : List UInt8).isPrefixOf (q :: r) = true := by simp [List.isPrefixOf]
    have e : Lib.index (q :: r) [q] = if ([q] : List UInt8).isPrefixOf (q :: r) then 0 else if Lib.index r [q] == -1 then -1 else Lib.index r [q] + 1 := rfl
    show Lib.index (q :: r) [q] = _
    rw [e, h0]; rfl
  | c :: a, r, h => by
    have h1 : ¬ q = c := fun e => h (by simp [e])
    have h2 : q ∉ a := fun e => h (by simp [e])
    show Lib.index (c :: (a ++ q :: r)) [q] = _
    have h3 : ([q] : List UInt8).isPrefixOf (c :: (a ++ q :: r)) = false := by
      show ((q == c) && _) = false
      rw [beq_eq_false_iff_ne.2 h1]; rfl
    have e : Lib.index (c :: (a ++ q :: r)) [q] = if ([q] : List UInt8).isPrefixOf (c :: (a ++ q :: r)) then 0 else if Lib.index (a ++ q :: r) [q] == -1 then -1 else Lib.index (a ++ q :: r) [q] + 1 := rfl
    rw [e, h3, indexQ_hit h2, if_neg (by decide)]
    have h4 : ((a.length : Int) == -1) = false := beq_eq_false_iff_ne.2 (by omega)
    rw [h4, if_neg (by decide), List.length_cons]; omega
theorem indexQ_no {q : UInt8} : ∀ {l : List UInt8}, q ∉ l → Lib.index l [q] = -1
  | [], _ => rfl
  | c :: l, h => by
    have h1 : ¬ q = c := fun e => h (by simp [e])
    have h2 : q ∉ l := fun e => h (by simp [e])
    have h3 : ([q] : List UInt8).isPrefixOf (c :: l) = false := by
      show ((q == c) && _) = false
      rw [beq_eq_false_iff_ne.2 h1]; rfl
    have e : Lib.index (c :: l) [q] = if ([q] : List UInt8).isPrefixOf (c :: l) then 0 else if Lib.index l [q] == -1 then -1 else Lib.index l [q] + 1 := rfl
    rw [e, h3, indexQ_no h2]; rfl
theorem cutQ_hit {q : UInt8} {a r : List UInt8} (h : q ∉ a) : Lib.cut (a ++ q :: r) [q] = (a, r, true) := by
  unfold Lib.cut
  rw [indexQ_hit h, if_pos (by omega), Int.toNat_natCast, List.take_left]
  rw [show a.length + ([q] : List UInt8).length = a.length + 1 from rfl, ← List.drop_drop, List.drop_left]; rfl
theorem cutQ_no {q : UInt8} {l : List UInt8} (h : q ∉ l) : Lib.cut l [q] = (l, [], false) := by
  unfold Lib.cut
  rw [indexQ_no h, if_neg (by decide)]
def cutsQ (q : UInt8) : List UInt8 → List (List UInt8)
  | [] => [[]]
  | c :: r => if c = q then [] :: cutsQ q r else match cutsQ q r with
    | [] => [[c]]
    | x :: t => (c :: x) :: t
theorem cutsQ_no {q : UInt8} : ∀ {l : List UInt8}, q ∉ l → cutsQ q l = [l]
  | [], _ => rfl
  | c :: l, h => by
    have h1 : ¬ c = q := fun e => h (by simp [e])
    have h2 : q ∉ l := fun e => h (by simp [e])
    unfold cutsQ
    rw [if_neg h1, cutsQ_no h2]
theorem cutsQ_hit {q : UInt8} : ∀ {a r : List UInt8}, q ∉ a → cutsQ q (a ++ q :: r) = a :: cutsQ q r
  | [], r, _ => by
    show cutsQ q (q :: r) = _
    rw [cutsQ, if_pos rfl]
  | c :: a, r, h => by
    have h1 : ¬ c = q := fun e => h (by simp [e])
    have h2 : q ∉ a := fun e => h (by simp [e])
    show cutsQ q (c :: (a ++ q :: r)) = _
    rw [cutsQ, if_neg h1, cutsQ_hit h2]
theorem cutsQ_len (q : UInt8) : ∀ l : List UInt8, (cutsQ q l).length = l.count q + 1
  | [] => rfl
  | c :: l => by
    have ih := cutsQ_len q l
    unfold cutsQ
    by_cases h : c = q
    · rw [if_pos h, h, List.count_cons_self, List.length_cons, ih]
    · rw [if_neg h, List.count_cons_of_ne (by simpa using h)]
      revert ih
      cases cutsQ q l with
      | nil => intro ih; simp at ih
      | cons x t => intro ih; simpa using ih
theorem splitQ (q : UInt8) : ∀ (n : Nat) (l : List UInt8), l.length ≤ n → Lib.splitK [q] 0 (l.count q) l = cutsQ q l := by
  intro n
  induction n with
  | zero =>
    intro l hl
    have : l = [] := List.eq_nil_of_length_eq_zero (by omega)
    subst this; rfl
  | succ n ih =>
    intro l hl
    rcases q_cases q l with h | ⟨a, r, rfl, h⟩
    · rw [List.count_eq_zero_of_not_mem h, cutsQ_no h]; rfl
    · have hc : (a ++ q :: r).count q = r.count q + 1 := by
        rw [List.count_append, List.count_eq_zero_of_not_mem h, List.count_cons_self]; omega
      have e : ∀ s k, Lib.splitK [q] 0 (k + 1) s = if Lib.index s [q] == -1 then [s] else s.take ((Lib.index s [q]).toNat + 0) :: Lib.splitK [q] 0 k (s.drop ((Lib.index s [q]).toNat + 1)) := fun _ _ => rfl
      have h4 : ((a.length : Int) == -1) = false := beq_eq_false_iff_ne.2 (by omega)
      rw [hc, cutsQ_hit h, e, indexQ_hit h, h4, if_neg (by decide), Int.toNat_natCast, Nat.add_zero, List.take_left]
      congr 1
      rw [← List.drop_drop, List.drop_left]
      exact ih r (by simp at hl; omega)
/-- strings.Split at one byte -/
theorem splitB_Q (q : UInt8) (s : ByteArray) : Lib.splitB ⟨#[q]⟩ 0 (Lib.countB s ⟨#[q]⟩) s = (cutsQ q (toL s)).map bs := by
  have h1 := Lib.splitB_data ⟨#[q]⟩ 0 (Lib.countB s ⟨#[q]⟩) s
  have h2 : Lib.countB s ⟨#[q]⟩ = (toL s).count q := Lib.count_one q (toL s)
  have h3 : (Lib.splitB ⟨#[q]⟩ 0 (Lib.countB s ⟨#[q]⟩) s).map toL = cutsQ q (toL s) := by
    rw [← splitQ q _ (toL s) (Nat.le_refl _), ← h2]
    exact h1
  rw [← h3, List.map_map]
  have : (bs ∘ toL) = id := by funext x; exact bs_toL x
  rw [this, List.map_id]
theorem countB_Q (q : UInt8) (s : ByteArray) : Lib.countB s ⟨#[q]⟩ = (toL s).count q := Lib.count_one q (toL s)
end Go.Proofs.YtmondgcehgmamaaGreatDoor

namespace Go.Proofs.YtmondgcehgmamaaGreatDoor
set_option linter.unusedSimpArgs false
set_option linter.unusedVariables false
open Go.RowKit

theorem toList_toL (s : ByteArray) : s.toList = toL s := ByteArray.toList_eq s
theorem iter_below (w : World) (s : ByteArray) (k : Nat) : Below w.heap.size w (w.iter s k) := (Below.refl _ _).alloc (Nat.le_refl _) _
def isXY (x y : Int) (c : UInt8) : Bool := decide ((c.toNat : Int) = x) || decide ((c.toNat : Int) = y)
theorem isXY_iff (x y : Int) (c : UInt8) : isXY x y c = true ↔ (c.toNat : Int) = x ∨ (c.toNat : Int) = y := by
  unfold isXY; rw [Bool.or_eq_true, decide_eq_true_eq, decide_eq_true_eq]
def onlyXY (x y : Int) (s : ByteArray) : Bool := (toL s).all (isXY x y)
theorem onlyXY_bad {x y : Int} {s : ByteArray} (k : Nat) (hk : k < s.size) (h : ¬ ((s[k].toNat : Int) = x ∨ (s[k].toNat : Int) = y)) : onlyXY x y s = false := by
  rw [← Bool.not_eq_true]
  intro e
  exact h ((isXY_iff _ _ _).1 (List.all_eq_true.1 e _ (List.mem_of_getElem? (toL_get s k hk))))
theorem onlyXY_good {x y : Int} {s : ByteArray} (h : ∀ c ∈ toL s, isXY x y c = true) : onlyXY x y s = true := List.all_eq_true.2 h
def XYRel (x y : Int) (s : ByteArray) (w : World) (m : Nat) (wr : World) : Prop := ∃ k : Nat, k + m = s.size ∧ wr = w.iter s k ∧ ∀ c ∈ (toL s).take k, isXY x y c = true
theorem XYRel.step {x y : Int} {s : ByteArray} {k : Nat} (hk : k < s.size) (h : ∀ c ∈ (toL s).take k, isXY x y c = true) (hc : (s[k].toNat : Int) = x ∨ (s[k].toNat : Int) = y) : ∀ c ∈ (toL s).take (k + 1), isXY x y c = true := by
  rw [take_snocB s k hk]
  intro c hm
  rcases List.mem_append.1 hm with hm | hm
  · exact h c hm
  · rw [List.mem_singleton] at hm; rw [hm]; exact (isXY_iff _ _ _).2 hc
set_option maxHeartbeats 1000000 in
theorem onlyOf_c (x y : Int) (s : ByteArray) (w : World) (hx : 0 ≤ x ∧ x < 128) (hy : 0 ≤ y ∧ y < 128) : Calls Tryz.prog 117 #[.string s, .int .i32 x, .int .i32 y] w fun e w' => e = .returned (.bool (onlyXY x y s)) ∧ Below w.heap.size w w' := by
  obtain ⟨x1, x2⟩ := hx
  obtain ⟨y1, y2⟩ := hy
  go_enter Tryz.func117, Tryz.ntmps117
  go_wp2
  go_loopg [8] s.size (fun m v wr => XYRel x y s w m wr)
  case atStart => exact ⟨0, by omega, rfl, by simp⟩
  case round =>
    obtain ⟨k, hk, rfl, hb⟩ := hrel
    have HB := Lib.hid hb
    clear hb
    by_cases hlt : k < s.size
    · have hnx : ∀ ty, (Instr.next (.pointer (some ⟨w.heap.size, 0, none⟩)) true ty).run Tryz.prog (w.iter s k) = _ := fun ty => run_next_any w s k ty hlt
      by_cases e0 : s[k].toNat < 128
      · have hd : Utf8.decode s k = (s[k].toNat, 1) := decode_ascii s k hlt e0
        rw [hd] at hnx
        clear hd e0
        by_cases e8 : (s[k].toNat : Int) = x
        · have HS := Lib.hid (XYRel.step hlt HB.out (Or.inl e8))
          have a1 : ((s[k].toNat : Int) != x) = false := by simp [e8]
          clear e8
          go_wp2
          go_roundg (gk - 1)
          case measure => omega
          case rel => exact ⟨k + 1, by omega, rfl, HS.out⟩
        · by_cases e9 : (s[k].toNat : Int) = y
          · have HS := Lib.hid (XYRel.step hlt HB.out (Or.inr e9))
            have a1 : ((s[k].toNat : Int) != x) = true := by simp [e8]
            have a2 : ((s[k].toNat : Int) != y) = false := by simp [e9]
            clear e8 e9
            go_wp2
            go_roundg (gk - 1)
            case measure => omega
            case rel => exact ⟨k + 1, by omega, rfl, HS.out⟩
          · have H := Lib.hid (onlyXY_bad (x := x) (y := y) k hlt (fun h => h.elim e8 e9))
            have a1 : ((s[k].toNat : Int) != x) = true := by simp [e8]
            have a2 : ((s[k].toNat : Int) != y) = true := by simp [e9]
            clear e8 e9
            go_wp2
            go_ret
            exact ⟨by rw [H.out]; rfl, by (first | ((repeat' with_reducible first | assumption | exact Below.refl _ _ | apply Blw.alloc | apply Blw.drew | apply Blw.drewN | (refine Blw.after ?_ (by assumption)) | (refine Blw.set ?_ (by first | (dsimp only; omega) | (simp; omega)) _)); done) | (repeat' (first | assumption | exact Below.refl _ _ | apply Blw.alloc | apply Blw.drew | apply Blw.drewN | (refine Blw.after ?_ (by assumption)) | (refine Blw.set ?_ (by first | (dsimp only; omega) | (simp; done) | (simp; omega)) _))))⟩
      · have hd := (decode_high s k hlt (by omega)).1
        have H := Lib.hid (onlyXY_bad (x := x) (y := y) k hlt (by omega))
        have a1 : (((Utf8.decode s k).1 : Int) != x) = true := by simp; omega
        have a2 : (((Utf8.decode s k).1 : Int) != y) = true := by simp; omega
        clear hd e0
        go_wp2
        go_ret
        exact ⟨by rw [H.out]; rfl, by (first | ((repeat' with_reducible first | assumption | exact Below.refl _ _ | apply Blw.alloc | apply Blw.drew | apply Blw.drewN | (refine Blw.after ?_ (by assumption)) | (refine Blw.set ?_ (by first | (dsimp only; omega) | (simp; omega)) _)); done) | (repeat' (first | assumption | exact Below.refl _ _ | apply Blw.alloc | apply Blw.drew | apply Blw.drewN | (refine Blw.after ?_ (by assumption)) | (refine Blw.set ?_ (by first | (dsimp only; omega) | (simp; done) | (simp; omega)) _))))⟩
    · have hnx : ∀ ty, (Instr.next (.pointer (some ⟨w.heap.size, 0, none⟩)) true ty).run Tryz.prog (w.iter s k) = _ := fun ty => run_next_end w s k ty hlt
      have H := Lib.hid (onlyXY_good (x := x) (y := y) (by rw [← take_allB s k (by omega)]; exact HB.out))
      go_wp2
      go_ret
      exact ⟨by rw [H.out]; rfl, by (first | ((repeat' with_reducible first | assumption | exact Below.refl _ _ | apply Blw.alloc | apply Blw.drew | apply Blw.drewN | (refine Blw.after ?_ (by assumption)) | (refine Blw.set ?_ (by first | (dsimp only; omega) | (simp; omega)) _)); done) | (repeat' (first | assumption | exact Below.refl _ _ | apply Blw.alloc | apply Blw.drew | apply Blw.drewN | (refine Blw.after ?_ (by assumption)) | (refine Blw.set ?_ (by first | (dsimp only; omega) | (simp; done) | (simp; omega)) _))))⟩
end Go.Proofs.YtmondgcehgmamaaGreatDoor

namespace Go.Proofs.YtmondgcehgmamaaGreatDoor
set_option linter.unusedSimpArgs false
set_option linter.unusedVariables false
open Go.RowKit

/-- the first bytes are digits; so many are left -/
def VRel (s : ByteArray) (w : World) (m : Nat) (i : Value) (wr : World) : Prop := ∃ k : Nat, k + m = s.size ∧ i = .int .i64 k ∧ wr = w ∧ ∀ c ∈ (toL s).take k, bitC c = true
theorem VRel.step {s : ByteArray} {k : Nat} (hk : k < s.size) (h : ∀ c ∈ (toL s).take k, bitC c = true) (hc : s[k].toNat = 48 ∨ s[k].toNat = 49) : ∀ c ∈ (toL s).take (k + 1), bitC c = true := by
  rw [take_snocB s k hk]
  intro c hm
  rcases List.mem_append.1 hm with hm | hm
  · exact h c hm
  · rw [List.mem_singleton] at hm; rw [hm]; exact (bitC_iff _).2 hc
theorem lead_cases (s : ByteArray) (h1 : 1 ≤ s.size) : ((s.toList == [48]) = false ∧ s[0].toNat = 48) ∨ ((s.toList == [48]) = true ∧ s[0].toNat = 48) ∨ s[0].toNat ≠ 48 := by
  by_cases h : s[0].toNat = 48 <;> cases (s.toList == [48]) <;> simp [h]
set_option maxHeartbeats 1000000 in
theorem sDigitsValid_c (s : ByteArray) (w : World) : Calls Tryz.prog 40 #[.string s] w fun e w' => e = .returned (.bool (vldB s)) ∧ w = w' := by
  by_cases h0 : 1 ≤ s.size ∧ s.size ≤ 50
  · obtain ⟨h1, h2⟩ := h0
    have hin : inR 1 50 (s.size : Int) = true := by simp [inR]; omega
    have hlt : 0 < s.size := by omega
    rcases lead_cases s h1 with ⟨h4, h5⟩ | h5
    · have H := Lib.hid (vldB_lead hlt h5 (by rw [← toList_toL]; exact h4))
      have h6 : ((s[0].toNat : Int) == 48) = true := by simp [h5]
      clear h5
      go_enter Tryz.func40, Tryz.ntmps40
      go_wp2_with (go_at_call 45; refine (l6In_c _ _ _ _).mono ?_; rintro e w1 ⟨rfl, rfl⟩)
      go_ret
      exact ⟨by rw [H.out]; rfl, rfl⟩
    · have HG := Lib.hid (show (∀ c ∈ toL s, bitC c = true) → vldB s = true from vldB_good h1 h2 (h5.elim (fun h => Or.inl (by rw [← toList_toL]; exact h.1)) Or.inr))
      rcases h5 with ⟨h4, h5⟩ | h5
      all_goals
        first | have h6 : ((s[0].toNat : Int) == 48) = true := by simp [h5]
              | have h6 : ((s[0].toNat : Int) == 48) = false := by simp; omega
        clear h5
        go_enter Tryz.func40, Tryz.ntmps40
        go_wp2_with (go_at_call 45; refine (l6In_c _ _ _ _).mono ?_; rintro e w1 ⟨rfl, rfl⟩)
        go_loopg [3] s.size (fun m i wr => VRel s w m i wr)
        case atStart => exact ⟨0, by omega, rfl, rfl, by simp⟩
        case round =>
          obtain ⟨k, hk, rfl, rfl, hb⟩ := hrel
          have HB := Lib.hid hb
          clear hb
          by_cases hlt : k < s.size
          · by_cases e8 : s[k].toNat = 48
            · have HS := Lib.hid (VRel.step hlt HB.out (Or.inl e8))
              have a1 : ((s[k].toNat : Int) != 48) = false := by simp [e8]
              clear e8
              go_wp2
              go_roundg (gk - 1)
              case measure => omega
              case rel => exact ⟨k + 1, by omega, by go_num, rfl, HS.out⟩
            · by_cases e9 : s[k].toNat = 49
              · have HS := Lib.hid (VRel.step hlt HB.out (Or.inr e9))
                have a1 : ((s[k].toNat : Int) != 48) = true := by simp [e9]
                have a2 : ((s[k].toNat : Int) != 49) = false := by simp [e9]
                clear e8 e9
                go_wp2
                go_roundg (gk - 1)
                case measure => omega
                case rel => exact ⟨k + 1, by omega, by go_num, rfl, HS.out⟩
              · have H := Lib.hid (vldB_bad k hlt (by omega))
                have a1 : ((s[k].toNat : Int) != 48) = true := by simp; omega
                have a2 : ((s[k].toNat : Int) != 49) = true := by simp; omega
                clear e8 e9
                go_wp2
                go_ret
                exact ⟨by rw [H.out]; rfl, rfl⟩
          · have H := Lib.hid (HG.out (by rw [← take_allB s k (by omega)]; exact HB.out))
            go_wp2
            go_ret
            exact ⟨by rw [H.out]; rfl, rfl⟩
  · have H := Lib.hid (show vldB s = false from by rcases Nat.lt_or_ge s.size 1 with h | h; exact vldB_empty h; exact vldB_long (by omega))
    have hin : inR 1 50 (s.size : Int) = false := by simp [inR]; omega
    go_enter Tryz.func40, Tryz.ntmps40
    go_wp2_with (go_at_call 45; refine (l6In_c _ _ _ _).mono ?_; rintro e w1 ⟨rfl, rfl⟩)
    go_ret
    exact ⟨by rw [H.out]; rfl, rfl⟩

/-- the same, with the iterator's block -/
def VRelR (s : ByteArray) (w : World) (m : Nat) (wr : World) : Prop := ∃ k : Nat, k + m = s.size ∧ wr = w.iter s k ∧ ∀ c ∈ (toL s).take k, bitC c = true
/-- a text has no other bytes than digits -/
def onlyB (s : ByteArray) : Bool := (toL s).all bitC
theorem onlyB_bad {s : ByteArray} (k : Nat) (hk : k < s.size) (h : ¬ (s[k].toNat = 48 ∨ s[k].toNat = 49)) : onlyB s = false := by
  rw [← Bool.not_eq_true]
  intro e
  exact h ((bitC_iff _).1 (List.all_eq_true.1 e _ (List.mem_of_getElem? (toL_get s k hk))))
theorem onlyB_good {s : ByteArray} (h : ∀ c ∈ toL s, bitC c = true) : onlyB s = true := List.all_eq_true.2 h
theorem onlyB_bits {s : ByteArray} (h : onlyB s = true) : ∀ c ∈ toL s, bitC c = true := List.all_eq_true.1 h
theorem vldB_only {s : ByteArray} (h0 : 1 ≤ s.size) (h1 : s.size ≤ 50) (h2 : (toL s == [48]) = true ∨ s[0].toNat ≠ 48) : vldB s = onlyB s := by
  cases h : onlyB s
  · rw [← Bool.not_eq_true]
    intro e
    rw [onlyB_good (vldB_bits e)] at h
    cases h
  · exact vldB_good h0 h1 h2 (onlyB_bits h)
theorem onlyB_XY (s : ByteArray) : onlyXY 48 49 s = onlyB s := by
  unfold onlyXY onlyB
  congr 1
  funext c
  rw [Bool.eq_iff_iff, isXY_iff, bitC_iff]
  omega
theorem iOnly_c (s : ByteArray) (w : World) : Calls Tryz.prog 114 #[.string s] w fun e w' => e = .returned (.bool (onlyB s)) ∧ Below w.heap.size w w' := by
  have H := Lib.hid (onlyB_XY s)
  go_enter Tryz.func114, Tryz.ntmps114
  go_wp2_with (go_at_call 117; refine (onlyOf_c 48 49 _ _ (by decide) (by decide)).mono ?_; rintro e w1 ⟨rfl, hb⟩; obtain ⟨hc, hf⟩ := bcell hb; have hz := bsize hb; have hs := hb.size; try simp at hs)
  go_ret
  exact ⟨by rw [← H.out]; rfl, by (first | ((repeat' with_reducible first | assumption | exact Below.refl _ _ | apply Blw.alloc | apply Blw.drew | apply Blw.drewN | (refine Blw.after ?_ (by assumption)) | (refine Blw.set ?_ (by first | (dsimp only; omega) | (simp; omega)) _)); done) | (repeat' (first | assumption | exact Below.refl _ _ | apply Blw.alloc | apply Blw.drew | apply Blw.drewN | (refine Blw.after ?_ (by assumption)) | (refine Blw.set ?_ (by first | (dsimp only; omega) | (simp; done) | (simp; omega)) _))))⟩
set_option maxHeartbeats 1000000 in
theorem iDigitsValid_c (s : ByteArray) (w : World) : Calls Tryz.prog 66 #[.string s] w fun e w' => e = .returned (.bool (vldB s)) ∧ Below w.heap.size w w' := by
  by_cases h0 : 1 ≤ s.size ∧ s.size ≤ 50
  · obtain ⟨h1, h2⟩ := h0
    have hlt : 0 < s.size := by omega
    rcases lead_cases s h1 with ⟨h4, h5⟩ | h5
    · have H := Lib.hid (vldB_lead hlt h5 (by rw [← toList_toL]; exact h4))
      have h6 : ((s[0].toNat : Int) == 48) = true := by simp [h5]
      clear h5
      go_enter Tryz.func66, Tryz.ntmps66
      go_wp2
      go_ret
      exact ⟨by rw [H.out]; rfl, by (first | ((repeat' with_reducible first | assumption | exact Below.refl _ _ | apply Blw.alloc | apply Blw.drew | apply Blw.drewN | (refine Blw.after ?_ (by assumption)) | (refine Blw.set ?_ (by first | (dsimp only; omega) | (simp; omega)) _)); done) | (repeat' (first | assumption | exact Below.refl _ _ | apply Blw.alloc | apply Blw.drew | apply Blw.drewN | (refine Blw.after ?_ (by assumption)) | (refine Blw.set ?_ (by first | (dsimp only; omega) | (simp; done) | (simp; omega)) _))))⟩
    · have H := Lib.hid (vldB_only h1 h2 (h5.elim (fun h => Or.inl (by rw [← toList_toL]; exact h.1)) Or.inr))
      rcases h5 with ⟨h4, h5⟩ | h5
      all_goals
        first | have h6 : ((s[0].toNat : Int) == 48) = true := by simp [h5]
              | have h6 : ((s[0].toNat : Int) == 48) = false := by simp; omega
        clear h5
        go_enter Tryz.func66, Tryz.ntmps66
        go_wp2_with (go_at_call 114; refine (iOnly_c _ _).mono ?_; rintro e w1 ⟨rfl, hb⟩; obtain ⟨hc, hf⟩ := bcell hb; have hz := bsize hb; have hs := hb.size; try simp at hs)
        go_ret
        exact ⟨by rw [H.out]; rfl, by (first | ((repeat' with_reducible first | assumption | exact Below.refl _ _ | apply Blw.alloc | apply Blw.drew | apply Blw.drewN | (refine Blw.after ?_ (by assumption)) | (refine Blw.set ?_ (by first | (dsimp only; omega) | (simp; omega)) _)); done) | (repeat' (first | assumption | exact Below.refl _ _ | apply Blw.alloc | apply Blw.drew | apply Blw.drewN | (refine Blw.after ?_ (by assumption)) | (refine Blw.set ?_ (by first | (dsimp only; omega) | (simp; done) | (simp; omega)) _))))⟩
  · have H := Lib.hid (show vldB s = false from by rcases Nat.lt_or_ge s.size 1 with h | h; exact vldB_empty h; exact vldB_long (by omega))
    by_cases h1 : s.size < 1
    · go_enter Tryz.func66, Tryz.ntmps66
      go_wp2
      go_ret
      exact ⟨by rw [H.out]; rfl, by (first | ((repeat' with_reducible first | assumption | exact Below.refl _ _ | apply Blw.alloc | apply Blw.drew | apply Blw.drewN | (refine Blw.after ?_ (by assumption)) | (refine Blw.set ?_ (by first | (dsimp only; omega) | (simp; omega)) _)); done) | (repeat' (first | assumption | exact Below.refl _ _ | apply Blw.alloc | apply Blw.drew | apply Blw.drewN | (refine Blw.after ?_ (by assumption)) | (refine Blw.set ?_ (by first | (dsimp only; omega) | (simp; done) | (simp; omega)) _))))⟩
    · go_enter Tryz.func66, Tryz.ntmps66
      go_wp2
      go_ret
      exact ⟨by rw [H.out]; rfl, by (first | ((repeat' with_reducible first | assumption | exact Below.refl _ _ | apply Blw.alloc | apply Blw.drew | apply Blw.drewN | (refine Blw.after ?_ (by assumption)) | (refine Blw.set ?_ (by first | (dsimp only; omega) | (simp; omega)) _)); done) | (repeat' (first | assumption | exact Below.refl _ _ | apply Blw.alloc | apply Blw.drew | apply Blw.drewN | (refine Blw.after ?_ (by assumption)) | (refine Blw.set ?_ (by first | (dsimp only; omega) | (simp; done) | (simp; omega)) _))))⟩
end Go.Proofs.YtmondgcehgmamaaGreatDoor

namespace Go.Proofs.YtmondgcehgmamaaGreatDoor
set_option linter.unusedSimpArgs false
set_option linter.unusedVariables false
open Go.RowKit

theorem alloc_size (w : World) (o : Obj) : (w.alloc o).heap.size = w.heap.size + 1 := by show (w.heap.push o).size = _; simp
theorem iterAt_cell (w : World) (k : Nat) (s : ByteArray) (pos : Nat) {b o : Nat} (h : b ≠ k) : (w.iterAt k s pos).cell? ⟨b, o, none⟩ = w.cell? ⟨b, o, none⟩ :=
  World.cell?_of_block (w := w) (a := ⟨b, o, none⟩) (Lib.iterAt_other w k b s pos h)
theorem iterAt_froz (w : World) (k : Nat) (s : ByteArray) (pos : Nat) {b o : Nat} (h : b ≠ k) : (w.iterAt k s pos).frozen? ⟨b, o, none⟩ = w.frozen? ⟨b, o, none⟩ :=
  World.frozen?_of_block (w := w) (a := ⟨b, o, none⟩) (Lib.iterAt_other w k b s pos h)
theorem iter_of_below {w w' : World} (h : Below w.heap.size w w') {k : Nat} {s : ByteArray} {pos : Nat} (hk : w.heap[k]? = some (.stringIter s pos)) : w'.heap[k]? = some (.stringIter s pos) :=
  (h.block k (Array.getElem?_eq_some_iff.1 hk).1).trans hk
theorem iter_set {w : World} {k : Nat} {s : ByteArray} {pos : Nat} (hk : w.heap[k]? = some (.stringIter s pos)) {a : Addr} (ha : k ≠ a.block) (v : Value) : (w.setCell a v).heap[k]? = some (.stringIter s pos) :=
  (Below.heap_setCell _ _ _ _ ha).trans hk
theorem iter_lt {w : World} {k : Nat} {s : ByteArray} {pos : Nat} (hk : w.heap[k]? = some (.stringIter s pos)) : k < w.heap.size := (Array.getElem?_eq_some_iff.1 hk).1
theorem iter_cell (w : World) (s : ByteArray) (pos : Nat) {b o : Nat} {v : Value} (h : w.cell? ⟨b, o, none⟩ = some v) : (w.iter s pos).cell? ⟨b, o, none⟩ = some v := keepcell (iter_below w s pos) h
theorem iter_froz (w : World) (s : ByteArray) (pos : Nat) {b o : Nat} (hb : b < w.heap.size) : (w.iter s pos).frozen? ⟨b, o, none⟩ = w.frozen? ⟨b, o, none⟩ := (iter_below w s pos).frozen (p := ⟨b, o, none⟩) hb
end Go.Proofs.YtmondgcehgmamaaGreatDoor

namespace Go.Proofs.YtmondgcehgmamaaGreatDoor
set_option linter.unusedSimpArgs false
set_option linter.unusedVariables false

def lastD (x y : Int) : Int := (x + y) % 2
def nX (x y : Int) : Int := (y - (x - lastD x y)) / 2
def nY (x y : Int) : Int := (-(x - lastD x y) - y) / 2
theorem lastD_01 (x y : Int) : lastD x y = 0 ∨ lastD x y = 1 := by unfold lastD; omega
theorem two_nX (x y : Int) : 2 * nX x y = y - (x - lastD x y) := by unfold nX lastD; omega
theorem two_nY (x y : Int) : 2 * nY x y = -(x - lastD x y) - y := by unfold nY lastD; omega
/-- a number is its last digit and b times the rest -/
theorem back_x (x y : Int) : x = -nX x y - nY x y + lastD x y := by have := two_nX x y; have := two_nY x y; omega
theorem back_y (x y : Int) : y = nX x y - nY x y := by have := two_nX x y; have := two_nY x y; omega
theorem lastD_of (x y d : Int) (hd : d = 0 ∨ d = 1) : lastD (-x - y + d) (x - y) = d := by unfold lastD; omega
theorem nX_of (x y d : Int) (hd : d = 0 ∨ d = 1) : nX (-x - y + d) (x - y) = x := by have := two_nX (-x - y + d) (x - y); rw [lastD_of x y d hd] at this; omega
theorem nY_of (x y d : Int) (hd : d = 0 ∨ d = 1) : nY (-x - y + d) (x - y) = y := by have := two_nY (-x - y + d) (x - y); rw [lastD_of x y d hd] at this; omega
theorem next_in {x y : Int} {k : Int} (hx : -k ≤ x ∧ x ≤ k) (hy : -k ≤ y ∧ y ≤ k) : (-k ≤ nX x y ∧ nX x y ≤ k) ∧ (-k ≤ nY x y ∧ nY x y ≤ k) := by
  have := two_nX x y; have := two_nY x y; have := lastD_01 x y; omega

def nm (x y : Int) : Int := x * x + y * y
theorem nm_next (x y : Int) : 2 * nm (nX x y) (nY x y) = (x - lastD x y) * (x - lastD x y) + y * y := by
  have h1 := two_nX x y
  have h2 := two_nY x y
  generalize nX x y = a at *
  generalize nY x y = b at *
  generalize hu : x - lastD x y = u at *
  have e1 : u = -a - b := by omega
  have e2 : y = a - b := by omega
  subst e2
  rw [e1]
  unfold nm
  grind
theorem sqr_ge (x : Int) : 0 ≤ x * x := by rcases Int.le_total 0 x with h | h; exact Int.mul_nonneg h h; exact Int.mul_nonneg_of_nonpos_of_nonpos h h
theorem nm_less {x y : Int} (h : 6 ≤ nm x y) : nm (nX x y) (nY x y) < nm x y ∧ 0 ≤ nm (nX x y) (nY x y) := by
  have h1 := nm_next x y
  have h0 : 0 ≤ nm (nX x y) (nY x y) := by have := sqr_ge (nX x y); have := sqr_ge (nY x y); unfold nm; omega
  refine ⟨?_, h0⟩
  rcases lastD_01 x y with hd | hd
  · rw [hd, Int.sub_zero] at h1; unfold nm at *; omega
  · rw [hd] at h1
    have e : (x - 1) * (x - 1) = x * x - 2 * x + 1 := by grind
    rw [e] at h1
    have k : -2 * x + 1 < nm x y := by
      by_cases hx : x ≤ -3
      · have : 0 ≤ (-x - 3) * (-x) := Int.mul_nonneg (by omega) (by omega)
        have e2 : (-x - 3) * (-x) = x * x + 3 * x := by grind
        have := sqr_ge y
        unfold nm; omega
      · omega
    unfold nm at *; omega
def cntS : Nat → Int → Int → Nat
  | 0, _, _ => 0
  | f + 1, x, y => if x = 0 ∧ y = 0 then 0 else cntS f (nX x y) (nY x y) + 1
theorem cntS_le : ∀ f x y, cntS f x y ≤ f
  | 0, _, _ => Nat.le_refl _
  | f + 1, x, y => by unfold cntS; split; omega; have := cntS_le f (nX x y) (nY x y); omega
/-- how many rounds, at most -/
def ms (x y : Int) : Nat := if 6 ≤ nm x y then (nm x y).toNat + 100 else cntS 20 x y
theorem small_all : ∀ a : Fin 5, ∀ b : Fin 5, let x : Int := (a.val : Int) - 2; let y : Int := (b.val : Int) - 2; nm x y < 6 → ¬ (x = 0 ∧ y = 0) → nm (nX x y) (nY x y) < 6 ∧ cntS 20 (nX x y) (nY x y) < cntS 20 x y := by decide +kernel
theorem small_in {x y : Int} (h : nm x y < 6) : (-2 ≤ x ∧ x ≤ 2) ∧ (-2 ≤ y ∧ y ≤ 2) := by
  have key : ∀ a b : Int, a * a + b * b < 6 → -2 ≤ a ∧ a ≤ 2 := by
    intro a b h
    have hb := sqr_ge b
    have h1 : a < 3 := by
      apply Int.lt_of_not_ge; intro h3
      have := Int.mul_le_mul h3 h3 (by omega) (by omega); omega
    have h2 : -3 < a := by
      apply Int.lt_of_not_ge; intro h3
      have h4 : 3 ≤ -a := by omega
      have := Int.mul_le_mul h4 h4 (by omega) (by omega)
      rw [Int.neg_mul_neg] at this; omega
    omega
  exact ⟨key x y h, key y x (by unfold nm at h; omega)⟩
theorem ms_less {x y : Int} (hz : ¬ (x = 0 ∧ y = 0)) : ms (nX x y) (nY x y) < ms x y := by
  by_cases h : 6 ≤ nm x y
  · obtain ⟨h1, h2⟩ := nm_less h
    unfold ms
    rw [if_pos h]
    split
    · omega
    · have := cntS_le 20 (nX x y) (nY x y); omega
  · obtain ⟨h1, h2⟩ := small_in (Int.not_le.1 h)
    have := small_all ⟨(x + 2).toNat, by omega⟩ ⟨(y + 2).toNat, by omega⟩
    simp only [show ((x + 2).toNat : Int) - 2 = x by omega, show ((y + 2).toNat : Int) - 2 = y by omega] at this
    obtain ⟨h3, h4⟩ := this (Int.not_le.1 h) hz
    unfold ms
    rw [if_neg h, if_neg (Int.not_le.2 h3)]
    exact h4

/-- the byte of a digit -/
def bitc (d : Int) : UInt8 := if d = 0 then 48 else 49
theorem bitc_bit (d : Int) : bitC (bitc d) = true := by unfold bitc; split <;> rfl
theorem dg_bitc {d : Int} (h : d = 0 ∨ d = 1) : dg (bitc d) = d := by rcases h with rfl | rfl <;> rfl
theorem bitc_dg {c : UInt8} (h : bitC c = true) : bitc (dg c) = c := by
  rw [bitC_iff] at h
  unfold bitc dg
  rcases h with h | h
  · rw [if_pos (by omega)]; exact UInt8.toNat_inj.1 (by rw [h]; rfl)
  · rw [if_neg (by omega)]; exact UInt8.toNat_inj.1 (by rw [h]; rfl)
def dgsF : Nat → Int → Int → List UInt8
  | 0, _, _ => []
  | f + 1, x, y => if x = 0 ∧ y = 0 then [] else bitc (lastD x y) :: dgsF f (nX x y) (nY x y)
/-- the digits of a number, from the last one on; none for 0 -/
def dgs (x y : Int) : List UInt8 := dgsF (ms x y) x y
theorem dgsF_ms : ∀ (f : Nat) (x y : Int), ms x y ≤ f → dgsF f x y = dgs x y := by
  have key : ∀ (n : Nat) (x y : Int), ms x y = n → ∀ f g, n ≤ f → n ≤ g → dgsF f x y = dgsF g x y := by
    intro n
    induction n using Nat.strongRecOn with
    | ind n ih =>
      intro x y hn f g hf hg
      by_cases hz : x = 0 ∧ y = 0
      · cases f <;> cases g <;> simp [dgsF, hz]
      · have hl := ms_less hz
        obtain ⟨f', rfl⟩ : ∃ f', f = f' + 1 := ⟨f - 1, by omega⟩
        obtain ⟨g', rfl⟩ : ∃ g', g = g' + 1 := ⟨g - 1, by omega⟩
        simp only [dgsF, if_neg hz]
        rw [ih _ (by omega) _ _ rfl f' g' (by omega) (by omega)]
  intro f x y h
  exact key _ x y rfl f _ h (Nat.le_refl _)
theorem dgs_zero : dgs 0 0 = [] := by unfold dgs; cases ms 0 0 <;> simp [dgsF]
theorem dgs_step {x y : Int} (hz : ¬ (x = 0 ∧ y = 0)) : dgs x y = bitc (lastD x y) :: dgs (nX x y) (nY x y) := by
  rw [← dgsF_ms (ms x y + 1) x y (by omega)]
  simp only [dgsF, if_neg hz]
  rw [dgsF_ms _ _ _ (by have := ms_less hz; omega)]
theorem dgs_bits (x y : Int) : ∀ c ∈ dgs x y, bitC c = true := by
  have key : ∀ (f : Nat) (x y : Int), ∀ c ∈ dgsF f x y, bitC c = true := by
    intro f
    induction f with
    | zero => intro x y c h; simp [dgsF] at h
    | succ f ih =>
      intro x y c h
      simp only [dgsF] at h
      split at h
      · simp at h
      · rcases List.mem_cons.1 h with h | h
        · rw [h]; exact bitc_bit _
        · exact ih _ _ c h
  exact key _ x y
theorem dgs_len_le (x y : Int) : (dgs x y).length ≤ ms x y := by
  have key : ∀ (f : Nat) (x y : Int), (dgsF f x y).length ≤ f := by
    intro f
    induction f with
    | zero => intro x y; simp [dgsF]
    | succ f ih => intro x y; simp only [dgsF]; split <;> simp [ih]
  exact key _ x y
/-- the digits as they are written: at least one -/
def dgs1 (x y : Int) : List UInt8 := if x = 0 ∧ y = 0 then [48] else dgs x y
theorem dgs1_step (x y : Int) : dgs1 x y = bitc (lastD x y) :: dgs (nX x y) (nY x y) := by
  unfold dgs1
  by_cases hz : x = 0 ∧ y = 0
  · obtain ⟨rfl, rfl⟩ := hz
    simp [lastD, nX, nY, bitc, dgs_zero]
  · rw [if_neg hz, dgs_step hz]

/-! ### leading zeros -/
def strip : List UInt8 → List UInt8
  | c :: d :: r => if c = 48 then strip (d :: r) else c :: d :: r
  | l => l
def drop0 (l : List UInt8) : List UInt8 := l.dropWhile (· == 48)
theorem strip_bits {l : List UInt8} (h : ∀ c ∈ l, bitC c = true) : ∀ c ∈ strip l, bitC c = true := by
  induction l with
  | nil => exact h
  | cons c r ih =>
    cases r with
    | nil => exact h
    | cons d r =>
      unfold strip
      split
      · exact ih fun c hc => h c (List.mem_cons_of_mem _ hc)
      · exact h
theorem strip_ne {l : List UInt8} (h : l ≠ []) : strip l ≠ [] := by
  induction l with
  | nil => exact absurd rfl h
  | cons c r ih =>
    cases r with
    | nil => simp [strip]
    | cons d r =>
      unfold strip
      split
      · exact ih (by simp)
      · simp
theorem strip_head {l : List UInt8} : strip l = [48] ∨ (strip l).head? ≠ some 48 := by
  induction l with
  | nil => simp [strip]
  | cons c r ih =>
    cases r with
    | nil => simp [strip]; by_cases h : c = 48 <;> simp [h]
    | cons d r =>
      unfold strip
      split
      · exact ih
      · right; simpa using ‹¬c = 48›
theorem strip_drop0 {l : List UInt8} (h : l ≠ []) : strip l = if drop0 l = [] then [48] else drop0 l := by
  induction l with
  | nil => exact absurd rfl h
  | cons c r ih =>
    cases r with
    | nil =>
      by_cases hc : c = 48
      · subst hc; simp [strip, drop0]
      · simp [strip, drop0, hc]
    | cons d r =>
      unfold strip
      by_cases hc : c = 48
      · subst hc
        have e : drop0 (48 :: d :: r) = drop0 (d :: r) := by simp [drop0]
        rw [if_pos rfl, ih (by simp), e]
      · rw [if_neg hc]
        simp [drop0, hc]
theorem vldL_strip {l : List UInt8} (h : ∀ c ∈ l, bitC c = true) (hn : l ≠ []) : vldL (strip l) = decide ((strip l).length ≤ 50) := by
  rw [Bool.eq_iff_iff, vldL_iff, decide_eq_true_eq]
  exact ⟨fun h => h.2.1, fun h2 => ⟨List.length_pos_iff.2 (strip_ne hn), h2, strip_head, strip_bits h⟩⟩
def selS (b : Bool) (l : List UInt8) : ByteArray := if b then bs l else bs []
end Go.Proofs.YtmondgcehgmamaaGreatDoor

namespace Go.Proofs.YtmondgcehgmamaaGreatDoor
set_option linter.unusedSimpArgs false
set_option linter.unusedVariables false
open Go.RowKit

/-- x if b, else 0: the walk does not look into it -/
def sel (b : Bool) (x : Int) : Int := if b then x else 0
abbrev res2 (b : Bool) (x y : Int) : Value := .tuple #[pr (sel b x) (sel b y), .bool b]
theorem sel_t (x : Int) : sel true x = x := rfl
theorem sel_f (x : Int) : sel false x = 0 := rfl

theorem inB_le {l x y : Int} (h : inB l x y = true) : -l ≤ x ∧ x ≤ l ∧ -l ≤ y ∧ y ≤ l := by
  simp only [inB, inR, Bool.and_eq_true, decide_eq_true_eq] at h; omega

theorem plus_c (x y x' y' : Int) (w : World) (h : -1000000 ≤ x ∧ x ≤ 1000000 ∧ -1000000 ≤ y ∧ y ≤ 1000000) (h' : -1000000 ≤ x' ∧ x' ≤ 1000000 ∧ -1000000 ≤ y' ∧ y' ≤ 1000000) : Calls Tryz.prog 220 #[pr x y, pr x' y'] w fun e w' => e = .returned (pr (x + x') (y + y')) ∧ Below w.heap.size w w' := by
  obtain ⟨h1, h2, h3, h4⟩ := h
  obtain ⟨h1', h2', h3', h4'⟩ := h'
  go_enter Tryz.func220, Tryz.ntmps220
  go_wp2
  exact bodyPost_ret (v := pr (x + x') (y + y')) (by simp [results, Tryz.results220, go_sem]) rfl ⟨rfl, by (first | ((repeat' with_reducible first | assumption | exact Below.refl _ _ | apply Blw.alloc | apply Blw.drew | apply Blw.drewN | (refine Blw.after ?_ (by assumption)) | (refine Blw.set ?_ (by first | (dsimp only; omega) | (simp; omega)) _)); done) | (repeat' (first | assumption | exact Below.refl _ _ | apply Blw.alloc | apply Blw.drew | apply Blw.drewN | (refine Blw.after ?_ (by assumption)) | (refine Blw.set ?_ (by first | (dsimp only; omega) | (simp; done) | (simp; omega)) _))))⟩

theorem ifSmall_c (x y : Int) (w : World) : Calls Tryz.prog 187 #[pr x y] w fun e w' => e = .returned (res2 (inB 1000000 x y) x y) ∧ Below w.heap.size w w' := by
  rcases Bool.eq_false_or_eq_true (inB 1000000 x y) with h1 | h1
  all_goals
    go_enter Tryz.func187, Tryz.ntmps187
    go_wp2_with fail
    generalize hW : World.alloc _ _ = W0
    have kW0_1 : W0.cell? ⟨w.heap.size, 0, none⟩ = some (.int .i64 (x)) := by rw [← hW]; clear hW; first | (go_simp; done) | ((repeat refine keepcell ((Below.refl _ _).alloc (Nat.le_refl _) _) ?_); go_simp; done) | (simp only [frozen?_alloc_cells]; go_simp; done)
    have kW0_2 : W0.cell? ⟨w.heap.size, 1, none⟩ = some (.int .i64 (y)) := by rw [← hW]; clear hW; first | (go_simp; done) | ((repeat refine keepcell ((Below.refl _ _).alloc (Nat.le_refl _) _) ?_); go_simp; done) | (simp only [frozen?_alloc_cells]; go_simp; done)
    have : w.heap.size < W0.heap.size := World.block_lt_of_cell? W0 ⟨w.heap.size, 0, none⟩ (by assumption)
    have kW0_3 : W0.cell? ⟨w.heap.size + 1, 0, none⟩ = some (.int .i64 (0)) := by rw [← hW]; clear hW; first | (go_simp; done) | ((repeat refine keepcell ((Below.refl _ _).alloc (Nat.le_refl _) _) ?_); go_simp; done) | (simp only [frozen?_alloc_cells]; go_simp; done)
    have zW0_3 : W0.frozen? ⟨w.heap.size + 1, 0, none⟩ = false := by rw [← hW]; clear hW; first | (go_simp; done) | ((repeat refine keepcell ((Below.refl _ _).alloc (Nat.le_refl _) _) ?_); go_simp; done) | (simp only [frozen?_alloc_cells]; go_simp; done)
    have kW0_4 : W0.cell? ⟨w.heap.size + 1, 1, none⟩ = some (.int .i64 (0)) := by rw [← hW]; clear hW; first | (go_simp; done) | ((repeat refine keepcell ((Below.refl _ _).alloc (Nat.le_refl _) _) ?_); go_simp; done) | (simp only [frozen?_alloc_cells]; go_simp; done)
    have zW0_4 : W0.frozen? ⟨w.heap.size + 1, 1, none⟩ = false := by rw [← hW]; clear hW; first | (go_simp; done) | ((repeat refine keepcell ((Below.refl _ _).alloc (Nat.le_refl _) _) ?_); go_simp; done) | (simp only [frozen?_alloc_cells]; go_simp; done)
    have : w.heap.size + 1 < W0.heap.size := World.block_lt_of_cell? W0 ⟨w.heap.size + 1, 0, none⟩ (by assumption)
    have hBW0 : Below w.heap.size w W0 := by rw [← hW]; (first | ((repeat' with_reducible first | assumption | exact Below.refl _ _ | apply Blw.alloc | apply Blw.drew | apply Blw.drewN | (refine Blw.after ?_ (by assumption)) | (refine Blw.set ?_ (by first | (dsimp only; omega) | (simp; omega)) _)); done) | (repeat' (first | assumption | exact Below.refl _ _ | apply Blw.alloc | apply Blw.drew | apply Blw.drewN | (refine Blw.after ?_ (by assumption)) | (refine Blw.set ?_ (by first | (dsimp only; omega) | (simp; done) | (simp; omega)) _))))
    have hsW0 := hBW0.size
    clear hW
    go_wp2_with (first | (go_at_call 172; refine (small_c _ _ _).mono ?_; rintro e w1 ⟨rfl, hb⟩; have hk : Hld W0 w1 := heldM (by (first | ((repeat' with_reducible first | assumption | exact Below.refl _ _ | apply Blw.alloc | apply Blw.drew | apply Blw.drewN | (refine Blw.after ?_ (by assumption)) | (refine Blw.set ?_ (by first | (dsimp only; omega) | (simp; omega)) _)); done) | (repeat' (first | assumption | exact Below.refl _ _ | apply Blw.alloc | apply Blw.drew | apply Blw.drewN | (refine Blw.after ?_ (by assumption)) | (refine Blw.set ?_ (by first | (dsimp only; omega) | (simp; done) | (simp; omega)) _))))); have hk1 := hk.1) | (go_at_call 221; refine (gauss_c _ _ _).mono ?_; rintro e w1 ⟨rfl, hb⟩; have hk : Hld W0 w1 := heldM (by (first | ((repeat' with_reducible first | assumption | exact Below.refl _ _ | apply Blw.alloc | apply Blw.drew | apply Blw.drewN | (refine Blw.after ?_ (by assumption)) | (refine Blw.set ?_ (by first | (dsimp only; omega) | (simp; omega)) _)); done) | (repeat' (first | assumption | exact Below.refl _ _ | apply Blw.alloc | apply Blw.drew | apply Blw.drewN | (refine Blw.after ?_ (by assumption)) | (refine Blw.set ?_ (by first | (dsimp only; omega) | (simp; done) | (simp; omega)) _))))); have hk1 := hk.1))
    exact bodyPost_ret (v := res2 (inB 1000000 x y) x y) (by simp [results, Tryz.results187, go_sem, sel_t, sel_f, *]) rfl ⟨rfl, by (first | ((repeat' with_reducible first | assumption | exact Below.refl _ _ | apply Blw.alloc | apply Blw.drew | apply Blw.drewN | (refine Blw.after ?_ (by assumption)) | (refine Blw.set ?_ (by first | (dsimp only; omega) | (simp; omega)) _)); done) | (repeat' (first | assumption | exact Below.refl _ _ | apply Blw.alloc | apply Blw.drew | apply Blw.drewN | (refine Blw.after ?_ (by assumption)) | (refine Blw.set ?_ (by first | (dsimp only; omega) | (simp; done) | (simp; omega)) _))))⟩

/-- both are small, and so is the sum -/
def addB (x y x' y' : Int) : Bool := inB 1000000 x y && inB 1000000 x' y' && inB 1000000 (x + x') (y + y')

/-! ### the model's side -/
theorem l1Done_c (x y : Int) (w : World) : Calls Tryz.prog 150 #[pr x y] w fun e w' => e = .returned (res2 (inB 1000000 x y) x y) ∧ Below w.heap.size w w' := by
  rcases Bool.eq_false_or_eq_true (inB 1000000 x y) with h1 | h1
  all_goals
    go_enter Tryz.func150, Tryz.ntmps150
    go_wp2_with fail
    generalize hW : World.alloc _ _ = W0
    have kW0_5 : W0.cell? ⟨w.heap.size, 0, none⟩ = some (.int .i64 (x)) := by rw [← hW]; clear hW; first | (go_simp; done) | ((repeat refine keepcell ((Below.refl _ _).alloc (Nat.le_refl _) _) ?_); go_simp; done) | (simp only [frozen?_alloc_cells]; go_simp; done)
    have kW0_6 : W0.cell? ⟨w.heap.size, 1, none⟩ = some (.int .i64 (y)) := by rw [← hW]; clear hW; first | (go_simp; done) | ((repeat refine keepcell ((Below.refl _ _).alloc (Nat.le_refl _) _) ?_); go_simp; done) | (simp only [frozen?_alloc_cells]; go_simp; done)
    have : w.heap.size < W0.heap.size := World.block_lt_of_cell? W0 ⟨w.heap.size, 0, none⟩ (by assumption)
    have kW0_7 : W0.cell? ⟨w.heap.size + 1, 0, none⟩ = some (.int .i64 (0)) := by rw [← hW]; clear hW; first | (go_simp; done) | ((repeat refine keepcell ((Below.refl _ _).alloc (Nat.le_refl _) _) ?_); go_simp; done) | (simp only [frozen?_alloc_cells]; go_simp; done)
    have zW0_7 : W0.frozen? ⟨w.heap.size + 1, 0, none⟩ = false := by rw [← hW]; clear hW; first | (go_simp; done) | ((repeat refine keepcell ((Below.refl _ _).alloc (Nat.le_refl _) _) ?_); go_simp; done) | (simp only [frozen?_alloc_cells]; go_simp; done)
    have kW0_8 : W0.cell? ⟨w.heap.size + 1, 1, none⟩ = some (.int .i64 (0)) := by rw [← hW]; clear hW; first | (go_simp; done) | ((repeat refine keepcell ((Below.refl _ _).alloc (Nat.le_refl _) _) ?_); go_simp; done) | (simp only [frozen?_alloc_cells]; go_simp; done)
    have zW0_8 : W0.frozen? ⟨w.heap.size + 1, 1, none⟩ = false := by rw [← hW]; clear hW; first | (go_simp; done) | ((repeat refine keepcell ((Below.refl _ _).alloc (Nat.le_refl _) _) ?_); go_simp; done) | (simp only [frozen?_alloc_cells]; go_simp; done)
    have : w.heap.size + 1 < W0.heap.size := World.block_lt_of_cell? W0 ⟨w.heap.size + 1, 0, none⟩ (by assumption)
    have hBW0 : Below w.heap.size w W0 := by rw [← hW]; (first | ((repeat' with_reducible first | assumption | exact Below.refl _ _ | apply Blw.alloc | apply Blw.drew | apply Blw.drewN | (refine Blw.after ?_ (by assumption)) | (refine Blw.set ?_ (by first | (dsimp only; omega) | (simp; omega)) _)); done) | (repeat' (first | assumption | exact Below.refl _ _ | apply Blw.alloc | apply Blw.drew | apply Blw.drewN | (refine Blw.after ?_ (by assumption)) | (refine Blw.set ?_ (by first | (dsimp only; omega) | (simp; done) | (simp; omega)) _))))
    have hsW0 := hBW0.size
    clear hW
    go_wp2_with (first | (go_at_call 155; refine (sGaussSmall_c _ _ _).mono ?_; rintro e w1 ⟨rfl, hb⟩; have hk : Hld W0 w1 := heldM (by (first | ((repeat' with_reducible first | assumption | exact Below.refl _ _ | apply Blw.alloc | apply Blw.drew | apply Blw.drewN | (refine Blw.after ?_ (by assumption)) | (refine Blw.set ?_ (by first | (dsimp only; omega) | (simp; omega)) _)); done) | (repeat' (first | assumption | exact Below.refl _ _ | apply Blw.alloc | apply Blw.drew | apply Blw.drewN | (refine Blw.after ?_ (by assumption)) | (refine Blw.set ?_ (by first | (dsimp only; omega) | (simp; done) | (simp; omega)) _))))); have hk1 := hk.1))
    exact bodyPost_ret (v := res2 (inB 1000000 x y) x y) (by simp [results, Tryz.results150, go_sem, sel_t, sel_f, *]) rfl ⟨rfl, by (first | ((repeat' with_reducible first | assumption | exact Below.refl _ _ | apply Blw.alloc | apply Blw.drew | apply Blw.drewN | (refine Blw.after ?_ (by assumption)) | (refine Blw.set ?_ (by first | (dsimp only; omega) | (simp; omega)) _)); done) | (repeat' (first | assumption | exact Below.refl _ _ | apply Blw.alloc | apply Blw.drew | apply Blw.drewN | (refine Blw.after ?_ (by assumption)) | (refine Blw.set ?_ (by first | (dsimp only; omega) | (simp; done) | (simp; omega)) _))))⟩

end Go.Proofs.YtmondgcehgmamaaGreatDoor

namespace Go.Proofs.YtmondgcehgmamaaGreatDoor
set_option linter.unusedSimpArgs false
set_option linter.unusedVariables false
/-- the parts of a product -/
def mre (x y x' y' : Int) : Int := x * x' - y * y'
def mim (x y x' y' : Int) : Int := x * y' + y * x'
def nrm (x y : Int) : Int := x * x + y * y
/-- rounded to the nearest, up for a half -/
def near (t n : Int) : Int := (2 * t + n) / (2 * n)
def qx (x y x' y' : Int) : Int := near (mre x y x' (-y')) (nrm x' y')
def qy (x y x' y' : Int) : Int := near (mim x y x' (-y')) (nrm x' y')
def rx (x y x' y' : Int) : Int := x - mre (qx x y x' y') (qy x y x' y') x' y'
def ry (x y x' y' : Int) : Int := y - mim (qx x y x' y') (qy x y x' y') x' y'
abbrev in6 (x y : Int) : Prop := -1000000 ≤ x ∧ x ≤ 1000000 ∧ -1000000 ≤ y ∧ y ≤ 1000000
abbrev in9 (x y : Int) : Prop := -1000000000 ≤ x ∧ x ≤ 1000000000 ∧ -1000000000 ≤ y ∧ y ≤ 1000000000
theorem small9 {x y : Int} (h : in6 x y) : in9 x y := by unfold in9; omega
theorem mulK {x y a b : Int} (hx : -a ≤ x ∧ x ≤ a) (hy : -b ≤ y ∧ y ≤ b) : -(a * b) ≤ x * y ∧ x * y ≤ a * b := by
  have h1 : (x * y).natAbs ≤ a.toNat * b.toNat := by rw [Int.natAbs_mul]; exact Nat.mul_le_mul (by omega) (by omega)
  have h2 : ((a.toNat * b.toNat : Nat) : Int) = a * b := by
    rw [Int.natCast_mul, Int.toNat_of_nonneg (by omega), Int.toNat_of_nonneg (by omega)]
  omega
theorem mul9 {x y : Int} (hx : -1000000000 ≤ x ∧ x ≤ 1000000000) (hy : -1000000000 ≤ y ∧ y ≤ 1000000000) : -1000000000000000000 ≤ x * y ∧ x * y ≤ 1000000000000000000 := by
  have := mulK hx hy
  omega
theorem sq_nonneg (x : Int) : 0 ≤ x * x := by
  have h : x * x = ((x.natAbs * x.natAbs : Nat) : Int) := (Int.natAbs_mul_self).symm
  omega
theorem sq_ge (x : Int) : x ≤ x * x ∧ -x ≤ x * x := by
  have h : x * x = ((x.natAbs * x.natAbs : Nat) : Int) := (Int.natAbs_mul_self).symm
  have h2 : x.natAbs ≤ x.natAbs * x.natAbs := by
    cases h0 : x.natAbs with
    | zero => simp
    | succ n => exact Nat.le_mul_of_pos_left _ (by omega)
  omega
theorem nrm_pos {x y : Int} (h : ¬ (x = 0 ∧ y = 0)) : 1 ≤ nrm x y := by
  have h1 := sq_ge x
  have h2 := sq_ge y
  unfold nrm
  omega
theorem nrm_nonneg (x y : Int) : 0 ≤ nrm x y := by
  have h1 := sq_nonneg x
  have h2 := sq_nonneg y
  unfold nrm
  omega
theorem nrm_le {x y : Int} (h : in6 x y) : nrm x y ≤ 2000000000000 := by
  have h1 := mulK (a := 1000000) (b := 1000000) ⟨h.1, h.2.1⟩ ⟨h.1, h.2.1⟩
  have h2 := mulK (a := 1000000) (b := 1000000) ⟨h.2.2.1, h.2.2.2⟩ ⟨h.2.2.1, h.2.2.2⟩
  unfold nrm
  omega
/-- |x x' + y y'| is at most a million norms -/
theorem dot_le {x y x' y' : Int} (h : in6 x y) : -(1000000 * nrm x' y') ≤ x * x' + y * y' ∧ x * x' + y * y' ≤ 1000000 * nrm x' y' := by
  obtain ⟨h1, h2, h3, h4⟩ := h
  have key : ∀ a b : Int, -1000000 ≤ a → a ≤ 1000000 → -(1000000 * (b * b)) ≤ a * b ∧ a * b ≤ 1000000 * (b * b) := by
    intro a b ha ha'
    have e : b * b = ((b.natAbs * b.natAbs : Nat) : Int) := (Int.natAbs_mul_self).symm
    have e2 : (a * b).natAbs ≤ 1000000 * b.natAbs := by rw [Int.natAbs_mul]; exact Nat.mul_le_mul (by omega) (Nat.le_refl _)
    have e3 : b.natAbs ≤ b.natAbs * b.natAbs := by
      cases h0 : b.natAbs with
      | zero => simp
      | succ n => exact Nat.le_mul_of_pos_left _ (by omega)
    rw [e]
    omega
  have k1 := key x x' h1 h2
  have k2 := key y y' h3 h4
  unfold nrm
  omega
theorem near_in {t n : Int} (hn : 1 ≤ n) (h : -(1000000 * n) ≤ t ∧ t ≤ 1000000 * n) : -1000000 ≤ near t n ∧ near t n ≤ 1000000 := by
  unfold near
  constructor
  · apply Int.le_ediv_of_mul_le (by omega); omega
  · have : (2 * t + n) / (2 * n) < 1000001 := by apply Int.ediv_lt_of_lt_mul (by omega); omega
    omega
theorem mre_neg (x y x' y' : Int) : mre x y x' (-y') = x * x' + y * y' := by unfold mre; rw [Int.mul_neg]; omega
theorem mim_neg (x y x' y' : Int) : mim x y x' (-y') = y * x' + -x * y' := by unfold mim; rw [Int.mul_neg, Int.neg_mul]; omega
theorem qx_in {x y x' y' : Int} (h : in6 x y) (hn : 1 ≤ nrm x' y') : -1000000 ≤ qx x y x' y' ∧ qx x y x' y' ≤ 1000000 := by
  unfold qx
  refine near_in hn ?_
  rw [mre_neg]
  exact dot_le h
theorem qy_in {x y x' y' : Int} (h : in6 x y) (hn : 1 ≤ nrm x' y') : -1000000 ≤ qy x y x' y' ∧ qy x y x' y' ≤ 1000000 := by
  unfold qy
  refine near_in hn ?_
  rw [mim_neg]
  exact dot_le ⟨h.2.2.1, h.2.2.2, by omega, by omega⟩
theorem q_in {x y x' y' : Int} (h : in6 x y) (hn : 1 ≤ nrm x' y') : in6 (qx x y x' y') (qy x y x' y') :=
  ⟨(qx_in h hn).1, (qx_in h hn).2, (qy_in h hn).1, (qy_in h hn).2⟩
theorem near_off {t n : Int} (hn : 1 ≤ n) : -n ≤ 2 * (t - n * near t n) ∧ 2 * (t - n * near t n) ≤ n := by
  unfold near
  have h1 := Int.mul_ediv_add_emod (2 * t + n) (2 * n)
  have h2 := Int.emod_nonneg (2 * t + n) (show 2 * n ≠ 0 by omega)
  have h3 := Int.emod_lt_of_pos (2 * t + n) (show 0 < 2 * n by omega)
  have h4 : 2 * n * ((2 * t + n) / (2 * n)) = 2 * (n * ((2 * t + n) / (2 * n))) := by rw [Int.mul_assoc]
  omega
/-- the rest's norm is at most half of the divisor's -/
theorem rest_half {x y x' y' : Int} (hn : 1 ≤ nrm x' y') : 2 * nrm (rx x y x' y') (ry x y x' y') ≤ nrm x' y' := by
  obtain ⟨a1, a2⟩ := near_off (t := mre x y x' (-y')) hn
  obtain ⟨b1, b2⟩ := near_off (t := mim x y x' (-y')) hn
  have id1 : nrm (rx x y x' y') (ry x y x' y') * nrm x' y' = (mre x y x' (-y') - nrm x' y' * qx x y x' y') * (mre x y x' (-y') - nrm x' y' * qx x y x' y') + (mim x y x' (-y') - nrm x' y' * qy x y x' y') * (mim x y x' (-y') - nrm x' y' * qy x y x' y') := by
    generalize hq : qx x y x' y' = q
    generalize hp : qy x y x' y' = p
    unfold rx ry
    rw [hq, hp]
    unfold nrm mre mim
    grind
  generalize he : mre x y x' (-y') - nrm x' y' * qx x y x' y' = e at id1
  generalize hf : mim x y x' (-y') - nrm x' y' * qy x y x' y' = f at id1
  have e1 : -nrm x' y' ≤ 2 * e ∧ 2 * e ≤ nrm x' y' := by rw [← he]; exact ⟨a1, a2⟩
  have f1 : -nrm x' y' ≤ 2 * f ∧ 2 * f ≤ nrm x' y' := by rw [← hf]; exact ⟨b1, b2⟩
  generalize nrm x' y' = n at *
  generalize nrm (rx x y x' y') (ry x y x' y') = r at *
  have s1 := (mulK e1 e1).2
  have s2 := (mulK f1 f1).2
  have t1 : 2 * e * (2 * e) = 4 * (e * e) := by grind
  have t2 : 2 * f * (2 * f) = 4 * (f * f) := by grind
  -- 4 r n ≤ 2 n n
  have t3 : 4 * (r * n) ≤ 2 * (n * n) := by omega
  apply Int.le_of_mul_le_mul_right (a := n) (c := n) (b := 2 * r) _ (by omega) <;> skip
  have t4 : 2 * r * n = 2 * (r * n) := by rw [Int.mul_assoc]
  omega
theorem part_le {x y n : Int} (h : nrm x y ≤ n) (k : Int) (hk : 0 ≤ k) (hn : n < (k + 1) * (k + 1)) : -k ≤ x ∧ x ≤ k ∧ -k ≤ y ∧ y ≤ k := by
  unfold nrm at h
  have h1 := sq_nonneg x
  have h2 := sq_nonneg y
  have key : ∀ z : Int, z * z < (k + 1) * (k + 1) → -k ≤ z ∧ z ≤ k := by
    intro z hz
    have e : z * z = ((z.natAbs * z.natAbs : Nat) : Int) := (Int.natAbs_mul_self).symm
    have e2 : (k + 1) * (k + 1) = (((k + 1).toNat * (k + 1).toNat : Nat) : Int) := by rw [Int.natCast_mul, Int.toNat_of_nonneg (by omega)]
    have e3 : z.natAbs < (k + 1).toNat := by
      refine Nat.lt_of_not_le fun hle => ?_
      have := Nat.mul_le_mul hle hle
      omega
    omega
  have k1 := key x (by omega)
  have k2 := key y (by omega)
  exact ⟨k1.1, k1.2, k2.1, k2.2⟩
theorem rest_in {x y x' y' : Int} (hn : 1 ≤ nrm x' y') (h' : in6 x' y') : in6 (rx x y x' y') (ry x y x' y') := by
  have h1 := rest_half (x := x) (y := y) hn
  have h2 := nrm_le h'
  exact part_le (n := 1000000000000) (by omega) 1000000 (by omega) (by omega)
theorem tdiv_in {a b k : Int} (h : -k ≤ a ∧ a ≤ k) : -k ≤ a.tdiv b ∧ a.tdiv b ≤ k := by
  have h1 : (a.tdiv b).natAbs ≤ a.natAbs := by rw [Int.natAbs_tdiv]; exact Nat.div_le_self _ _
  omega
theorem tdiv_floor {a b : Int} (hb : 0 < b) : a / b = (if a.tmod b ≠ 0 ∧ a < 0 then a.tdiv b - 1 else a.tdiv b) := by
  rw [Int.tdiv_eq_ediv, Int.tmod_eq_emod]
  by_cases h0 : 0 ≤ a
  · rw [if_neg (by omega), if_pos (Or.inl h0)]; omega
  · by_cases hd : b ∣ a
    · rw [if_neg (by rw [if_pos (Or.inr hd), Int.emod_eq_zero_of_dvd hd]; omega), if_pos (Or.inr hd)]; omega
    · have hne : ¬ (0 ≤ a ∨ b ∣ a) := by rintro (h | h) <;> contradiction
      have h3 := Int.emod_lt_of_pos a hb
      rw [if_neg hne, if_neg hne, if_pos ⟨by omega, by omega⟩, Int.sign_eq_one_of_pos hb]
      omega
theorem tmod_neg_iff {a b : Int} (hb : 0 < b) : (a.tmod b < 0) ↔ (a.tmod b ≠ 0 ∧ a < 0) := by
  rw [Int.tmod_eq_emod]
  have h2 := Int.emod_nonneg a (show b ≠ 0 by omega)
  have h3 := Int.emod_lt_of_pos a hb
  by_cases h0 : 0 ≤ a
  · rw [if_pos (Or.inl h0)]; omega
  · by_cases hd : b ∣ a
    · rw [if_pos (Or.inr hd), Int.emod_eq_zero_of_dvd hd]; omega
    · have hne : ¬ (0 ≤ a ∨ b ∣ a) := by rintro (h | h) <;> contradiction
      rw [if_neg hne]
      omega

/-! ### the first of the four turns -/
def firstX (a b : Int) : Int := if 0 < a ∧ 0 ≤ b then a else if b < 0 ∧ 0 ≤ a then -b else if a < 0 ∧ b ≤ 0 then -a else b
def firstY (a b : Int) : Int := if 0 < a ∧ 0 ≤ b then b else if b < 0 ∧ 0 ≤ a then a else if a < 0 ∧ b ≤ 0 then -b else -a
def turns (a b : Int) : Nat := if 0 < a ∧ 0 ≤ b then 0 else if b < 0 ∧ 0 ≤ a then 1 else if a < 0 ∧ b ≤ 0 then 2 else if a = 0 ∧ b = 0 then 0 else 3
theorem first_stop {a b : Int} (h : 0 < a ∧ 0 ≤ b) : firstX a b = a ∧ firstY a b = b := by
  unfold firstX firstY; rw [if_pos h, if_pos h]; exact ⟨rfl, rfl⟩
theorem first_zero : firstX 0 0 = 0 ∧ firstY 0 0 = 0 := by decide
theorem first_turn {a b : Int} (h : ¬ (0 < a ∧ 0 ≤ b)) (hz : ¬ (a = 0 ∧ b = 0)) : firstX (-b) a = firstX a b ∧ firstY (-b) a = firstY a b ∧ turns (-b) a < turns a b := by
  unfold firstX firstY turns
  refine ⟨?_, ?_, ?_⟩
  all_goals
    repeat' split
  all_goals omega
theorem first_in {a b : Int} (h : in6 a b) : in6 (firstX a b) (firstY a b) := by
  unfold firstX firstY
  split
  · omega
  · split
    · omega
    · split <;> omega
theorem turns_le (a b : Int) : turns a b ≤ 3 := by
  unfold turns
  repeat' split
  all_goals omega
theorem neg_in6 {a b : Int} (h : in6 a b) : in6 (-b) a := by unfold in6 at *; omega

/-! ### dividing again and again -/
def gcdF : Nat → Int → Int → Int → Int → Int × Int
  | 0, x, y, _, _ => (x, y)
  | n + 1, x, y, x', y' => if x' = 0 ∧ y' = 0 then (x, y) else gcdF n x' y' (rx x y x' y') (ry x y x' y')
theorem gcdF_zero (n : Nat) (x y : Int) : gcdF n x y 0 0 = (x, y) := by cases n <;> simp [gcdF]
theorem gcdF_step {n : Nat} {x y x' y' : Int} (h : ¬ (x' = 0 ∧ y' = 0)) (hn : nrm x' y' ≤ (n : Int)) : ∃ k, k < n ∧ nrm (rx x y x' y') (ry x y x' y') ≤ (k : Int) ∧ gcdF k x' y' (rx x y x' y') (ry x y x' y') = gcdF n x y x' y' := by
  have h1 := nrm_pos h
  have h2 := rest_half (x := x) (y := y) h1
  cases n with
  | zero => omega
  | succ k =>
    refine ⟨k, by omega, by omega, ?_⟩
    rw [gcdF, if_neg h]
theorem nrm_toNat (x y : Int) : nrm x y ≤ ((nrm x y).toNat : Int) := by have := nrm_nonneg x y; omega
/-- the divisor that comes out -/
def gcdX (x y x' y' : Int) : Int := (gcdF (nrm x' y').toNat x y x' y').1
def gcdY (x y x' y' : Int) : Int := (gcdF (nrm x' y').toNat x y x' y').2
end Go.Proofs.YtmondgcehgmamaaGreatDoor

namespace Go.Proofs.YtmondgcehgmamaaGreatDoor
set_option linter.unusedSimpArgs false
set_option linter.unusedVariables false
open Go.RowKit

/-- both are small, and so is the product -/
def mulB (x y x' y' : Int) : Bool := inB 1000000 x y && inB 1000000 x' y' && inB 1000000 (x * x' - y * y') (x * y' + y * x')

theorem times_c (x y x' y' : Int) (w : World) (h : in9 x y) (h' : in9 x' y') : Calls Tryz.prog 219 #[pr x y, pr x' y'] w fun e w' => e = .returned (pr (x * x' - y * y') (x * y' + y * x')) ∧ Below w.heap.size w w' := by
  obtain ⟨h1, h2, h3, h4⟩ := h
  obtain ⟨h5, h6, h7, h8⟩ := h'
  obtain ⟨a1, a2⟩ := mul9 ⟨h1, h2⟩ ⟨h5, h6⟩
  obtain ⟨a3, a4⟩ := mul9 ⟨h3, h4⟩ ⟨h7, h8⟩
  obtain ⟨a5, a6⟩ := mul9 ⟨h1, h2⟩ ⟨h7, h8⟩
  obtain ⟨a7, a8⟩ := mul9 ⟨h3, h4⟩ ⟨h5, h6⟩
  go_enter Tryz.func219, Tryz.ntmps219
  go_wp2
  exact bodyPost_ret (v := pr (x * x' - y * y') (x * y' + y * x')) (by simp [results, Tryz.results219, go_sem]) rfl ⟨rfl, by (first | ((repeat' with_reducible first | assumption | exact Below.refl _ _ | apply Blw.alloc | apply Blw.drew | apply Blw.drewN | (refine Blw.after ?_ (by assumption)) | (refine Blw.set ?_ (by first | (dsimp only; omega) | (simp; omega)) _)); done) | (repeat' (first | assumption | exact Below.refl _ _ | apply Blw.alloc | apply Blw.drew | apply Blw.drewN | (refine Blw.after ?_ (by assumption)) | (refine Blw.set ?_ (by first | (dsimp only; omega) | (simp; done) | (simp; omega)) _))))⟩

/-- the norm, or -1: the walk does not look into it -/
def normV (x y : Int) : Int := if inB 1000000 x y then x * x + y * y else -1

end Go.Proofs.YtmondgcehgmamaaGreatDoor

namespace Go.Proofs.YtmondgcehgmamaaGreatDoor
set_option linter.unusedSimpArgs false
set_option linter.unusedVariables false
open Go.RowKit

theorem tmod2 (a : Int) : (a % 2 = 0 ∧ a.tmod 2 = 0) ∨ (a % 2 = 1 ∧ (a.tmod 2 = 1 ∨ a.tmod 2 = -1)) := by
  rcases Int.le_total 0 a with h | h
  · rw [Int.tmod_eq_emod_of_nonneg h]; omega
  · have e : a.tmod 2 = -((-a) % 2) := by rw [← Int.tmod_eq_emod_of_nonneg (by omega : 0 ≤ -a), Int.neg_tmod]; omega
    rw [e]; omega
theorem tdiv2 {a b : Int} (h : a = 2 * b) : a.tdiv 2 = b := by rw [h]; exact Int.mul_tdiv_cancel_left b (by omega)
abbrev in21 (x y : Int) : Prop := (-2097152 ≤ x ∧ x ≤ 2097152) ∧ (-2097152 ≤ y ∧ y ≤ 2097152)

set_option maxHeartbeats 1000000 in
theorem l2Last_c (x y : Int) (w : World) (h : in21 x y) : Calls Tryz.prog 69 #[pr x y] w fun e w' => e = .returned (.tuple #[.int .i64 (lastD x y), pr (nX x y) (nY x y)]) ∧ Below w.heap.size w w' := by
  obtain ⟨⟨i1, i2⟩, i3, i4⟩ := next_in h.1 h.2
  obtain ⟨⟨h1, h2⟩, h3, h4⟩ := h
  rcases tmod2 (x + y) with ⟨e1, e2⟩ | ⟨e1, e2 | e2⟩
  · have HD := Lib.hid (show lastD x y = 0 from e1)
    have q1 : (y - x).tdiv 2 = nX x y := tdiv2 (by have := two_nX x y; rw [HD.out] at this; omega)
    have q2 : (-x - y).tdiv 2 = nY x y := tdiv2 (by have := two_nY x y; rw [HD.out] at this; omega)
    clear e1
    go_enter Tryz.func69, Tryz.ntmps69
    go_wp2
    generalize hW : World.alloc _ _ = W0
    have kW0_9 : W0.cell? ⟨w.heap.size, 0, none⟩ = some (.int .i64 (x)) := by rw [← hW]; clear hW; first | (go_simp; done) | ((repeat refine keepcell ((Below.refl _ _).alloc (Nat.le_refl _) _) ?_); go_simp; done) | (simp only [frozen?_alloc_cells]; go_simp; done)
    have kW0_10 : W0.cell? ⟨w.heap.size, 1, none⟩ = some (.int .i64 (y)) := by rw [← hW]; clear hW; first | (go_simp; done) | ((repeat refine keepcell ((Below.refl _ _).alloc (Nat.le_refl _) _) ?_); go_simp; done) | (simp only [frozen?_alloc_cells]; go_simp; done)
    have : w.heap.size < W0.heap.size := World.block_lt_of_cell? W0 ⟨w.heap.size, 0, none⟩ (by assumption)
    have kW0_11 : W0.cell? ⟨w.heap.size + 1, 0, none⟩ = some (.int .i64 (0)) := by rw [← hW]; clear hW; first | (go_simp; done) | ((repeat refine keepcell ((Below.refl _ _).alloc (Nat.le_refl _) _) ?_); go_simp; done) | (simp only [frozen?_alloc_cells]; go_simp; done)
    have zW0_11 : W0.frozen? ⟨w.heap.size + 1, 0, none⟩ = false := by rw [← hW]; clear hW; first | (go_simp; done) | ((repeat refine keepcell ((Below.refl _ _).alloc (Nat.le_refl _) _) ?_); go_simp; done) | (simp only [frozen?_alloc_cells]; go_simp; done)
    have kW0_12 : W0.cell? ⟨w.heap.size + 1, 1, none⟩ = some (.int .i64 (0)) := by rw [← hW]; clear hW; first | (go_simp; done) | ((repeat refine keepcell ((Below.refl _ _).alloc (Nat.le_refl _) _) ?_); go_simp; done) | (simp only [frozen?_alloc_cells]; go_simp; done)
    have zW0_12 : W0.frozen? ⟨w.heap.size + 1, 1, none⟩ = false := by rw [← hW]; clear hW; first | (go_simp; done) | ((repeat refine keepcell ((Below.refl _ _).alloc (Nat.le_refl _) _) ?_); go_simp; done) | (simp only [frozen?_alloc_cells]; go_simp; done)
    have : w.heap.size + 1 < W0.heap.size := World.block_lt_of_cell? W0 ⟨w.heap.size + 1, 0, none⟩ (by assumption)
    have hBW0 : Below w.heap.size w W0 := by rw [← hW]; (first | ((repeat' with_reducible first | assumption | exact Below.refl _ _ | apply Blw.alloc | apply Blw.drew | apply Blw.drewN | (refine Blw.after ?_ (by assumption)) | (refine Blw.set ?_ (by first | (dsimp only; omega) | (simp; omega)) _)); done) | (repeat' (first | assumption | exact Below.refl _ _ | apply Blw.alloc | apply Blw.drew | apply Blw.drewN | (refine Blw.after ?_ (by assumption)) | (refine Blw.set ?_ (by first | (dsimp only; omega) | (simp; done) | (simp; omega)) _))))
    have hsW0 := hBW0.size
    clear hW
    refine region_slots (fun _ => True) [] [(18, .is (.int .i64 0)), (19, .is (.pointer (some ⟨w.heap.size, 1, none⟩))), (20, .is (.int .i64 y)), (21, .is (.int .i64 (x))), (22, .is (.int .i64 (y - x))), (23, .is (.int .i64 (nX x y))), (24, .is (.int .i64 (x))), (25, .is (.int .i64 (-x))), (26, .is (.pointer (some ⟨w.heap.size, 1, none⟩))), (27, .is (.int .i64 y)), (28, .is (.int .i64 (-x - y))), (29, .is (.int .i64 (nY x y))), (30, .is (pr (nX x y) (nY x y))), (2, .is (.int .i64 0))] (by kernel_rfl) (by kernel_rfl) (by kernel_rfl) (fun _ _ => trivial) (fun _ _ _ _ _ _ h => h) ?_
    simp only [Steps, List.contains_cons, List.contains_nil, Nat.reduceBEq, Nat.reduceAdd, Bool.or_false, Bool.false_or, Bool.or_true, Bool.true_or, Bool.false_eq_true, if_false, if_true]
    refine ⟨?_, ?_, ?_, ?_, ?_, ?_, ?_, ?_, ?_, ?_, ?_, ?_, ?_, ?_, ?_⟩
    · intro u w2 hH hd K hK
      simp only [setU, upd, List.map_cons, List.map_nil, List.contains_cons, List.contains_nil, Nat.reduceBEq, Nat.reduceAdd, Bool.or_false, Bool.false_or, Bool.or_true, Bool.true_or, Bool.false_eq_true, if_false, if_true, ite_true, ite_false, Nat.reduceEqDiff, beq_self_eq_true] at hK ⊢
      go_wp2_with (fail)
      exact hK _ _ (by (first | ((repeat' with_reducible first | assumption | exact Below.refl _ _ | apply Blw.alloc | apply Blw.drew | apply Blw.drewN | (refine Blw.after ?_ (by assumption)) | (refine Blw.set ?_ (by first | (dsimp only; omega) | (simp; omega)) _)); done) | (repeat' (first | assumption | exact Below.refl _ _ | apply Blw.alloc | apply Blw.drew | apply Blw.drewN | (refine Blw.after ?_ (by assumption)) | (refine Blw.set ?_ (by first | (dsimp only; omega) | (simp; done) | (simp; omega)) _))))) rfl
    · intro u w2 hH hd K hK
      simp only [setU, upd, List.map_cons, List.map_nil, List.contains_cons, List.contains_nil, Nat.reduceBEq, Nat.reduceAdd, Bool.or_false, Bool.false_or, Bool.or_true, Bool.true_or, Bool.false_eq_true, if_false, if_true, ite_true, ite_false, Nat.reduceEqDiff, beq_self_eq_true] at hK ⊢
      go_wp2_with (fail)
      exact hK _ _ (by (first | ((repeat' with_reducible first | assumption | exact Below.refl _ _ | apply Blw.alloc | apply Blw.drew | apply Blw.drewN | (refine Blw.after ?_ (by assumption)) | (refine Blw.set ?_ (by first | (dsimp only; omega) | (simp; omega)) _)); done) | (repeat' (first | assumption | exact Below.refl _ _ | apply Blw.alloc | apply Blw.drew | apply Blw.drewN | (refine Blw.after ?_ (by assumption)) | (refine Blw.set ?_ (by first | (dsimp only; omega) | (simp; done) | (simp; omega)) _))))) rfl
    · intro u w2 hH hd K hK
      have f19 : u 19 = (.pointer (some ⟨w.heap.size, 1, none⟩)) := hd 19 (by kernel_rfl)
      simp only [setU, upd, List.map_cons, List.map_nil, List.contains_cons, List.contains_nil, Nat.reduceBEq, Nat.reduceAdd, Bool.or_false, Bool.false_or, Bool.or_true, Bool.true_or, Bool.false_eq_true, if_false, if_true, ite_true, ite_false, Nat.reduceEqDiff, beq_self_eq_true] at hK ⊢
      rw [f19] at hK ⊢
      clear f19
      go_wp2_with (fail)
      exact hK _ _ (by (first | ((repeat' with_reducible first | assumption | exact Below.refl _ _ | apply Blw.alloc | apply Blw.drew | apply Blw.drewN | (refine Blw.after ?_ (by assumption)) | (refine Blw.set ?_ (by first | (dsimp only; omega) | (simp; omega)) _)); done) | (repeat' (first | assumption | exact Below.refl _ _ | apply Blw.alloc | apply Blw.drew | apply Blw.drewN | (refine Blw.after ?_ (by assumption)) | (refine Blw.set ?_ (by first | (dsimp only; omega) | (simp; done) | (simp; omega)) _))))) rfl
    · intro u w2 hH hd K hK
      simp only [setU, upd, List.map_cons, List.map_nil, List.contains_cons, List.contains_nil, Nat.reduceBEq, Nat.reduceAdd, Bool.or_false, Bool.false_or, Bool.or_true, Bool.true_or, Bool.false_eq_true, if_false, if_true, ite_true, ite_false, Nat.reduceEqDiff, beq_self_eq_true] at hK ⊢
      go_wp2_with (fail)
      exact hK _ _ (by (first | ((repeat' with_reducible first | assumption | exact Below.refl _ _ | apply Blw.alloc | apply Blw.drew | apply Blw.drewN | (refine Blw.after ?_ (by assumption)) | (refine Blw.set ?_ (by first | (dsimp only; omega) | (simp; omega)) _)); done) | (repeat' (first | assumption | exact Below.refl _ _ | apply Blw.alloc | apply Blw.drew | apply Blw.drewN | (refine Blw.after ?_ (by assumption)) | (refine Blw.set ?_ (by first | (dsimp only; omega) | (simp; done) | (simp; omega)) _))))) rfl
    · intro u w2 hH hd K hK
      have f20 : u 20 = (.int .i64 y) := hd 20 (by kernel_rfl)
      have f21 : u 21 = (.int .i64 (x)) := hd 21 (by kernel_rfl)
      simp only [setU, upd, List.map_cons, List.map_nil, List.contains_cons, List.contains_nil, Nat.reduceBEq, Nat.reduceAdd, Bool.or_false, Bool.false_or, Bool.or_true, Bool.true_or, Bool.false_eq_true, if_false, if_true, ite_true, ite_false, Nat.reduceEqDiff, beq_self_eq_true] at hK ⊢
      rw [f20, f21] at hK ⊢
      clear f20 f21
      go_wp2_with (fail)
      exact hK _ _ (by (first | ((repeat' with_reducible first | assumption | exact Below.refl _ _ | apply Blw.alloc | apply Blw.drew | apply Blw.drewN | (refine Blw.after ?_ (by assumption)) | (refine Blw.set ?_ (by first | (dsimp only; omega) | (simp; omega)) _)); done) | (repeat' (first | assumption | exact Below.refl _ _ | apply Blw.alloc | apply Blw.drew | apply Blw.drewN | (refine Blw.after ?_ (by assumption)) | (refine Blw.set ?_ (by first | (dsimp only; omega) | (simp; done) | (simp; omega)) _))))) rfl
    · intro u w2 hH hd K hK
      have f22 : u 22 = (.int .i64 (y - x)) := hd 22 (by kernel_rfl)
      simp only [setU, upd, List.map_cons, List.map_nil, List.contains_cons, List.contains_nil, Nat.reduceBEq, Nat.reduceAdd, Bool.or_false, Bool.false_or, Bool.or_true, Bool.true_or, Bool.false_eq_true, if_false, if_true, ite_true, ite_false, Nat.reduceEqDiff, beq_self_eq_true] at hK ⊢
      rw [f22] at hK ⊢
      clear f22
      go_wp2_with (fail)
      exact hK _ _ (by (first | ((repeat' with_reducible first | assumption | exact Below.refl _ _ | apply Blw.alloc | apply Blw.drew | apply Blw.drewN | (refine Blw.after ?_ (by assumption)) | (refine Blw.set ?_ (by first | (dsimp only; omega) | (simp; omega)) _)); done) | (repeat' (first | assumption | exact Below.refl _ _ | apply Blw.alloc | apply Blw.drew | apply Blw.drewN | (refine Blw.after ?_ (by assumption)) | (refine Blw.set ?_ (by first | (dsimp only; omega) | (simp; done) | (simp; omega)) _))))) rfl
    · intro u w2 hH hd K hK
      simp only [setU, upd, List.map_cons, List.map_nil, List.contains_cons, List.contains_nil, Nat.reduceBEq, Nat.reduceAdd, Bool.or_false, Bool.false_or, Bool.or_true, Bool.true_or, Bool.false_eq_true, if_false, if_true, ite_true, ite_false, Nat.reduceEqDiff, beq_self_eq_true] at hK ⊢
      go_wp2_with (fail)
      exact hK _ _ (by (first | ((repeat' with_reducible first | assumption | exact Below.refl _ _ | apply Blw.alloc | apply Blw.drew | apply Blw.drewN | (refine Blw.after ?_ (by assumption)) | (refine Blw.set ?_ (by first | (dsimp only; omega) | (simp; omega)) _)); done) | (repeat' (first | assumption | exact Below.refl _ _ | apply Blw.alloc | apply Blw.drew | apply Blw.drewN | (refine Blw.after ?_ (by assumption)) | (refine Blw.set ?_ (by first | (dsimp only; omega) | (simp; done) | (simp; omega)) _))))) rfl
    · intro u w2 hH hd K hK
      have f24 : u 24 = (.int .i64 (x)) := hd 24 (by kernel_rfl)
      simp only [setU, upd, List.map_cons, List.map_nil, List.contains_cons, List.contains_nil, Nat.reduceBEq, Nat.reduceAdd, Bool.or_false, Bool.false_or, Bool.or_true, Bool.true_or, Bool.false_eq_true, if_false, if_true, ite_true, ite_false, Nat.reduceEqDiff, beq_self_eq_true] at hK ⊢
      rw [f24] at hK ⊢
      clear f24
      go_wp2_with (fail)
      exact hK _ _ (by (first | ((repeat' with_reducible first | assumption | exact Below.refl _ _ | apply Blw.alloc | apply Blw.drew | apply Blw.drewN | (refine Blw.after ?_ (by assumption)) | (refine Blw.set ?_ (by first | (dsimp only; omega) | (simp; omega)) _)); done) | (repeat' (first | assumption | exact Below.refl _ _ | apply Blw.alloc | apply Blw.drew | apply Blw.drewN | (refine Blw.after ?_ (by assumption)) | (refine Blw.set ?_ (by first | (dsimp only; omega) | (simp; done) | (simp; omega)) _))))) rfl
    · intro u w2 hH hd K hK
      simp only [setU, upd, List.map_cons, List.map_nil, List.contains_cons, List.contains_nil, Nat.reduceBEq, Nat.reduceAdd, Bool.or_false, Bool.false_or, Bool.or_true, Bool.true_or, Bool.false_eq_true, if_false, if_true, ite_true, ite_false, Nat.reduceEqDiff, beq_self_eq_true] at hK ⊢
      go_wp2_with (fail)
      exact hK _ _ (by (first | ((repeat' with_reducible first | assumption | exact Below.refl _ _ | apply Blw.alloc | apply Blw.drew | apply Blw.drewN | (refine Blw.after ?_ (by assumption)) | (refine Blw.set ?_ (by first | (dsimp only; omega) | (simp; omega)) _)); done) | (repeat' (first | assumption | exact Below.refl _ _ | apply Blw.alloc | apply Blw.drew | apply Blw.drewN | (refine Blw.after ?_ (by assumption)) | (refine Blw.set ?_ (by first | (dsimp only; omega) | (simp; done) | (simp; omega)) _))))) rfl
    · intro u w2 hH hd K hK
      have f26 : u 26 = (.pointer (some ⟨w.heap.size, 1, none⟩)) := hd 26 (by kernel_rfl)
      simp only [setU, upd, List.map_cons, List.map_nil, List.contains_cons, List.contains_nil, Nat.reduceBEq, Nat.reduceAdd, Bool.or_false, Bool.false_or, Bool.or_true, Bool.true_or, Bool.false_eq_true, if_false, if_true, ite_true, ite_false, Nat.reduceEqDiff, beq_self_eq_true] at hK ⊢
      rw [f26] at hK ⊢
      clear f26
      go_wp2_with (fail)
      exact hK _ _ (by (first | ((repeat' with_reducible first | assumption | exact Below.refl _ _ | apply Blw.alloc | apply Blw.drew | apply Blw.drewN | (refine Blw.after ?_ (by assumption)) | (refine Blw.set ?_ (by first | (dsimp only; omega) | (simp; omega)) _)); done) | (repeat' (first | assumption | exact Below.refl _ _ | apply Blw.alloc | apply Blw.drew | apply Blw.drewN | (refine Blw.after ?_ (by assumption)) | (refine Blw.set ?_ (by first | (dsimp only; omega) | (simp; done) | (simp; omega)) _))))) rfl
    · intro u w2 hH hd K hK
      have f25 : u 25 = (.int .i64 (-x)) := hd 25 (by kernel_rfl)
      have f27 : u 27 = (.int .i64 y) := hd 27 (by kernel_rfl)
      simp only [setU, upd, List.map_cons, List.map_nil, List.contains_cons, List.contains_nil, Nat.reduceBEq, Nat.reduceAdd, Bool.or_false, Bool.false_or, Bool.or_true, Bool.true_or, Bool.false_eq_true, if_false, if_true, ite_true, ite_false, Nat.reduceEqDiff, beq_self_eq_true] at hK ⊢
      rw [f25, f27] at hK ⊢
      clear f25 f27
      go_wp2_with (fail)
      exact hK _ _ (by (first | ((repeat' with_reducible first | assumption | exact Below.refl _ _ | apply Blw.alloc | apply Blw.drew | apply Blw.drewN | (refine Blw.after ?_ (by assumption)) | (refine Blw.set ?_ (by first | (dsimp only; omega) | (simp; omega)) _)); done) | (repeat' (first | assumption | exact Below.refl _ _ | apply Blw.alloc | apply Blw.drew | apply Blw.drewN | (refine Blw.after ?_ (by assumption)) | (refine Blw.set ?_ (by first | (dsimp only; omega) | (simp; done) | (simp; omega)) _))))) rfl
    · intro u w2 hH hd K hK
      have f28 : u 28 = (.int .i64 (-x - y)) := hd 28 (by kernel_rfl)
      simp only [setU, upd, List.map_cons, List.map_nil, List.contains_cons, List.contains_nil, Nat.reduceBEq, Nat.reduceAdd, Bool.or_false, Bool.false_or, Bool.or_true, Bool.true_or, Bool.false_eq_true, if_false, if_true, ite_true, ite_false, Nat.reduceEqDiff, beq_self_eq_true] at hK ⊢
      rw [f28] at hK ⊢
      clear f28
      go_wp2_with (fail)
      exact hK _ _ (by (first | ((repeat' with_reducible first | assumption | exact Below.refl _ _ | apply Blw.alloc | apply Blw.drew | apply Blw.drewN | (refine Blw.after ?_ (by assumption)) | (refine Blw.set ?_ (by first | (dsimp only; omega) | (simp; omega)) _)); done) | (repeat' (first | assumption | exact Below.refl _ _ | apply Blw.alloc | apply Blw.drew | apply Blw.drewN | (refine Blw.after ?_ (by assumption)) | (refine Blw.set ?_ (by first | (dsimp only; omega) | (simp; done) | (simp; omega)) _))))) rfl
    · intro u w2 hH hd K hK
      have f23 : u 23 = (.int .i64 (nX x y)) := hd 23 (by kernel_rfl)
      have f29 : u 29 = (.int .i64 (nY x y)) := hd 29 (by kernel_rfl)
      simp only [setU, upd, List.map_cons, List.map_nil, List.contains_cons, List.contains_nil, Nat.reduceBEq, Nat.reduceAdd, Bool.or_false, Bool.false_or, Bool.or_true, Bool.true_or, Bool.false_eq_true, if_false, if_true, ite_true, ite_false, Nat.reduceEqDiff, beq_self_eq_true] at hK ⊢
      rw [f23, f29] at hK ⊢
      clear f23 f29
      go_wp2_with (fail)
      exact hK _ _ (by (first | ((repeat' with_reducible first | assumption | exact Below.refl _ _ | apply Blw.alloc | apply Blw.drew | apply Blw.drewN | (refine Blw.after ?_ (by assumption)) | (refine Blw.set ?_ (by first | (dsimp only; omega) | (simp; omega)) _)); done) | (repeat' (first | assumption | exact Below.refl _ _ | apply Blw.alloc | apply Blw.drew | apply Blw.drewN | (refine Blw.after ?_ (by assumption)) | (refine Blw.set ?_ (by first | (dsimp only; omega) | (simp; done) | (simp; omega)) _))))) rfl
    · intro u w2 hH hd K hK
      have f18 : u 18 = (.int .i64 0) := hd 18 (by kernel_rfl)
      simp only [setU, upd, List.map_cons, List.map_nil, List.contains_cons, List.contains_nil, Nat.reduceBEq, Nat.reduceAdd, Bool.or_false, Bool.false_or, Bool.or_true, Bool.true_or, Bool.false_eq_true, if_false, if_true, ite_true, ite_false, Nat.reduceEqDiff, beq_self_eq_true] at hK ⊢
      rw [f18] at hK ⊢
      clear f18
      go_wp2_with (fail)
      exact hK _ _ (by (first | ((repeat' with_reducible first | assumption | exact Below.refl _ _ | apply Blw.alloc | apply Blw.drew | apply Blw.drewN | (refine Blw.after ?_ (by assumption)) | (refine Blw.set ?_ (by first | (dsimp only; omega) | (simp; omega)) _)); done) | (repeat' (first | assumption | exact Below.refl _ _ | apply Blw.alloc | apply Blw.drew | apply Blw.drewN | (refine Blw.after ?_ (by assumption)) | (refine Blw.set ?_ (by first | (dsimp only; omega) | (simp; done) | (simp; omega)) _))))) rfl
    intro u w2 hH hF hne
    have hH1 := hH.1
    have hH2 := hH.2.2.2
    simp only [allFacts, SlotFact.h] at hF
    obtain ⟨f18, f19, f20, f21, f22, f23, f24, f25, f26, f27, f28, f29, f30, f2, -⟩ := hF
    simp only [setU, upd, List.map_cons, List.map_nil, List.contains_cons, List.contains_nil, Nat.reduceBEq, Nat.reduceAdd, Bool.or_false, Bool.false_or, Bool.or_true, Bool.true_or, Bool.false_eq_true, if_false, if_true, ite_true, ite_false, Nat.reduceEqDiff, beq_self_eq_true]
    rw [f18, f19, f20, f21, f22, f23, f24, f25, f26, f27, f28, f29, f30, f2]
    clear f18 f19 f20 f21 f22 f23 f24 f25 f26 f27 f28 f29 f30 f2 hne
    refine wpListS_true ?_
    go_wp2
    exact bodyPost_ret (v := .tuple #[.int .i64 0, pr (nX x y) (nY x y)]) (by simp [results, Tryz.results69, go_sem, *]) rfl ⟨by rw [HD.out], by (first | ((repeat' with_reducible first | assumption | exact Below.refl _ _ | apply Blw.alloc | apply Blw.drew | apply Blw.drewN | (refine Blw.after ?_ (by assumption)) | (refine Blw.set ?_ (by first | (dsimp only; omega) | (simp; omega)) _)); done) | (repeat' (first | assumption | exact Below.refl _ _ | apply Blw.alloc | apply Blw.drew | apply Blw.drewN | (refine Blw.after ?_ (by assumption)) | (refine Blw.set ?_ (by first | (dsimp only; omega) | (simp; done) | (simp; omega)) _))))⟩

  all_goals
    have HD := Lib.hid (show lastD x y = 1 from e1)
    have q1 : (y - (x - 1)).tdiv 2 = nX x y := tdiv2 (by have := two_nX x y; rw [HD.out] at this; omega)
    have q2 : (-(x - 1) - y).tdiv 2 = nY x y := tdiv2 (by have := two_nY x y; rw [HD.out] at this; omega)
    clear e1
    go_enter Tryz.func69, Tryz.ntmps69
    go_wp2
    generalize hW : World.alloc _ _ = W0
    have kW0_13 : W0.cell? ⟨w.heap.size, 0, none⟩ = some (.int .i64 (x)) := by rw [← hW]; clear hW; first | (go_simp; done) | ((repeat refine keepcell ((Below.refl _ _).alloc (Nat.le_refl _) _) ?_); go_simp; done) | (simp only [frozen?_alloc_cells]; go_simp; done)
    have kW0_14 : W0.cell? ⟨w.heap.size, 1, none⟩ = some (.int .i64 (y)) := by rw [← hW]; clear hW; first | (go_simp; done) | ((repeat refine keepcell ((Below.refl _ _).alloc (Nat.le_refl _) _) ?_); go_simp; done) | (simp only [frozen?_alloc_cells]; go_simp; done)
    have : w.heap.size < W0.heap.size := World.block_lt_of_cell? W0 ⟨w.heap.size, 0, none⟩ (by assumption)
    have kW0_15 : W0.cell? ⟨w.heap.size + 1, 0, none⟩ = some (.int .i64 (0)) := by rw [← hW]; clear hW; first | (go_simp; done) | ((repeat refine keepcell ((Below.refl _ _).alloc (Nat.le_refl _) _) ?_); go_simp; done) | (simp only [frozen?_alloc_cells]; go_simp; done)
    have zW0_15 : W0.frozen? ⟨w.heap.size + 1, 0, none⟩ = false := by rw [← hW]; clear hW; first | (go_simp; done) | ((repeat refine keepcell ((Below.refl _ _).alloc (Nat.le_refl _) _) ?_); go_simp; done) | (simp only [frozen?_alloc_cells]; go_simp; done)
    have kW0_16 : W0.cell? ⟨w.heap.size + 1, 1, none⟩ = some (.int .i64 (0)) := by rw [← hW]; clear hW; first | (go_simp; done) | ((repeat refine keepcell ((Below.refl _ _).alloc (Nat.le_refl _) _) ?_); go_simp; done) | (simp only [frozen?_alloc_cells]; go_simp; done)
    have zW0_16 : W0.frozen? ⟨w.heap.size + 1, 1, none⟩ = false := by rw [← hW]; clear hW; first | (go_simp; done) | ((repeat refine keepcell ((Below.refl _ _).alloc (Nat.le_refl _) _) ?_); go_simp; done) | (simp only [frozen?_alloc_cells]; go_simp; done)
    have : w.heap.size + 1 < W0.heap.size := World.block_lt_of_cell? W0 ⟨w.heap.size + 1, 0, none⟩ (by assumption)
    have hBW0 : Below w.heap.size w W0 := by rw [← hW]; (first | ((repeat' with_reducible first | assumption | exact Below.refl _ _ | apply Blw.alloc | apply Blw.drew | apply Blw.drewN | (refine Blw.after ?_ (by assumption)) | (refine Blw.set ?_ (by first | (dsimp only; omega) | (simp; omega)) _)); done) | (repeat' (first | assumption | exact Below.refl _ _ | apply Blw.alloc | apply Blw.drew | apply Blw.drewN | (refine Blw.after ?_ (by assumption)) | (refine Blw.set ?_ (by first | (dsimp only; omega) | (simp; done) | (simp; omega)) _))))
    have hsW0 := hBW0.size
    clear hW
    refine region_slots (fun _ => True) [] [(18, .is (.int .i64 1)), (19, .is (.pointer (some ⟨w.heap.size, 1, none⟩))), (20, .is (.int .i64 y)), (21, .is (.int .i64 (x - 1))), (22, .is (.int .i64 (y - (x - 1)))), (23, .is (.int .i64 (nX x y))), (24, .is (.int .i64 (x - 1))), (25, .is (.int .i64 (-(x - 1)))), (26, .is (.pointer (some ⟨w.heap.size, 1, none⟩))), (27, .is (.int .i64 y)), (28, .is (.int .i64 (-(x - 1) - y))), (29, .is (.int .i64 (nY x y))), (30, .is (pr (nX x y) (nY x y))), (2, .is (.int .i64 1))] (by kernel_rfl) (by kernel_rfl) (by kernel_rfl) (fun _ _ => trivial) (fun _ _ _ _ _ _ h => h) ?_
    simp only [Steps, List.contains_cons, List.contains_nil, Nat.reduceBEq, Nat.reduceAdd, Bool.or_false, Bool.false_or, Bool.or_true, Bool.true_or, Bool.false_eq_true, if_false, if_true]
    refine ⟨?_, ?_, ?_, ?_, ?_, ?_, ?_, ?_, ?_, ?_, ?_, ?_, ?_, ?_, ?_⟩
    · intro u w2 hH hd K hK
      simp only [setU, upd, List.map_cons, List.map_nil, List.contains_cons, List.contains_nil, Nat.reduceBEq, Nat.reduceAdd, Bool.or_false, Bool.false_or, Bool.or_true, Bool.true_or, Bool.false_eq_true, if_false, if_true, ite_true, ite_false, Nat.reduceEqDiff, beq_self_eq_true] at hK ⊢
      go_wp2_with (fail)
      exact hK _ _ (by (first | ((repeat' with_reducible first | assumption | exact Below.refl _ _ | apply Blw.alloc | apply Blw.drew | apply Blw.drewN | (refine Blw.after ?_ (by assumption)) | (refine Blw.set ?_ (by first | (dsimp only; omega) | (simp; omega)) _)); done) | (repeat' (first | assumption | exact Below.refl _ _ | apply Blw.alloc | apply Blw.drew | apply Blw.drewN | (refine Blw.after ?_ (by assumption)) | (refine Blw.set ?_ (by first | (dsimp only; omega) | (simp; done) | (simp; omega)) _))))) rfl
    · intro u w2 hH hd K hK
      simp only [setU, upd, List.map_cons, List.map_nil, List.contains_cons, List.contains_nil, Nat.reduceBEq, Nat.reduceAdd, Bool.or_false, Bool.false_or, Bool.or_true, Bool.true_or, Bool.false_eq_true, if_false, if_true, ite_true, ite_false, Nat.reduceEqDiff, beq_self_eq_true] at hK ⊢
      go_wp2_with (fail)
      exact hK _ _ (by (first | ((repeat' with_reducible first | assumption | exact Below.refl _ _ | apply Blw.alloc | apply Blw.drew | apply Blw.drewN | (refine Blw.after ?_ (by assumption)) | (refine Blw.set ?_ (by first | (dsimp only; omega) | (simp; omega)) _)); done) | (repeat' (first | assumption | exact Below.refl _ _ | apply Blw.alloc | apply Blw.drew | apply Blw.drewN | (refine Blw.after ?_ (by assumption)) | (refine Blw.set ?_ (by first | (dsimp only; omega) | (simp; done) | (simp; omega)) _))))) rfl
    · intro u w2 hH hd K hK
      have f19 : u 19 = (.pointer (some ⟨w.heap.size, 1, none⟩)) := hd 19 (by kernel_rfl)
      simp only [setU, upd, List.map_cons, List.map_nil, List.contains_cons, List.contains_nil, Nat.reduceBEq, Nat.reduceAdd, Bool.or_false, Bool.false_or, Bool.or_true, Bool.true_or, Bool.false_eq_true, if_false, if_true, ite_true, ite_false, Nat.reduceEqDiff, beq_self_eq_true] at hK ⊢
      rw [f19] at hK ⊢
      clear f19
      go_wp2_with (fail)
      exact hK _ _ (by (first | ((repeat' with_reducible first | assumption | exact Below.refl _ _ | apply Blw.alloc | apply Blw.drew | apply Blw.drewN | (refine Blw.after ?_ (by assumption)) | (refine Blw.set ?_ (by first | (dsimp only; omega) | (simp; omega)) _)); done) | (repeat' (first | assumption | exact Below.refl _ _ | apply Blw.alloc | apply Blw.drew | apply Blw.drewN | (refine Blw.after ?_ (by assumption)) | (refine Blw.set ?_ (by first | (dsimp only; omega) | (simp; done) | (simp; omega)) _))))) rfl
    · intro u w2 hH hd K hK
      simp only [setU, upd, List.map_cons, List.map_nil, List.contains_cons, List.contains_nil, Nat.reduceBEq, Nat.reduceAdd, Bool.or_false, Bool.false_or, Bool.or_true, Bool.true_or, Bool.false_eq_true, if_false, if_true, ite_true, ite_false, Nat.reduceEqDiff, beq_self_eq_true] at hK ⊢
      go_wp2_with (fail)
      exact hK _ _ (by (first | ((repeat' with_reducible first | assumption | exact Below.refl _ _ | apply Blw.alloc | apply Blw.drew | apply Blw.drewN | (refine Blw.after ?_ (by assumption)) | (refine Blw.set ?_ (by first | (dsimp only; omega) | (simp; omega)) _)); done) | (repeat' (first | assumption | exact Below.refl _ _ | apply Blw.alloc | apply Blw.drew | apply Blw.drewN | (refine Blw.after ?_ (by assumption)) | (refine Blw.set ?_ (by first | (dsimp only; omega) | (simp; done) | (simp; omega)) _))))) rfl
    · intro u w2 hH hd K hK
      have f20 : u 20 = (.int .i64 y) := hd 20 (by kernel_rfl)
      have f21 : u 21 = (.int .i64 (x - 1)) := hd 21 (by kernel_rfl)
      simp only [setU, upd, List.map_cons, List.map_nil, List.contains_cons, List.contains_nil, Nat.reduceBEq, Nat.reduceAdd, Bool.or_false, Bool.false_or, Bool.or_true, Bool.true_or, Bool.false_eq_true, if_false, if_true, ite_true, ite_false, Nat.reduceEqDiff, beq_self_eq_true] at hK ⊢
      rw [f20, f21] at hK ⊢
      clear f20 f21
      go_wp2_with (fail)
      exact hK _ _ (by (first | ((repeat' with_reducible first | assumption | exact Below.refl _ _ | apply Blw.alloc | apply Blw.drew | apply Blw.drewN | (refine Blw.after ?_ (by assumption)) | (refine Blw.set ?_ (by first | (dsimp only; omega) | (simp; omega)) _)); done) | (repeat' (first | assumption | exact Below.refl _ _ | apply Blw.alloc | apply Blw.drew | apply Blw.drewN | (refine Blw.after ?_ (by assumption)) | (refine Blw.set ?_ (by first | (dsimp only; omega) | (simp; done) | (simp; omega)) _))))) rfl
    · intro u w2 hH hd K hK
      have f22 : u 22 = (.int .i64 (y - (x - 1))) := hd 22 (by kernel_rfl)
      simp only [setU, upd, List.map_cons, List.map_nil, List.contains_cons, List.contains_nil, Nat.reduceBEq, Nat.reduceAdd, Bool.or_false, Bool.false_or, Bool.or_true, Bool.true_or, Bool.false_eq_true, if_false, if_true, ite_true, ite_false, Nat.reduceEqDiff, beq_self_eq_true] at hK ⊢
      rw [f22] at hK ⊢
      clear f22
      go_wp2_with (fail)
      exact hK _ _ (by (first | ((repeat' with_reducible first | assumption | exact Below.refl _ _ | apply Blw.alloc | apply Blw.drew | apply Blw.drewN | (refine Blw.after ?_ (by assumption)) | (refine Blw.set ?_ (by first | (dsimp only; omega) | (simp; omega)) _)); done) | (repeat' (first | assumption | exact Below.refl _ _ | apply Blw.alloc | apply Blw.drew | apply Blw.drewN | (refine Blw.after ?_ (by assumption)) | (refine Blw.set ?_ (by first | (dsimp only; omega) | (simp; done) | (simp; omega)) _))))) rfl
    · intro u w2 hH hd K hK
      simp only [setU, upd, List.map_cons, List.map_nil, List.contains_cons, List.contains_nil, Nat.reduceBEq, Nat.reduceAdd, Bool.or_false, Bool.false_or, Bool.or_true, Bool.true_or, Bool.false_eq_true, if_false, if_true, ite_true, ite_false, Nat.reduceEqDiff, beq_self_eq_true] at hK ⊢
      go_wp2_with (fail)
      exact hK _ _ (by (first | ((repeat' with_reducible first | assumption | exact Below.refl _ _ | apply Blw.alloc | apply Blw.drew | apply Blw.drewN | (refine Blw.after ?_ (by assumption)) | (refine Blw.set ?_ (by first | (dsimp only; omega) | (simp; omega)) _)); done) | (repeat' (first | assumption | exact Below.refl _ _ | apply Blw.alloc | apply Blw.drew | apply Blw.drewN | (refine Blw.after ?_ (by assumption)) | (refine Blw.set ?_ (by first | (dsimp only; omega) | (simp; done) | (simp; omega)) _))))) rfl
    · intro u w2 hH hd K hK
      have f24 : u 24 = (.int .i64 (x - 1)) := hd 24 (by kernel_rfl)
      simp only [setU, upd, List.map_cons, List.map_nil, List.contains_cons, List.contains_nil, Nat.reduceBEq, Nat.reduceAdd, Bool.or_false, Bool.false_or, Bool.or_true, Bool.true_or, Bool.false_eq_true, if_false, if_true, ite_true, ite_false, Nat.reduceEqDiff, beq_self_eq_true] at hK ⊢
      rw [f24] at hK ⊢
      clear f24
      go_wp2_with (fail)
      exact hK _ _ (by (first | ((repeat' with_reducible first | assumption | exact Below.refl _ _ | apply Blw.alloc | apply Blw.drew | apply Blw.drewN | (refine Blw.after ?_ (by assumption)) | (refine Blw.set ?_ (by first | (dsimp only; omega) | (simp; omega)) _)); done) | (repeat' (first | assumption | exact Below.refl _ _ | apply Blw.alloc | apply Blw.drew | apply Blw.drewN | (refine Blw.after ?_ (by assumption)) | (refine Blw.set ?_ (by first | (dsimp only; omega) | (simp; done) | (simp; omega)) _))))) rfl
    · intro u w2 hH hd K hK
      simp only [setU, upd, List.map_cons, List.map_nil, List.contains_cons, List.contains_nil, Nat.reduceBEq, Nat.reduceAdd, Bool.or_false, Bool.false_or, Bool.or_true, Bool.true_or, Bool.false_eq_true, if_false, if_true, ite_true, ite_false, Nat.reduceEqDiff, beq_self_eq_true] at hK ⊢
      go_wp2_with (fail)
      exact hK _ _ (by (first | ((repeat' with_reducible first | assumption | exact Below.refl _ _ | apply Blw.alloc | apply Blw.drew | apply Blw.drewN | (refine Blw.after ?_ (by assumption)) | (refine Blw.set ?_ (by first | (dsimp only; omega) | (simp; omega)) _)); done) | (repeat' (first | assumption | exact Below.refl _ _ | apply Blw.alloc | apply Blw.drew | apply Blw.drewN | (refine Blw.after ?_ (by assumption)) | (refine Blw.set ?_ (by first | (dsimp only; omega) | (simp; done) | (simp; omega)) _))))) rfl
    · intro u w2 hH hd K hK
      have f26 : u 26 = (.pointer (some ⟨w.heap.size, 1, none⟩)) := hd 26 (by kernel_rfl)
      simp only [setU, upd, List.map_cons, List.map_nil, List.contains_cons, List.contains_nil, Nat.reduceBEq, Nat.reduceAdd, Bool.or_false, Bool.false_or, Bool.or_true, Bool.true_or, Bool.false_eq_true, if_false, if_true, ite_true, ite_false, Nat.reduceEqDiff, beq_self_eq_true] at hK ⊢
      rw [f26] at hK ⊢
      clear f26
      go_wp2_with (fail)
      exact hK _ _ (by (first | ((repeat' with_reducible first | assumption | exact Below.refl _ _ | apply Blw.alloc | apply Blw.drew | apply Blw.drewN | (refine Blw.after ?_ (by assumption)) | (refine Blw.set ?_ (by first | (dsimp only; omega) | (simp; omega)) _)); done) | (repeat' (first | assumption | exact Below.refl _ _ | apply Blw.alloc | apply Blw.drew | apply Blw.drewN | (refine Blw.after ?_ (by assumption)) | (refine Blw.set ?_ (by first | (dsimp only; omega) | (simp; done) | (simp; omega)) _))))) rfl
    · intro u w2 hH hd K hK
      have f25 : u 25 = (.int .i64 (-(x - 1))) := hd 25 (by kernel_rfl)
      have f27 : u 27 = (.int .i64 y) := hd 27 (by kernel_rfl)
      simp only [setU, upd, List.map_cons, List.map_nil, List.contains_cons, List.contains_nil, Nat.reduceBEq, Nat.reduceAdd, Bool.or_false, Bool.false_or, Bool.or_true, Bool.true_or, Bool.false_eq_true, if_false, if_true, ite_true, ite_false, Nat.reduceEqDiff, beq_self_eq_true] at hK ⊢
      rw [f25, f27] at hK ⊢
      clear f25 f27
      go_wp2_with (fail)
      exact hK _ _ (by (first | ((repeat' with_reducible first | assumption | exact Below.refl _ _ | apply Blw.alloc | apply Blw.drew | apply Blw.drewN | (refine Blw.after ?_ (by assumption)) | (refine Blw.set ?_ (by first | (dsimp only; omega) | (simp; omega)) _)); done) | (repeat' (first | assumption | exact Below.refl _ _ | apply Blw.alloc | apply Blw.drew | apply Blw.drewN | (refine Blw.after ?_ (by assumption)) | (refine Blw.set ?_ (by first | (dsimp only; omega) | (simp; done) | (simp; omega)) _))))) rfl
    · intro u w2 hH hd K hK
      have f28 : u 28 = (.int .i64 (-(x - 1) - y)) := hd 28 (by kernel_rfl)
      simp only [setU, upd, List.map_cons, List.map_nil, List.contains_cons, List.contains_nil, Nat.reduceBEq, Nat.reduceAdd, Bool.or_false, Bool.false_or, Bool.or_true, Bool.true_or, Bool.false_eq_true, if_false, if_true, ite_true, ite_false, Nat.reduceEqDiff, beq_self_eq_true] at hK ⊢
      rw [f28] at hK ⊢
      clear f28
      go_wp2_with (fail)
      exact hK _ _ (by (first | ((repeat' with_reducible first | assumption | exact Below.refl _ _ | apply Blw.alloc | apply Blw.drew | apply Blw.drewN | (refine Blw.after ?_ (by assumption)) | (refine Blw.set ?_ (by first | (dsimp only; omega) | (simp; omega)) _)); done) | (repeat' (first | assumption | exact Below.refl _ _ | apply Blw.alloc | apply Blw.drew | apply Blw.drewN | (refine Blw.after ?_ (by assumption)) | (refine Blw.set ?_ (by first | (dsimp only; omega) | (simp; done) | (simp; omega)) _))))) rfl
    · intro u w2 hH hd K hK
      have f23 : u 23 = (.int .i64 (nX x y)) := hd 23 (by kernel_rfl)
      have f29 : u 29 = (.int .i64 (nY x y)) := hd 29 (by kernel_rfl)
      simp only [setU, upd, List.map_cons, List.map_nil, List.contains_cons, List.contains_nil, Nat.reduceBEq, Nat.reduceAdd, Bool.or_false, Bool.false_or, Bool.or_true, Bool.true_or, Bool.false_eq_true, if_false, if_true, ite_true, ite_false, Nat.reduceEqDiff, beq_self_eq_true] at hK ⊢
      rw [f23, f29] at hK ⊢
      clear f23 f29
      go_wp2_with (fail)
      exact hK _ _ (by (first | ((repeat' with_reducible first | assumption | exact Below.refl _ _ | apply Blw.alloc | apply Blw.drew | apply Blw.drewN | (refine Blw.after ?_ (by assumption)) | (refine Blw.set ?_ (by first | (dsimp only; omega) | (simp; omega)) _)); done) | (repeat' (first | assumption | exact Below.refl _ _ | apply Blw.alloc | apply Blw.drew | apply Blw.drewN | (refine Blw.after ?_ (by assumption)) | (refine Blw.set ?_ (by first | (dsimp only; omega) | (simp; done) | (simp; omega)) _))))) rfl
    · intro u w2 hH hd K hK
      have f18 : u 18 = (.int .i64 1) := hd 18 (by kernel_rfl)
      simp only [setU, upd, List.map_cons, List.map_nil, List.contains_cons, List.contains_nil, Nat.reduceBEq, Nat.reduceAdd, Bool.or_false, Bool.false_or, Bool.or_true, Bool.true_or, Bool.false_eq_true, if_false, if_true, ite_true, ite_false, Nat.reduceEqDiff, beq_self_eq_true] at hK ⊢
      rw [f18] at hK ⊢
      clear f18
      go_wp2_with (fail)
      exact hK _ _ (by (first | ((repeat' with_reducible first | assumption | exact Below.refl _ _ | apply Blw.alloc | apply Blw.drew | apply Blw.drewN | (refine Blw.after ?_ (by assumption)) | (refine Blw.set ?_ (by first | (dsimp only; omega) | (simp; omega)) _)); done) | (repeat' (first | assumption | exact Below.refl _ _ | apply Blw.alloc | apply Blw.drew | apply Blw.drewN | (refine Blw.after ?_ (by assumption)) | (refine Blw.set ?_ (by first | (dsimp only; omega) | (simp; done) | (simp; omega)) _))))) rfl
    intro u w2 hH hF hne
    have hH1 := hH.1
    have hH2 := hH.2.2.2
    simp only [allFacts, SlotFact.h] at hF
    obtain ⟨f18, f19, f20, f21, f22, f23, f24, f25, f26, f27, f28, f29, f30, f2, -⟩ := hF
    simp only [setU, upd, List.map_cons, List.map_nil, List.contains_cons, List.contains_nil, Nat.reduceBEq, Nat.reduceAdd, Bool.or_false, Bool.false_or, Bool.or_true, Bool.true_or, Bool.false_eq_true, if_false, if_true, ite_true, ite_false, Nat.reduceEqDiff, beq_self_eq_true]
    rw [f18, f19, f20, f21, f22, f23, f24, f25, f26, f27, f28, f29, f30, f2]
    clear f18 f19 f20 f21 f22 f23 f24 f25 f26 f27 f28 f29 f30 f2 hne
    refine wpListS_true ?_
    go_wp2
    exact bodyPost_ret (v := .tuple #[.int .i64 1, pr (nX x y) (nY x y)]) (by simp [results, Tryz.results69, go_sem, *]) rfl ⟨by rw [HD.out], by (first | ((repeat' with_reducible first | assumption | exact Below.refl _ _ | apply Blw.alloc | apply Blw.drew | apply Blw.drewN | (refine Blw.after ?_ (by assumption)) | (refine Blw.set ?_ (by first | (dsimp only; omega) | (simp; omega)) _)); done) | (repeat' (first | assumption | exact Below.refl _ _ | apply Blw.alloc | apply Blw.drew | apply Blw.drewN | (refine Blw.after ?_ (by assumption)) | (refine Blw.set ?_ (by first | (dsimp only; omega) | (simp; done) | (simp; omega)) _))))⟩


end Go.Proofs.YtmondgcehgmamaaGreatDoor

namespace Go.Proofs.YtmondgcehgmamaaGreatDoor
set_option linter.unusedSimpArgs false
set_option linter.unusedVariables false
open Go.RowKit

theorem l2Bit_c (d : Int) (w : World) (h : d = 0 ∨ d = 1) : Calls Tryz.prog 71 #[.int .i64 d] w fun e w' => e = .returned (.string (bs [bitc d])) ∧ w = w' := by
  rcases h with rfl | rfl
  all_goals
    go_enter Tryz.func71, Tryz.ntmps71
    go_wp2
    go_ret
    exact ⟨rfl, rfl⟩

theorem toL_from1 (t : ByteArray) : toL (t.extract 1 t.size) = (toL t).drop 1 := by
  rw [← bs_toL t]
  generalize toL t = l
  show toL ((ByteArray.mk l.toArray).extract 1 _) = _
  rw [ByteArray.extract_mk]
  simp [toL, bs, ByteArray.size]
  exact List.take_of_length_le (by simp)
def DoneRel (s : ByteArray) (w : World) (m : Nat) (v : Value) (wr : World) : Prop := ∃ t : ByteArray, v = .string t ∧ t.size ≤ m ∧ wr = w ∧ strip (toL t) = strip (toL s)
abbrev resD (l : List UInt8) : Value := .tuple #[.string (selS (vldL (strip l)) (strip l)), .bool (vldL (strip l))]
theorem resD_t {l : List UInt8} {t : ByteArray} (h : strip l = toL t) (hv : vldB t = true) : resD l = .tuple #[.string t, .bool true] := by
  unfold resD; rw [h, show vldL (toL t) = true from hv]; simp [selS, bs_toL]
theorem resD_f {l : List UInt8} {t : ByteArray} (h : strip l = toL t) (hv : vldB t = false) : resD l = .tuple #[.string ⟨#[]⟩, .bool false] := by
  unfold resD; rw [h, show vldL (toL t) = false from hv]; simp [selS, bs]
theorem strip_short {l : List UInt8} (h : l.length ≤ 1) : strip l = l := by
  cases l with
  | nil => rfl
  | cons c r =>
    cases r with
    | nil => rfl
    | cons d r => simp at h
theorem strip_cons48 {l : List UInt8} (h0 : 1 < l.length) (h : l[0]? = some 48) : strip (l.drop 1) = strip l := by
  cases l with
  | nil => simp at h0
  | cons c r =>
    cases r with
    | nil => simp at h0
    | cons d r =>
      simp at h
      subst h
      simp [strip]
theorem strip_keep {l : List UInt8} (h : l[0]? ≠ some 48) : strip l = l := by
  cases l with
  | nil => rfl
  | cons c r =>
    cases r with
    | nil => rfl
    | cons d r =>
      simp at h
      simp [strip, h]
set_option maxHeartbeats 1000000 in
theorem l2Done_c (s : ByteArray) (w : World) : Calls Tryz.prog 42 #[.string s] w fun e w' => e = .returned (resD (toL s)) ∧ w = w' := by
  go_enter Tryz.func42, Tryz.ntmps42
  go_wp2
  go_loopg [0] s.size (fun m v wr => DoneRel s w m v wr)
  case atStart => exact ⟨s, rfl, Nat.le_refl _, rfl, rfl⟩
  case round =>
    obtain ⟨t, rfl, ht, rfl, hst⟩ := hrel
    have HT := Lib.hid hst
    clear hst
    by_cases h1 : 1 < t.size
    · have h0 : 0 < t.size := by omega
      have hg := Lib.hid (toL_get t 0 h0)
      by_cases e8 : t[0].toNat = 48
      · have HS := Lib.hid (strip_cons48 (l := toL t) (by rw [toL_len]; omega) (by rw [hg.out]; congr 1; exact UInt8.toNat_inj.1 (by rw [e8]; rfl)))
        have a1 : ((t[0].toNat : Int) == 48) = true := by simp [e8]
        have hsz : t.size - 1 < t.size := by omega
        clear e8
        go_wp2
        go_roundg (gk - 1)
        case measure => omega
        case rel => exact ⟨t.extract 1 t.size, rfl, by simp; omega, rfl, by rw [toL_from1, HS.out, HT.out]⟩
      · have HS := Lib.hid (strip_keep (l := toL t) (by rw [hg.out]; intro e; apply e8; rw [Option.some.injEq] at e; rw [e]; rfl))
        have a1 : ((t[0].toNat : Int) == 48) = false := by simp; omega
        clear e8
        rcases Bool.eq_false_or_eq_true (vldB t) with hv | hv
        all_goals
          first | have HV := Lib.hid (resD_t (HT.out.symm.trans HS.out) hv) | have HV := Lib.hid (resD_f (HT.out.symm.trans HS.out) hv)
          go_wp2_with (first | (go_at_call 40; refine (sDigitsValid_c _ _).mono ?_; rintro e w1 ⟨rfl, rfl⟩))
          go_ret2
          exact ⟨by rw [HV.out]; rfl, rfl⟩
    · have HS := Lib.hid (strip_short (l := toL t) (by rw [toL_len]; omega))
      rcases Bool.eq_false_or_eq_true (vldB t) with hv | hv
      all_goals
        first | have HV := Lib.hid (resD_t (HT.out.symm.trans HS.out) hv) | have HV := Lib.hid (resD_f (HT.out.symm.trans HS.out) hv)
        go_wp2_with (first | (go_at_call 40; refine (sDigitsValid_c _ _).mono ?_; rintro e w1 ⟨rfl, rfl⟩))
        go_ret2
        exact ⟨by rw [HV.out]; rfl, rfl⟩
end Go.Proofs.YtmondgcehgmamaaGreatDoor

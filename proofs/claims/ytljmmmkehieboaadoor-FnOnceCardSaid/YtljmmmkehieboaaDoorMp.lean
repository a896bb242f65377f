/- A map from points to their numbers, made by the call. No law is stated here. -/
import Derived.Test.YtljmmmkehieboaaDoorTw
import Derived.Maps.Own
namespace Go.Proofs.YtljmmmkehieboaaDoor
set_option linter.unusedSimpArgs false
set_option linter.unusedVariables false
open Go.RowKit Ieee
open Go.ChangeMaps (setBlock heap_setBlock_same heap_setBlock_other)

abbrev Ent := (Int × Int) × Nat
def mE (i : Nat) (p : Ent) : MapEntry := { key := encP p.1, val := .int .i64 (p.2 : Int), born := i }
def ents (i : Nat) : List Ent → List MapEntry
  | [] => []
  | p :: r => mE i p :: ents (i + 1) r
def fnd (z : Int × Int) : List Ent → Nat → Option (Nat × Nat)
  | [], _ => none
  | p :: r, i => if z = p.1 then some (i, p.2) else fnd z r (i + 1)
def cnt (E : List Ent) (z : Int × Int) : Nat := match fnd z E 0 with | some q => q.2 | none => 0
def bump (z : Int × Int) : List Ent → List Ent
  | [] => [(z, 1)]
  | p :: r => if z = p.1 then (p.1, p.2 + 1) :: r else p :: bump z r
theorem ents_len (E : List Ent) : ∀ i, (ents i E).length = E.length := by
  induction E with
  | nil => intro i; rfl
  | cons p r ih => intro i; simp [ents, ih]
theorem ents_snoc (p : Ent) (E : List Ent) : ∀ i, ents i (E ++ [p]) = ents i E ++ [mE (i + E.length) p] := by
  induction E with
  | nil => intro i; rfl
  | cons q r ih => intro i; simp only [List.cons_append, ents, ih, List.length_cons]; rw [show i + 1 + r.length = i + (r.length + 1) by omega]
def EntB (E : List Ent) : Prop := ∀ p ∈ E, Bp 1000 p.1
theorem bump_none {z : Int × Int} (E : List Ent) : ∀ i, fnd z E i = none → bump z E = E ++ [(z, 1)] := by
  induction E with
  | nil => intro i _; rfl
  | cons p r ih =>
    intro i h
    unfold fnd at h
    unfold bump
    split at h
    · cases h
    · next hne => rw [if_neg hne, ih _ h]; rfl
theorem bump_some {z : Int × Int} (E : List Ent) : ∀ i j n, fnd z E i = some (j, n) → i ≤ j ∧ (ents i E)[j - i]?.map (·.key) = some (encP z) ∧ (bump z E).length = E.length ∧
    (ents i E).modify (j - i) (fun e => { e with key := encP z, val := .int .i64 ((n : Int) + 1) }) = ents i (bump z E) := by
  induction E with
  | nil => intro i j n h; cases h
  | cons p r ih =>
    intro i j n h
    unfold fnd at h
    split at h
    · next e =>
      cases h
      unfold bump
      rw [if_pos e]
      refine ⟨Nat.le_refl _, ?_, rfl, ?_⟩
      · rw [Nat.sub_self]; simp [ents, mE, e]
      · rw [Nat.sub_self]
        simp [ents, mE, e]
    · next hne =>
      obtain ⟨h1, h2, h3, h4⟩ := ih _ _ _ h
      unfold bump
      rw [if_neg hne]
      have e1 : j - i = (j - (i + 1)) + 1 := by omega
      refine ⟨by omega, ?_, by simp [h3], ?_⟩
      · rw [e1]; simpa [ents] using h2
      · rw [e1]
        simp only [ents, List.modify_succ_cons]
        rw [h4]
section
variable {P : Program} {T : TypeId} {k : FloatKind}
theorem eq_run (hT : P.underlying T = some (.complex k)) (w : World) {a b : Int × Int} (ha : Bp 1000 a) (hb : Bp 1000 b) : (Op.equal T (encP a) (encP b)).run P w = .ok (decide (a = b)) w := by
  have h1 := ff_order (k := .f32) (a := a.1) (b := b.1) (Nat.le_trans ha.1 (by omega)) (Nat.le_trans hb.1 (by omega))
  have h2 := ff_order (k := .f32) (a := a.2) (b := b.2) (Nat.le_trans ha.2 (by omega)) (Nat.le_trans hb.2 (by omega))
  have e : (decide (a.1 = b.1) && decide (a.2 = b.2)) = decide (a = b) := by
    rw [Bool.eq_iff_iff]
    simp only [Bool.and_eq_true, decide_eq_true_eq]
    exact ⟨fun h => Prod.ext h.1 h.2, fun h => by rw [h]; exact ⟨rfl, rfl⟩⟩
  rw [← e]
  change (Op.equalIn (9999 + 1) T _ _).run P w = _
  unfold Op.equalIn
  change FloatKind.f32.format.order (px a) (px b) = _ at h1
  change FloatKind.f32.format.order (py a) (py b) = _ at h2
  simp [run_underlying hT, Op.floatEq, h1, h2, cmp_sg]
theorem ask_run (hT : P.underlying T = some (.complex k)) (w : World) {z : Int × Int} (hz : Bp 1000 z) (E : List Ent) : ∀ i j, EntB E → (Instr.findAsking T (encP z) (ents j E) i).run P w = .ok ((fnd z E i).map fun q => (q.1, Value.int .i64 (q.2 : Int))) w := by
  induction E with
  | nil => intro i j _; rfl
  | cons p r ih =>
    intro i j hB
    have h1 := eq_run hT w hz (hB p (by simp))
    unfold ents fnd Instr.findAsking
    by_cases e : z = p.1
    · rw [if_pos e]
      rw [decide_eq_true e] at h1
      simp [mE, h1]
    · rw [if_neg e]
      have h2 := ih (i + 1) (j + 1) (fun q hq => hB q (by simp [hq]))
      simp [mE, h1, e, h2]
theorem find_run (hT : P.underlying T = some (.complex k)) (w : World) {z : Int × Int} (hz : Bp 1000 z) (E : List Ent) (hB : EntB E) : (Instr.findKey T (encP z) (ents 0 E)).run P w = .ok ((fnd z E 0).map fun q => (q.1, Value.int .i64 (q.2 : Int))) w := by
  have h := ask_run hT w hz E 0 0 hB
  unfold Instr.findKey
  cases E with
  | nil => simp [run_underlying hT, ents, Instr.findNow, fnd]
  | cons p r =>
    have e : Instr.findNow (.complex k) (encP z) (ents 0 (p :: r)) 0 = none := by simp [ents, mE, Instr.findNow, Instr.sameNow]
    simp [run_underlying hT, e, h]
theorem check_run (hT : P.underlying T = some (.complex k)) (w : World) (em : Bool) (z : Int × Int) : (Instr.checkKey em 10000 T (encP z)).run P w = .ok () w := by
  change (Instr.checkKey em (9999 + 1) T _).run P w = _
  unfold Instr.checkKey
  simp [run_underlying hT]
theorem look_run {M el : TypeId} (hM : P.underlying M = some (.map T el)) (hT : P.underlying T = some (.complex k)) (w : World) (hz0 : (zeroValue el).run P w = .ok (.int .i64 0) w) {b c : Nat} {E : List Ent} (hb : w.heap[b]? = some (.map (ents 0 E).toArray c)) {z : Int × Int} (hz : Bp 1000 z) (hB : EntB E) :
    (Instr.lookup M (.map (some b)) (encP z) false).run P w = .ok (.int .i64 (cnt E z : Int)) w := by
  have h1 := find_run hT w hz E hB
  unfold Instr.lookup cnt
  cases hf : fnd z E 0 with
  | none =>
    rw [hf] at h1
    simp [run_underlying hM, Go.MapKept.run_getObj_map hb, check_run hT, h1, hz0]
  | some q =>
    rw [hf] at h1
    simp [run_underlying hM, Go.MapKept.run_getObj_map hb, check_run hT, h1]
theorem upd_run {M el : TypeId} (hM : P.underlying M = some (.map T el)) (hT : P.underlying T = some (.complex k)) (w : World) {b : Nat} {E : List Ent} (hb : w.heap[b]? = some (.map (ents 0 E).toArray E.length)) {z : Int × Int} (hz : Bp 1000 z) (hB : EntB E) :
    (Instr.mapUpdate M (.map (some b)) (encP z) (.int .i64 ((cnt E z : Int) + 1))).run P w = .ok () (setBlock w b (.map (ents 0 (bump z E)).toArray (bump z E).length)) := by
  have h1 := find_run hT w hz E hB
  unfold Instr.mapUpdate cnt
  cases hf : fnd z E 0 with
  | none =>
    rw [hf] at h1
    have e := bump_none E 0 hf
    have e2 : ((ents 0 E).toArray.push { key := encP z, val := .int .i64 (0 + 1), born := E.length }) = (ents 0 (bump z E)).toArray := by
      rw [e, ents_snoc, List.push_toArray, Nat.zero_add]; rfl
    have e3 : E.length + 1 = (bump z E).length := by rw [e]; simp
    simp only [Int.zero_add] at e2
    simp [run_underlying hM, Go.MapKept.run_getObj_map hb, check_run hT, h1, Go.MapKept.run_setObj_map _ hb, e2, e3, setBlock]
  | some q =>
    rw [hf] at h1
    obtain ⟨j, n⟩ := q
    obtain ⟨_, k1, k2, k3⟩ := bump_some E 0 j n hf
    rw [Nat.sub_zero] at k1 k3
    have hk : ((((ents 0 E).toArray[j]?).map (·.key)).getD (encP z)) = encP z := by
      rw [List.getElem?_toArray, k1]; rfl
    have hs : (Instr.keyThatStays (encP z) (encP z)).run P w = .ok (encP z) w := by
      unfold Instr.keyThatStays
      have : Instr.sameBits 10000 (encP z) (encP z) = true := by
        change Instr.sameBits (9999 + 1) (encP z) (encP z) = true
        simp [Instr.sameBits]
      simp [this]
    have e2 : (ents 0 E).toArray.modify j (fun e => { e with key := encP z, val := .int .i64 ((n : Int) + 1) }) = (ents 0 (bump z E)).toArray := by
      rw [← k3]; simp
    simp [run_underlying hM, Go.MapKept.run_getObj_map hb, check_run hT, h1, Go.MapKept.run_setObj_map _ hb, k1, hs, k3, k2, setBlock]
end
end Go.Proofs.YtljmmmkehieboaaDoor

/- Chapter 5: visits, the program's. No law is stated here. -/
import Derived.Test.YtljmmmkehieboaaDoorMp
import Derived.Test.YtljmmmkehieboaaDoorCwi
namespace Go.Proofs.YtljmmmkehieboaaDoor
set_option linter.unusedSimpArgs false
set_option linter.unusedVariables false
open Go.RowKit Ieee
open Go.ChangeMaps (setBlock heap_setBlock_same heap_setBlock_other)

/-- the numbers of the first points, and the greatest one told -/
def visE (Z : List (Int × Int)) (k : Nat) : List Ent := (Z.take k).foldl (fun E z => bump z E) []
def visM (Z : List (Int × Int)) : Nat → Nat
  | 0 => 0
  | k + 1 => max (visM Z k) (cnt (visE Z (k + 1)) (zg Z k))
theorem visE_succ {Z : List (Int × Int)} {k : Nat} (h : k < Z.length) : visE Z (k + 1) = bump (zg Z k) (visE Z k) := by
  unfold visE
  rw [List.take_add_one, List.getElem?_eq_getElem h, List.foldl_append, zg_get h]; rfl
theorem bump_b {z : Int × Int} (hz : Bp 1000 z) {E : List Ent} (h : EntB E) : EntB (bump z E) := by
  induction E with
  | nil => intro p hp; simp [bump] at hp; rw [hp]; exact hz
  | cons q r ih =>
    unfold bump
    split
    · intro p hp
      rcases List.mem_cons.1 hp with rfl | hp
      · exact h q (by simp)
      · exact h p (by simp [hp])
    · intro p hp
      rcases List.mem_cons.1 hp with rfl | hp
      · exact h _ (by simp)
      · exact ih (fun p hp => h p (by simp [hp])) p hp
theorem visE_b {Z : List (Int × Int)} (h : ∀ z ∈ Z, Bp 1000 z) (k : Nat) : EntB (visE Z k) := by
  unfold visE
  have : ∀ (l : List (Int × Int)) (E : List Ent), (∀ z ∈ l, Bp 1000 z) → EntB E → EntB (l.foldl (fun E z => bump z E) E) := by
    intro l
    induction l with
    | nil => intro E _ h; exact h
    | cons z r ih => intro E hl hE; exact ih _ (fun z hz => hl z (by simp [hz])) (bump_b (hl z (by simp)) hE)
  exact this _ _ (fun z hz => h z (List.mem_of_mem_take hz)) (fun p hp => by simp at hp)
theorem bump_len (z : Int × Int) (E : List Ent) : (bump z E).length ≤ E.length + 1 := by
  induction E with
  | nil => simp [bump]
  | cons q r ih => unfold bump; split <;> simp <;> omega
/-- the sum of all numbers -/
def tot (E : List Ent) : Nat := (E.map (·.2)).sum
theorem tot_bump (z : Int × Int) (E : List Ent) : tot (bump z E) = tot E + 1 := by
  induction E with
  | nil => simp [bump, tot]
  | cons q r ih =>
    unfold bump
    unfold tot at *
    split
    · simp; omega
    · simp [ih]; omega
theorem fnd_le (z : Int × Int) (E : List Ent) : ∀ i j n, fnd z E i = some (j, n) → n ≤ tot E := by
  induction E with
  | nil => intro i j n h; cases h
  | cons q r ih =>
    intro i j n h
    unfold fnd at h
    unfold tot
    split at h
    · cases h; simp
    · have := ih _ _ _ h
      unfold tot at this
      simp; omega
theorem cnt_le (E : List Ent) (z : Int × Int) : cnt E z ≤ tot E := by
  unfold cnt
  split
  · next q h => exact fnd_le z E 0 q.1 q.2 h
  · exact Nat.zero_le _
theorem visE_tot (Z : List (Int × Int)) : ∀ k, k ≤ Z.length → tot (visE Z k) = k := by
  intro k
  induction k with
  | zero => intro _; rfl
  | succ k ih => intro h; rw [visE_succ (by omega), tot_bump, ih (by omega)]
theorem visE_len (Z : List (Int × Int)) : ∀ k, k ≤ Z.length → (visE Z k).length ≤ k := by
  intro k
  induction k with
  | zero => intro _; simp [visE]
  | succ k ih =>
    intro h
    rw [visE_succ (by omega)]
    have := bump_len (zg Z k) (visE Z k)
    have := ih (by omega)
    omega
theorem visM_le (Z : List (Int × Int)) : ∀ k, k ≤ Z.length → visM Z k ≤ k := by
  intro k
  induction k with
  | zero => intro _; exact Nat.le_refl _
  | succ k ih =>
    intro h
    have h1 := ih (by omega)
    have h2 := cnt_le (visE Z (k + 1)) (zg Z k)
    rw [visE_tot Z (k + 1) h] at h2
    unfold visM
    omega
theorem len_run {P : Program} {M k el ty : TypeId} (hM : P.underlying M = some (.map k el)) (w : World) {b c : Nat} {E : List Ent} (hb : w.heap[b]? = some (.map (ents 0 E).toArray c)) :
    (Builtin.len_ #[M] ty #[.map (some b)]).run P w = .ok (.int .i64 (E.length : Int)) w := by
  simp [Builtin.len_, run_underlying hM, Go.MapKept.run_getObj_map hb, goInt, Result.andThen, ents_len]
theorem zeroI (w : World) : (zeroValue 3).run Tryd.prog w = .ok (.int .i64 0) w := by kernel_rfl
theorem below_block {w w' : World} {b : Nat} {es : Array MapEntry} {c : Nat} {o' : Obj} (h : Below w.heap.size w w') (hb : w.heap.size ≤ b) (hx : w'.heap[b]? = some (.map es c)) : Below w.heap.size w (setBlock w' b o') :=
  h.trans ⟨rfl, rfl, rfl, by simp [setBlock], fun k hk => heap_setBlock_other hx _ (by omega)⟩
def VsRel (Z : List (Int × Int)) (w : World) (m : Nat) (x i : Value) (wr : World) : Prop :=
  ∃ k : Nat, k + m = Z.length ∧ i = .int .i64 k ∧ x = .int .i64 (visM Z k : Int) ∧ wr.heap[w.heap.size]? = some (.map (ents 0 (visE Z k)).toArray (visE Z k).length) ∧ Below w.heap.size w wr
set_option maxRecDepth 100000 in
set_option maxHeartbeats 4000000 in
theorem visits_c (a : Option Addr) (c : Nat) (Z : List (Int × Int)) (w : World) (hl : Z.length ≤ 1025) (hS : ∀ z ∈ Z, Bp 1000 z) (h : CSl a (Z.map encP) w) :
    Calls Tryd.prog 32 #[.slice a Z.length c] w fun e w' => e = .returned (.tuple #[.int .i64 ((visE Z Z.length).length : Int), .int .i64 (visM Z Z.length : Int)]) ∧ Below w.heap.size w w' := by
  have HC := Lib.hid h
  have HZ := Lib.hid hS
  have hmm := @run_makeMap Tryd.prog
  clear h hS
  go_enter Tryd.func32, Tryd.ntmps32
  go_wp2_with fail
  have S0 := Lib.hid (show VsRel Z w Z.length (.int .i64 0) (.int .i64 0) (w.alloc (.map #[] 0)) from ⟨0, by omega, rfl, rfl, (MapKept.heap_alloc w _).1, (Below.refl _ _).alloc (Nat.le_refl _) _⟩)
  clear hmm
  go_loopg [5, 7, 11] Z.length (fun m x z i wr => VsRel Z w m x i wr)
  case atStart => exact S0.out
  case round =>
    clear S0
    obtain ⟨k, hk, rfl, rfl, hmap, hB⟩ := hrel
    by_cases hlt : k < Z.length
    · obtain ⟨g, o, rfl, c0⟩ := (HC.out.keep hB).at (k := k) (by rw [List.length_map]; exact hlt)
      rw [List.getElem_map, ← zg_get hlt] at c0
      have hz : Bp 1000 (zg Z k) := by rw [zg_get hlt]; exact HZ.out _ (List.getElem_mem hlt)
      have hEB := visE_b HZ.out k
      have hEB2 := visE_b HZ.out (k + 1)
      have e1 := visE_succ hlt
      have l1 := look_run Tryd.underlying66 Tryd.underlying24 wr (zeroI wr) hmap hz hEB
      have u1 := upd_run Tryd.underlying66 Tryd.underlying24 wr hmap hz hEB
      rw [← e1] at u1
      have hB2 := below_block (o' := .map (ents 0 (visE Z (k + 1))).toArray (visE Z (k + 1)).length) hB (Nat.le_refl _) hmap
      have hm2 := heap_setBlock_same hmap (.map (ents 0 (visE Z (k + 1))).toArray (visE Z (k + 1)).length)
      have l2 := look_run Tryd.underlying66 Tryd.underlying24 _ (zeroI _) hm2 hz hEB2
      have b1 := cnt_le (visE Z k) (zg Z k)
      have b2 := cnt_le (visE Z (k + 1)) (zg Z k)
      rw [visE_tot Z _ (by omega)] at b1 b2
      have b3 := visM_le Z k (by omega)
      have HM := Lib.hid (show visM Z (k + 1) = max (visM Z k) (cnt (visE Z (k + 1)) (zg Z k)) from rfl)
      have Lg : g < wr.heap.size := World.block_lt_of_cell? wr _ c0
      have HM2 := Lib.hid hm2
      have HB2 := Lib.hid hB2
      clear hz hEB hEB2 e1 hm2 hB2 hmap
      generalize cnt (visE Z k) (zg Z k) = n1 at *
      generalize cnt (visE Z (k + 1)) (zg Z k) = n2 at *
      generalize setBlock wr w.heap.size (.map (ents 0 (visE Z (k + 1))).toArray (visE Z (k + 1)).length) = W2 at *
      generalize zg Z k = z at *
      generalize visM Z k = m0 at *
      by_cases hc : m0 < n2
      · go_wp2_with fail
        go_roundg (gk - 1)
        case measure => omega
        case rel => exact ⟨k + 1, by omega, by go_num, by rw [HM.out, Nat.max_eq_right (by omega)], HM2.out, HB2.out⟩
      · go_wp2_with fail
        go_roundg (gk - 1)
        case measure => omega
        case rel => exact ⟨k + 1, by omega, by go_num, by rw [HM.out, Nat.max_eq_left (by omega)], HM2.out, HB2.out⟩
    · obtain rfl : k = Z.length := by omega
      generalize hvm : visM Z Z.length = mm at *
      have hln := fun t => len_run (ty := t) Tryd.underlying66 wr hmap
      generalize hE : visE Z Z.length = E at *
      go_wp2_with fail
      go_ret2
      exact ⟨by rw [hE, hvm]; rfl, hB⟩
end Go.Proofs.YtljmmmkehieboaaDoor

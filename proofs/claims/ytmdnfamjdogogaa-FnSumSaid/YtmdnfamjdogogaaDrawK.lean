/- What the laws of chapter 5 draw: lists of points. No law is stated here. -/
import Derived.Test.YtmdnfamjdogogaaDrawC
import Derived.Test.YtmdnfamjdogogaaCa
import Derived.Test.YtmdnfamjdogogaaPth
import Derived.Test.YtmdnfamjdogogaaReg
import Derived.Deep.Cut
import Derived.Deep.RegionHeld
import Derived.Maps.AppendAt
import Derived.RegionCalls
import Derived.StillTailTactics
import Derived.Deep.DeepCutAuto
namespace Go.Proofs.Ytmdnfamjdogogaa
set_option linter.unusedSimpArgs false
set_option linter.unusedVariables false
open Go.RowKit Ieee

theorem pick_h (rb : Nat) (sv : Value) (p n : Int) (w : World) (hs : Src sv rb w) (h : Rd rb sv p w) (hp : 0 ≤ p ∧ p ≤ 1000000) (hn : 1 ≤ n ∧ n ≤ 1000000) :
    Calls Try.prog 16 #[.pointer (some ⟨rb, 0, none⟩), .int .i64 n] w fun e w' => Drawn (IntTo n) 1 rb sv p w e w' ∧ ∀ b, b ≠ rb → w'.heap[b]? = w.heap[b]? := by
  refine (pick_c rb sv p n w hs h hp hn).mono fun e w' hP => ?_
  obtain ⟨k, m, h1, h2, rfl, rfl⟩ := hP
  have hc : ∀ b o, b ≠ rb → ((w.setCell ⟨rb, 1, none⟩ (.int .i64 (p + 1))).drewN m).cell? ⟨b, o, none⟩ = w.cell? ⟨b, o, none⟩ := fun b o hb => World.cell?_of_block (w := w) (a := ⟨b, o, none⟩) (Below.heap_setCell _ _ _ _ hb)
  have hf : ∀ b o, b ≠ rb → ((w.setCell ⟨rb, 1, none⟩ (.int .i64 (p + 1))).drewN m).frozen? ⟨b, o, none⟩ = w.frozen? ⟨b, o, none⟩ := fun b o hb => World.frozen?_of_block (w := w) (a := ⟨b, o, none⟩) (Below.heap_setCell _ _ _ _ hb)
  obtain ⟨c0, c1, f0, f1⟩ := h
  refine ⟨⟨_, p + 1, ⟨k, rfl, h1, h2⟩, rfl, by omega, by omega, ⟨by go_simp, by go_simp, by go_simp, by go_simp⟩, ?_, by simp [World.drewN, World.setCell], fun b o _ hb => hc b o hb, fun b o _ hb => hf b o hb, fun W0 hb h0 => Blw.drewN _ (Blw.set hb h0 _)⟩, fun b hb => Below.heap_setCell _ _ _ _ hb⟩
  obtain ⟨a, len, cap, rfl, hl, hs⟩ := hs
  refine ⟨a, len, cap, rfl, hl, hs.imp id ?_⟩
  rintro ⟨b, off, rfl, hb, hz⟩
  exact ⟨b, off, rfl, hb, fun i hi => by rw [hc _ _ hb]; exact hz i hi⟩
theorem own_pick {w w' : World} {rb B e n sz : Nat} {v : Value} {xs : List Value} (h : w.ownsRow B e sz v n xs) (hB : rb < B) (hb : ∀ b, b ≠ rb → w'.heap[b]? = w.heap[b]?) : w'.ownsRow B e sz v n xs := by
  refine ⟨h.1, h.2.imp id ?_⟩
  rintro ⟨g, cap, cur, h1, h2, h3, h4⟩
  exact ⟨g, cap, cur, h1, h2, (hb g (by omega)).trans h3, h4⟩
/-- a point as a number with signs -/
def canQ (z : Int × Int) : SZ := ((decide (z.1 < 0), z.1.natAbs), (decide (z.2 < 0), z.2.natAbs))
theorem canQ_enc (z : Int × Int) : encZ (canQ z) = encP z := rfl
theorem canQ_map (L : List (Int × Int)) : (L.map canQ).map encZ = L.map encP := by rw [List.map_map]; rfl
/-- what a draw of a list of points leaves, in the reader's world -/
def PathDr (rb : Nat) (sv : Value) (p : Int) (w : World) (e : Ending) (w' : World) : Prop :=
  ∃ (v : Value) (L : List SZ) (p' : Int), e = .returned v ∧ w'.ownsRow w.heap.size 27 1 v L.length (L.map encZ) ∧ L.length ≤ 70 ∧ (∀ q ∈ L, Bq 200 q) ∧ p ≤ p' ∧ p' ≤ p + 400 ∧ Rd rb sv p' w' ∧ Src sv rb w' ∧ Moved rb w w'
/-- moved so far -/
def mvL (L : List (Int × Int)) (d : Int × Int) (k : Nat) : List (Int × Int) := (L.take k).map (addP d) ++ L.drop k
theorem mvL_len (L : List (Int × Int)) (d : Int × Int) {k : Nat} (h : k ≤ L.length) : (mvL L d k).length = L.length := by
  unfold mvL; rw [List.length_append, List.length_map, List.length_take, List.length_drop]; omega
theorem mvL_zero (L : List (Int × Int)) (d : Int × Int) : mvL L d 0 = L := by simp [mvL]
theorem mvL_get (L : List (Int × Int)) (d : Int × Int) {k : Nat} (h : k < L.length) : (mvL L d k)[k]? = some L[k] := by
  unfold mvL
  rw [List.getElem?_append_right (by rw [List.length_map, List.length_take]; omega), List.length_map, List.length_take, List.getElem?_drop, show k + (k - min k L.length) = k by omega, List.getElem?_eq_getElem h]
theorem mvL_set (L : List (Int × Int)) (d : Int × Int) {k : Nat} (h : k < L.length) : (mvL L d k).set k (addP d L[k]) = mvL L d (k + 1) := by
  unfold mvL
  rw [List.set_append_right _ _ (by rw [List.length_map, List.length_take]; omega), List.length_map, List.length_take, List.drop_eq_getElem_cons h, List.take_add_one, List.getElem?_eq_getElem h, show k - min k L.length = 0 by omega, List.set_cons_zero, List.map_append, List.append_assoc]
  rfl
theorem mvL_in {L : List (Int × Int)} {d : Int × Int} {k B : Nat} (h : ∀ z ∈ L, Bp B z) (hd : Bp 10 d) : ∀ z ∈ mvL L d k, Bp (B + 10) z := by
  intro z hz
  rcases List.mem_append.1 hz with hz | hz
  · obtain ⟨y, hy, rfl⟩ := List.mem_map.1 hz
    have h1 := h y (List.mem_of_mem_take hy)
    unfold Bp addP at *
    dsimp only
    omega
  · have h1 := h z (List.mem_of_mem_drop hz)
    unfold Bp at *
    omega
theorem enc20 : encP (2, 0) = .complex .f32 1073741824 0 := by
  unfold encP px py; rw [w0s, show floatOfInt .f32 2 = 1073741824 by decide +kernel]
theorem enc11 : encP (1, 1) = .complex .f32 1065353216 1065353216 := by unfold encP px py; rw [w1s]
theorem enc_nz : encZ ((true, 0), (false, 1)) = .complex .f32 2147483648 1065353216 := by
  unfold encZ xr xi
  rw [show sw .f32 true 0 = 2147483648 from wz_neg, show sw .f32 false 1 = 1065353216 from w1s]
theorem neg_zero32 : Op.negFloat .f32 0 = 2147483648 := by decide +kernel
theorem nz_one : floatBits .mul .f32 2147483648 1065353216 = some 2147483648 := by decide +kernel
theorem can_in {L : List (Int × Int)} {B : Nat} (h : ∀ z ∈ L, Bp B z) (hB : B ≤ 200) : ∀ q ∈ L.map canQ, Bq 200 q := by
  intro q hq
  obtain ⟨z, hz, rfl⟩ := List.mem_map.1 hq
  have := h z hz
  unfold Bp at this
  unfold Bq canQ
  dsimp only
  omega
theorem cells2c (w : World) (u v : Value) (t : TypeId) : ∀ (j : Nat) (u' : Value), [u, v][j]? = some u' → (w.alloc (.cells #[u, v] t)).cell? ((⟨w.heap.size, 0, none⟩ : Addr).add j) = some u' := by
  intro j u' hj
  match j, hj with
  | 0, hj => simp at hj; subst hj; simp [Addr.add]
  | 1, hj => simp at hj; subst hj; simp [Addr.add]
theorem one2c (u v : Value) (h : u.oneCell' = true) (h' : v.oneCell' = true) : ∀ u' ∈ [u, v], u'.oneCell' = true := by
  intro u' hu; simp at hu; rcases hu with rfl | rfl <;> assumption
theorem bp_app {L : List (Int × Int)} {B : Nat} (h : ∀ z ∈ L, Bp B z) {l : List (Int × Int)} (h' : ∀ z ∈ l, Bp B z) : ∀ z ∈ L ++ l, Bp B z := by
  intro z hz
  rcases List.mem_append.1 hz with hz | hz
  · exact h z hz
  · exact h' z hz
/-- what an append leaves of the old row -/
theorem append_keep (w : World) (t ty : TypeId) (B : Nat) (e : TypeId) (i : TypeInfo) (z : Value) (bytes : Nat) (ht : Try.prog.underlying t = some (.slice e)) (hi : Try.prog.info? e = some i) (hz : i.zero = some z)
    (hsize : i.size = 1) (hby : i.bytes = bytes) (hzs : z.cells.size = 1) (g n cap : Nat) (xs : List Value) (hown : w.ownsRow B e 1 (.slice (some ⟨g, 0, none⟩) n cap) n xs) (hn : 0 < n)
    (a : Addr) (m c : Nat) (news : List Value) (hl : news.length = m * 1) (hnews : ∀ j u, news[j]? = some u → w.cell? (a.add j) = some u) (h1 : ∀ u ∈ news, u.oneCell' = true) (hm : 0 < m)
    (h63 : n + m ≤ maxLen) (hbytes : (n + m) * bytes ≤ 140737488355328) (hbase : B ≤ w.heap.size) :
    ∃ v' w', (Builtin.append_ #[t, t] ty #[.slice (some ⟨g, 0, none⟩) n cap, .slice (some a) m c]).run Try.prog w = .ok v' w' ∧ w'.ownsRow B e 1 v' (n + m) (xs ++ news) ∧ w.grownBy w' (some g) ∧ ∀ j, j < n → w'.cell? ⟨g, j, none⟩ = w.cell? ⟨g, j, none⟩ := by
  obtain ⟨v', w', hr, h2, h3, _, _⟩ := run_append_own_at (P := Try.prog) w B t ty e i z 1 bytes ht hi hz hsize hby hzs (by decide) _ n xs hown a m c news hl hnews h1 h63 hbytes hbase
  refine ⟨v', w', hr, h2, h3, fun j hj => ?_⟩
  have hmx : n + m ≤ 9223372036854775807 := by simp only [maxLen] at h63; omega
  have hgl := (hown.lt g rfl).2
  obtain ⟨cap0, cur, he, hg, hcs⟩ : ∃ (cap0 : Nat) (cur : Array Value), cap0 = cap ∧ w.heap[g]? = some (.cells cur e (0, 0)) ∧ cur.size = cap * 1 := by
    rcases hown.2 with ⟨h0, _⟩ | ⟨g', cap', cur, h1', _, hg, _, _, hcs, _⟩
    · cases h0
    · simp only [Value.slice.injEq, Option.some.injEq, Addr.mk.injEq, and_true, true_and] at h1'
      obtain ⟨rfl, rfl⟩ := h1'
      exact ⟨_, cur, rfl, hg, hcs⟩
  subst he
  have hxs : xs[j]? = w.cell? ⟨g, j, none⟩ := (hown.cellAt j (by omega)).symm
  by_cases hroom : n + m ≤ cap0
  · have hr2 := run_append_room (P := Try.prog) w t ty e i ht hi g n cap0 cur hg a m c news (by rw [hsize]; exact hl) hnews h1 hroom (by rw [hsize, hl, hcs, ← Nat.add_mul]; exact Nat.mul_le_mul_right _ hroom)
    rw [hr] at hr2
    injection hr2 with e1 e2
    subst e1
    rw [h2.cellAt j (by omega), List.getElem?_append_left (by rw [hown.1]; omega), hxs]
  · have hr2 := run_append_grow (P := Try.prog) w t ty e i z ht hi hz ⟨g, 0, none⟩ n cap0 xs (by rw [hsize]; exact hown.1) (hown.cells (g := g) rfl) a m c news (by rw [hsize]; exact hl) hnews (by omega) (by omega) (growslice_fits (by omega) (by rw [hby]; exact hbytes))
    rw [hr] at hr2
    injection hr2 with e1 e2
    have hb : Below w.heap.size w w' := by
      rw [e2]
      exact ((Below.refl w.heap.size w).drew).alloc (Nat.le_refl _) _
    rw [(bcell hb).1 _ _ hgl]
theorem wp_append_keep {w : World} {o : Oper} {a : Act} {K : Act → World → Prop} {Q : Exit → Act → World → Prop} (s x : Operand) (t : TypeId)
    (ho : o.op = .call { callee := .builtin .append, args := #[s, x], argTypes := #[t, t] })
    (B : Nat) (e : TypeId) (i : TypeInfo) (z : Value) (bytes : Nat) (ht : Try.prog.underlying t = some (.slice e)) (hi : Try.prog.info? e = some i) (hz : i.zero = some z)
    (hsize : i.size = 1) (hby : i.bytes = bytes) (hzs : z.cells.size = 1) (g n cap : Nat) (xs : List Value) (hs : a.eval s = .slice (some ⟨g, 0, none⟩) n cap) (hown : w.ownsRow B e 1 (.slice (some ⟨g, 0, none⟩) n cap) n xs) (hn : 0 < n)
    (ad : Addr) (m c : Nat) (news : List Value) (hx : a.eval x = .slice (some ad) m c) (hl : news.length = m * 1) (hnews : ∀ j u, news[j]? = some u → w.cell? (ad.add j) = some u) (h1 : ∀ u ∈ news, u.oneCell' = true) (hm : 0 < m)
    (h63 : n + m ≤ maxLen) (hbytes : (n + m) * bytes ≤ 140737488355328) (hbase : B ≤ w.heap.size)
    (h : ∀ v' w', w'.ownsRow B e 1 v' (n + m) (xs ++ news) → w.grownBy w' (some g) → (∀ j, j < n → w'.cell? ⟨g, j, none⟩ = w.cell? ⟨g, j, none⟩) → K (a.put o.dst v') w') : o.wp Try.prog a w K Q := by
  obtain ⟨v', w', hr, h2, h3, h4⟩ := append_keep w t o.type B e i z bytes ht hi hz hsize hby hzs g n cap xs hown hn ad m c news hl hnews h1 hm h63 hbytes hbase
  unfold Oper.wp execOp
  simp only [ho, resolve, invoke, builtin, Sem.run_bind, Sem.run_pure, Result.andThen_ok, List.map_toArray, List.map_cons, List.map_nil, hs, hx, hr]
  exact h v' w' h2 h3 h4
end Go.Proofs.Ytmdnfamjdogogaa

/- Chapter 2, the program's side: the sums of the digits of two texts, place by place. -/
import Derived.Test.YtlcafjdinjdllaaDoorDi
namespace Go.Proofs.YtlcafjdinjdllaaDoor
set_option linter.unusedSimpArgs false
set_option linter.unusedVariables false
open Go.RowKit

def rowL (n : Nat) (F : Nat → Int) : List Value := (List.range n).map fun k => .int .i64 (F k)
theorem rowL_len (n : Nat) (F : Nat → Int) : (rowL n F).length = n := by simp [rowL]
theorem rowL_get {n : Nat} (F : Nat → Int) {k : Nat} (hk : k < n) : (rowL n F)[k]? = some (.int .i64 (F k)) := by simp [rowL, hk]
theorem rowL_congr {n : Nat} {F G : Nat → Int} (h : ∀ k, k < n → F k = G k) : rowL n F = rowL n G := by
  unfold rowL
  exact List.map_congr_left fun k hk => by rw [h k (List.mem_range.1 hk)]
theorem rowL_set {n : Nat} {F G : Nat → Int} {j : Nat} (hG : ∀ k, k < n → k ≠ j → G k = F k) {x : Int} (hx : j < n → G j = x) : (rowL n F).set j (.int .i64 x) = rowL n G := by
  apply List.ext_getElem?
  intro k
  rw [List.getElem?_set]
  by_cases hk : k < n
  · rw [rowL_get G hk, rowL_get F hk]
    by_cases h : j = k
    · subst h; simp [rowL_len, hk, hx hk]
    · simp [h, hG k hk (Ne.symm h)]
  · simp [rowL, hk]; omega
theorem infoI : (Tryd.prog.info? 3).map (fun i => (i.zero, i.size, i.bytes)) = some (some (.int .i64 0), 1, 8) := by kernel_rfl
def DSPost (a b : ByteArray) (w : World) (e : Ending) (w' : World) : Prop :=
  ∃ g, e = .returned (.slice (some ⟨g, 0, none⟩) (wide a b) (wide a b)) ∧ w'.ownsRow w.heap.size 3 1 (.slice (some ⟨g, 0, none⟩) (wide a b) (wide a b)) (wide a b) (rowL (wide a b) fun k => (sm a b k : Nat)) ∧ Below w.heap.size w w'
/-- what the texts ahead have added -/
def ahead2 (a b : ByteArray) (j : Nat) (k : Nat) : Int := if j = 0 then 0 else if j = 1 then (dR a k : Nat) else (sm a b k : Nat)
def DSO (a b : ByteArray) (w : World) (g sb : Nat) (m : Nat) (i : Value) (wr : World) : Prop :=
  ∃ j : Nat, (j = 0 ∧ m = 2 ∧ i = .int .i64 0 ∨ j = 1 ∧ m = 1 ∧ i = .int .i64 1 ∨ j = 2 ∧ m = 0 ∧ i = .int .i64 2) ∧ wr.ownsRow w.heap.size 3 1 (.slice (some ⟨g, 0, none⟩) (wide a b) (wide a b)) (wide a b) (rowL (wide a b) (ahead2 a b j)) ∧ Below w.heap.size w wr ∧ wr.cell? ⟨sb, 0, none⟩ = some (.string a) ∧ wr.cell? ⟨sb, 1, none⟩ = some (.string b)
def DSI (a b s : ByteArray) (w : World) (g sb ib j : Nat) (m : Nat) (wr : World) : Prop :=
  ∃ p : Nat, p + m = s.size ∧ wr.heap[ib]? = some (.stringIter s p) ∧ wr.ownsRow w.heap.size 3 1 (.slice (some ⟨g, 0, none⟩) (wide a b) (wide a b)) (wide a b) (rowL (wide a b) fun k => ahead2 a b j k + if s.size - p ≤ k then ((dR s k : Nat) : Int) else 0) ∧ Below w.heap.size w wr ∧ wr.cell? ⟨sb, 0, none⟩ = some (.string a) ∧ wr.cell? ⟨sb, 1, none⟩ = some (.string b)

theorem ahead2_in {a b : ByteArray} (ha : vldB a = true) (hb : vldB b = true) (j k : Nat) (hj : j < 2) : 0 ≤ ahead2 a b j k ∧ ahead2 a b j k ≤ 1 := by
  have := dR_le ha k
  unfold ahead2
  split
  · omega
  · rw [if_pos (by omega)]; omega
/-- the next text is through -/
theorem ahead2_next {a b s : ByteArray} {j : Nat} (h : j = 0 ∧ s = a ∨ j = 1 ∧ s = b) (k : Nat) : ahead2 a b j k + (if s.size - s.size ≤ k then ((dR s k : Nat) : Int) else 0) = ahead2 a b (j + 1) k := by
  rw [if_pos (by omega)]
  rcases h with ⟨rfl, rfl⟩ | ⟨rfl, rfl⟩
  · simp [ahead2]
  · simp [ahead2, sm]
theorem DSI.start {a b s : ByteArray} {w wr : World} {g sb j : Nat} (hown : wr.ownsRow w.heap.size 3 1 (.slice (some ⟨g, 0, none⟩) (wide a b) (wide a b)) (wide a b) (rowL (wide a b) (ahead2 a b j))) (hB : Below w.heap.size w wr) (s0 : wr.cell? ⟨sb, 0, none⟩ = some (.string a)) (s1 : wr.cell? ⟨sb, 1, none⟩ = some (.string b)) :
    DSI a b s w g sb wr.heap.size j s.size (wr.iter s 0) := by
  refine ⟨0, by omega, World.iter_heap wr s 0, ?_, hB.trans ((iter_below wr s 0).mono hB.size), iter_cell wr s 0 s0, iter_cell wr s 0 s1⟩
  rw [rowL_congr (G := ahead2 a b j) (fun k _ => by
    split
    · rw [dR_beyond (by omega)]; simp
    · simp)]
  exact own_below hown (iter_below wr s 0)
theorem DSI.step {a b s : ByteArray} {w W : World} {g sb ib j p gk : Nat} {V : Int} (hp : p < s.size) (hk : p + gk = s.size) (hit : W.heap[ib]? = some (.stringIter s (p + 1)))
    (hown : W.ownsRow w.heap.size 3 1 (.slice (some ⟨g, 0, none⟩) (wide a b) (wide a b)) (wide a b) (rowL (wide a b) fun k => ahead2 a b j k + if s.size - p ≤ k then ((dR s k : Nat) : Int) else 0))
    (hB : Below w.heap.size w W) (hg : w.heap.size ≤ g) (s0 : W.cell? ⟨sb, 0, none⟩ = some (.string a)) (s1 : W.cell? ⟨sb, 1, none⟩ = some (.string b)) (hgi : ib ≠ g) (hgs : sb ≠ g) (hV : V = ahead2 a b j (s.size - 1 - p) + (dR s (s.size - 1 - p) : Nat)) :
    DSI a b s w g sb ib j (gk - 1) (W.setCell ⟨g, s.size - 1 - p, none⟩ (.int .i64 V)) := by
  refine ⟨p + 1, by omega, iter_set hit hgi _, ?_, hB.setCell hg _, ?_, ?_⟩
  · have h := (hown.stored (s.size - 1 - p) (.int .i64 V)).1
    rw [rowL_set (G := fun k => ahead2 a b j k + if s.size - (p + 1) ≤ k then ((dR s k : Nat) : Int) else 0) (fun k _ hne => by
      by_cases h1 : s.size - p ≤ k
      · rw [if_pos h1, if_pos (by omega)]
      · rw [if_neg h1, if_neg (by omega)]) (fun _ => by rw [if_pos (by omega), hV])] at h
    exact h
  · exact (World.cell?_of_block (w := W) (a := ⟨sb, 0, none⟩) (Below.heap_setCell _ _ _ _ hgs)).trans s0
  · exact (World.cell?_of_block (w := W) (a := ⟨sb, 1, none⟩) (Below.heap_setCell _ _ _ _ hgs)).trans s1

set_option maxRecDepth 100000 in
set_option maxHeartbeats 8000000 in
theorem digitSums_c (a b : ByteArray) (w : World) (ha : vldB a = true) (hb : vldB b = true) : Calls Tryd.prog 63 #[.string a, .string b] w (DSPost a b w) := by
  obtain ⟨i0, hi, hz0, hz1, hz2⟩ := info_parts infoI
  have HA := Lib.hid ha
  have HB := Lib.hid hb
  obtain ⟨ha1, ha50⟩ := vldB_len ha
  obtain ⟨hb1, hb50⟩ := vldB_len hb
  clear ha hb
  have hw50 : wide a b ≤ 50 := by unfold wide; omega
  have hwa : a.size ≤ wide a b := by unfold wide; omega
  have hwb : b.size ≤ wide a b := by unfold wide; omega
  have hcase : (a.size < b.size ∧ wide a b = b.size) ∨ (¬ a.size < b.size ∧ wide a b = a.size) := by unfold wide; omega
  have HW := Lib.hid (show ∀ W1 : World, W1.ownsRow w.heap.size 3 1 (.slice (some ⟨w.heap.size, 0, none⟩) (wide a b) (wide a b)) (wide a b) (madeCells #[.int .i64 0] (wide a b)).toList → W1.ownsRow w.heap.size 3 1 (.slice (some ⟨w.heap.size, 0, none⟩) (wide a b) (wide a b)) (wide a b) (rowL (wide a b) (ahead2 a b 0)) from fun W1 h => by
    have e : (madeCells #[.int .i64 0] (wide a b)).toList = rowL (wide a b) (ahead2 a b 0) := by
      rw [toList_madeCells_one]
      unfold rowL ahead2
      simp [List.map_const']
    rw [← e]; exact h)
  rcases hcase with ⟨hab, hwn⟩ | ⟨hab, hwn⟩
  all_goals
    have HWN := Lib.hid hwn
    clear hwn
    go_enter Tryd.func63, Tryd.ntmps63
    go_wp2_with (at_make; refine wpList_make_full _ rfl _ _ 74 rfl w.heap.size 3 i0 (.int .i64 0) 1 Tryd.underlying74 hi hz0 hz1 .i64 .i64 _ _ (wide a b) rfl rfl (by have := HWN.out; omega) (by have := HWN.out; omega) (by rw [hz2]; omega) (by unfold maxLen; omega) (Nat.le_refl _) ?_)
    intro W1 hown hgrow
    have HO := Lib.hid (HW.out W1 hown)
    have hB1 : Below w.heap.size w W1 := Below.grown (Below.refl _ _) hgrow (Nat.le_refl _) (fun k hk => by cases hk)
    have L1 : w.heap.size < W1.heap.size := (HO.out.lt _ rfl).2
    clear hown hgrow HW hab
    go_wp2_with fail
    have S0 := Lib.hid (show DSO a b w w.heap.size W1.heap.size 2 (.int .i64 0) (W1.alloc (.cells #[.string a, .string b] 9)) from ⟨0, Or.inl ⟨rfl, rfl, rfl⟩, HO.out.alloc _, by (repeat' (first | assumption | exact Below.refl _ _ | apply Blw.alloc | apply Blw.drew | apply Blw.drewN | (refine Blw.after ?_ (by assumption)) | (refine Blw.set ?_ (by first | (dsimp only; omega) | (simp; done) | (simp; omega)) _))), by go_simp, by go_simp⟩)
    go_loopg [20] 2 (fun m i wr => DSO a b w w.heap.size W1.heap.size m i wr)
    case atStart => exact S0.out
    case round =>
      clear S0 HO hB1
      obtain ⟨j, hj, hown, hB, s0, s1⟩ := hrel
      have HO := Lib.hid hown
      clear hown
      have L2 : W1.heap.size < wr.heap.size := World.block_lt_of_cell? wr _ s0
      rcases hj with ⟨rfl, rfl, rfl⟩ | ⟨rfl, rfl, rfl⟩ | ⟨rfl, rfl, rfl⟩
      · obtain ⟨wo, rfl⟩ : ∃ wo : World, wo = wr := ⟨_, rfl⟩
        have T0 := Lib.hid (DSI.start (s := a) HO.out hB s0 s1)
        go_wp2_with fail
        go_loopg [] a.size (fun m wr => DSI a b a w w.heap.size W1.heap.size wo.heap.size 0 m wr)
        case atStart => exact T0.out
        case round =>
          clear T0 HO hB s0 s1
          obtain ⟨p, hp, hit, hown, hB, s0, s1⟩ := hrel
          have LI := iter_lt hit
          by_cases hlt : p < a.size
          · have hnx : ∀ ty, (Instr.next (.pointer (some ⟨wo.heap.size, 0, none⟩)) true ty).run Tryd.prog wr = _ := fun ty => Lib.run_next_any_at wr wo.heap.size a p ty hit hlt
            rw [decode_vld HA.out p hlt] at hnx
            have hit2 := Lib.iterAt_heap wr wo.heap.size a p (p + 1) hit
            have o2 := own_iterAt hown (k := wo.heap.size) (by omega) a (p + 1)
            have B2 := Lib.below_iterAt hB (k := wo.heap.size) (by omega) a (p + 1)
            have q0 := (iterAt_cell wr wo.heap.size a (p + 1) (b := W1.heap.size) (o := 0) (by omega)).trans s0
            have q1 := (iterAt_cell wr wo.heap.size a (p + 1) (b := W1.heap.size) (o := 1) (by omega)).trans s1
            generalize wr.iterAt wo.heap.size a (p + 1) = W2 at *
            have hidx : a.size - 1 - p < wide a b := by omega
            have cV : W2.cell? ⟨w.heap.size, a.size - 1 - p, none⟩ = some (.int .i64 (ahead2 a b 0 (a.size - 1 - p))) := by
              rw [o2.cellAt _ (by omega), rowL_get _ hidx, if_neg (by omega), Int.add_zero]
            have fV : W2.frozen? ⟨w.heap.size, a.size - 1 - p, none⟩ = false := o2.frozenAt _
            have e1 : ((a.size : Int) - 1 - (p : Int)).toNat = a.size - 1 - p := by omega
            obtain ⟨b1, b2⟩ := byte_at HA.out p hlt
            obtain ⟨v1, v2⟩ := ahead2_in HA.out HB.out 0 (a.size - 1 - p) (by omega)
            have hd : ((dR a (a.size - 1 - p) : Nat) : Int) = (a[p].toNat : Int) - 48 := by
              have hx : a.size - 1 - (a.size - 1 - p) = p := by omega
              unfold dR
              rw [dif_pos (by omega)]
              simp only [hx]
              omega
            have ST := Lib.hid (DSI.step (V := ahead2 a b 0 (a.size - 1 - p) + ((a[p].toNat : Int) - 48)) hlt hp hit2 o2 B2 (Nat.le_refl _) q0 q1 (by omega) (by omega) (by rw [hd]))
            generalize ahead2 a b 0 (a.size - 1 - p) = V at *
            clear hd hit2 o2 B2 q0 q1 hit hown hB s0 s1
            go_wp2
            go_roundg (gk - 1)
            case measure => omega
            case rel => exact ST.out
          · have hnx : ∀ ty, (Instr.next (.pointer (some ⟨wo.heap.size, 0, none⟩)) true ty).run Tryd.prog wr = _ := fun ty => Lib.run_next_end_at wr wo.heap.size a p ty hit hlt
            obtain rfl : p = a.size := by omega
            have HO := Lib.hid hown
            clear hown hit hp
            go_wp2
            go_roundg 1
            case measure => omega
            case rel =>
              refine ⟨1, Or.inr (Or.inl ⟨rfl, rfl, rfl⟩), ?_, hB, s0, s1⟩
              rw [rowL_congr (fun k _ => (ahead2_next (a := a) (b := b) (s := a) (j := 0) (Or.inl ⟨rfl, rfl⟩) k).symm)]
              exact HO.out
      · obtain ⟨wo, rfl⟩ : ∃ wo : World, wo = wr := ⟨_, rfl⟩
        have T0 := Lib.hid (DSI.start (s := b) HO.out hB s0 s1)
        go_wp2_with fail
        go_loopg [] b.size (fun m wr => DSI a b b w w.heap.size W1.heap.size wo.heap.size 1 m wr)
        case atStart => exact T0.out
        case round =>
          clear T0 HO hB s0 s1
          obtain ⟨p, hp, hit, hown, hB, s0, s1⟩ := hrel
          have LI := iter_lt hit
          by_cases hlt : p < b.size
          · have hnx : ∀ ty, (Instr.next (.pointer (some ⟨wo.heap.size, 0, none⟩)) true ty).run Tryd.prog wr = _ := fun ty => Lib.run_next_any_at wr wo.heap.size b p ty hit hlt
            rw [decode_vld HB.out p hlt] at hnx
            have hit2 := Lib.iterAt_heap wr wo.heap.size b p (p + 1) hit
            have o2 := own_iterAt hown (k := wo.heap.size) (by omega) b (p + 1)
            have B2 := Lib.below_iterAt hB (k := wo.heap.size) (by omega) b (p + 1)
            have q0 := (iterAt_cell wr wo.heap.size b (p + 1) (b := W1.heap.size) (o := 0) (by omega)).trans s0
            have q1 := (iterAt_cell wr wo.heap.size b (p + 1) (b := W1.heap.size) (o := 1) (by omega)).trans s1
            generalize wr.iterAt wo.heap.size b (p + 1) = W2 at *
            have hidx : b.size - 1 - p < wide a b := by omega
            have cV : W2.cell? ⟨w.heap.size, b.size - 1 - p, none⟩ = some (.int .i64 (ahead2 a b 1 (b.size - 1 - p))) := by
              rw [o2.cellAt _ (by omega), rowL_get _ hidx, if_neg (by omega), Int.add_zero]
            have fV : W2.frozen? ⟨w.heap.size, b.size - 1 - p, none⟩ = false := o2.frozenAt _
            have e1 : ((b.size : Int) - 1 - (p : Int)).toNat = b.size - 1 - p := by omega
            obtain ⟨b1, b2⟩ := byte_at HB.out p hlt
            obtain ⟨v1, v2⟩ := ahead2_in HA.out HB.out 1 (b.size - 1 - p) (by omega)
            have hd : ((dR b (b.size - 1 - p) : Nat) : Int) = (b[p].toNat : Int) - 48 := by
              have hx : b.size - 1 - (b.size - 1 - p) = p := by omega
              unfold dR
              rw [dif_pos (by omega)]
              simp only [hx]
              omega
            have ST := Lib.hid (DSI.step (V := ahead2 a b 1 (b.size - 1 - p) + ((b[p].toNat : Int) - 48)) hlt hp hit2 o2 B2 (Nat.le_refl _) q0 q1 (by omega) (by omega) (by rw [hd]))
            generalize ahead2 a b 1 (b.size - 1 - p) = V at *
            clear hd hit2 o2 B2 q0 q1 hit hown hB s0 s1
            go_wp2
            go_roundg (gk - 1)
            case measure => omega
            case rel => exact ST.out
          · have hnx : ∀ ty, (Instr.next (.pointer (some ⟨wo.heap.size, 0, none⟩)) true ty).run Tryd.prog wr = _ := fun ty => Lib.run_next_end_at wr wo.heap.size b p ty hit hlt
            obtain rfl : p = b.size := by omega
            have HO := Lib.hid hown
            clear hown hit hp
            go_wp2
            go_roundg 0
            case measure => omega
            case rel =>
              refine ⟨2, Or.inr (Or.inr ⟨rfl, rfl, rfl⟩), ?_, hB, s0, s1⟩
              rw [rowL_congr (fun k _ => (ahead2_next (a := a) (b := b) (s := b) (j := 1) (Or.inr ⟨rfl, rfl⟩) k).symm)]
              exact HO.out
      · go_wp2
        go_ret
        exact ⟨w.heap.size, rfl, HO.out, hB⟩
end Go.Proofs.YtlcafjdinjdllaaDoor

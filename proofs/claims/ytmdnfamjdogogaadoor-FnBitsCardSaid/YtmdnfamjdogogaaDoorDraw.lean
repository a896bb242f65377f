/- The reader of a code: what a pick is, without telling which. No law is stated here. -/
import Derived.Test.YtmdnfamjdogogaaDoorRows
import Derived.Test.YtmdnfamjdogogaaDoorReg
import Derived.WalkKit
import Derived.ProofKit
import Derived.WalkSpells
import Derived.WalkLawsBesides
import Derived.Lib.Hide
import Derived.Laws.ResultCell
import Derived.Deep.QuietTactic
import Derived.BigQuiet
import Derived.Outline
namespace Go.Proofs.YtmdnfamjdogogaaDoor
set_option linter.unusedSimpArgs false
set_option linter.unusedVariables false
open Go.RowKit

/-- the bytes of a slice lie in w -/
def Bytes (sv : Value) (len : Nat) (w : World) : Prop :=
  ∃ a cap, sv = .slice a len cap ∧ (len = 0 ∨ ∃ b off, a = some ⟨b, off, none⟩ ∧ ∀ i, i < len → ∃ z : Int, w.cell? ⟨b, off + i, none⟩ = some (.int .u8 z) ∧ 0 ≤ z ∧ z ≤ 255)

/-- the reader in block rb stands at p -/
def Rd (rb : Nat) (sv : Value) (p : Int) (w : World) : Prop :=
  w.cell? ⟨rb, 0, none⟩ = some sv ∧ w.cell? ⟨rb, 1, none⟩ = some (.int .i64 p) ∧ w.frozen? ⟨rb, 0, none⟩ = false ∧ w.frozen? ⟨rb, 1, none⟩ = false

theorem xor_i64_nat (a b : Nat) (ha : a < 9223372036854775808) (hb : b < 9223372036854775808) : bits .xor .i64 (a : Int) (b : Int) = ((a ^^^ b : Nat) : Int) := by
  have hx : a ^^^ b < 2 ^ 63 := Nat.xor_lt_two_pow (by omega) (by omega)
  have h1 : (BitVec.ofInt 64 (a : Int)).toNat = a := by
    rw [BitVec.ofInt_natCast, BitVec.toNat_ofNat]; exact Nat.mod_eq_of_lt (by omega)
  have h2 : (BitVec.ofInt 64 (b : Int)).toNat = b := by
    rw [BitVec.ofInt_natCast, BitVec.toNat_ofNat]; exact Nat.mod_eq_of_lt (by omega)
  show IntKind.i64.wrap ((BitVec.ofInt 64 (a : Int) ^^^ BitVec.ofInt 64 (b : Int)).toNat : Int) = _
  rw [BitVec.toNat_xor, h1, h2, IntKind.wrap_i64]
  omega
theorem xor_i64_pos {a b : Int} (ha : 0 ≤ a ∧ a ≤ 1000000000000) (hb : 0 ≤ b ∧ b ≤ 1000000000000) : 0 ≤ bits .xor .i64 a b := by
  obtain ⟨x, rfl⟩ := Int.eq_ofNat_of_zero_le ha.1
  obtain ⟨y, rfl⟩ := Int.eq_ofNat_of_zero_le hb.1
  rw [xor_i64_nat x y (by omega) (by omega)]
  omega
theorem tmod_pick {x n : Int} (hx : 0 ≤ x) (hn : 1 ≤ n) : 0 ≤ x.tmod n ∧ x.tmod n < n := by
  rw [Int.tmod_eq_emod_of_nonneg hx]
  exact ⟨Int.emod_nonneg _ (by omega), Int.emod_lt_of_pos _ (by omega)⟩

/-- what a pick does: a number below n; block rb alone has changed, and there the place -/
def Picked (n : Int) (rb : Nat) (p : Int) (w : World) (e : Ending) (w' : World) : Prop :=
  ∃ (k : Int) (m : Nat), 0 ≤ k ∧ (k < n ∨ k = 0) ∧ e = .returned (.int .i64 k) ∧ w' = (w.setCell ⟨rb, 1, none⟩ (.int .i64 (p + 1))).drewN m

set_option maxHeartbeats 2000000 in
theorem pick_none (rb : Nat) (a : Option Addr) (cap : Nat) (p n : Int) (w : World) (h : Rd rb (.slice a 0 cap) p w) (hp : 0 ≤ p ∧ p ≤ 1000000) (hn : 1 ≤ n) :
    Calls Tryd.prog 35 #[.pointer (some ⟨rb, 0, none⟩), .int .i64 n] w (Picked n rb p w) := by
  obtain ⟨c0, c1, f0, f1⟩ := h
  obtain ⟨p1, p2⟩ := hp
  go_enter Tryd.func35, Tryd.ntmps35
  go_wp2
  go_ret
  exact ⟨0, 0, by omega, Or.inr rfl, rfl, rfl⟩

set_option maxHeartbeats 2000000 in
theorem pick_in (rb b off len cap : Nat) (p n z : Int) (w : World) (h : Rd rb (.slice (some ⟨b, off, none⟩) len cap) p w) (hp : 0 ≤ p ∧ p < len) (hl : len ≤ 2000) (hn : 1 ≤ n) (hn2 : n ≤ 1000000) (hb : b ≠ rb)
    (hz : w.cell? ⟨b, off + p.toNat, none⟩ = some (.int .u8 z)) (hz1 : 0 ≤ z) (hz2 : z ≤ 255) :
    Calls Tryd.prog 35 #[.pointer (some ⟨rb, 0, none⟩), .int .i64 n] w (Picked n rb p w) := by
  obtain ⟨c0, c1, f0, f1⟩ := h
  obtain ⟨p1, p2⟩ := hp
  have hlen : ((len : Int) == 0) = false := by simp; omega
  go_enter Tryd.func35, Tryd.ntmps35
  go_wp2
  go_ret
  have e1 := Int.emod_nonneg z (show n ≠ 0 by omega)
  have e2 := Int.emod_lt_of_pos z (show 0 < n by omega)
  exact ⟨z % n, 0, e1, Or.inl e2, rfl, rfl⟩

set_option maxHeartbeats 4000000 in
theorem pick_out (rb b off len cap : Nat) (p n z1 z2 : Int) (w : World) (h : Rd rb (.slice (some ⟨b, off, none⟩) len cap) p w) (hp : (len : Int) ≤ p ∧ p ≤ 1000000) (hl : len ≤ 2000) (hl0 : 1 ≤ len) (hn : 1 ≤ n) (hn2 : n ≤ 1000000) (hb : b ≠ rb)
    (hz : w.cell? ⟨b, off + (p % (len : Int)).toNat, none⟩ = some (.int .u8 z1)) (hz1 : 0 ≤ z1 ∧ z1 ≤ 255)
    (hy : w.cell? ⟨b, off + ((p * 7 + 3) % (len : Int)).toNat, none⟩ = some (.int .u8 z2)) (hy1 : 0 ≤ z2 ∧ z2 ≤ 255) :
    Calls Tryd.prog 35 #[.pointer (some ⟨rb, 0, none⟩), .int .i64 n] w (Picked n rb p w) := by
  obtain ⟨c0, c1, f0, f1⟩ := h
  obtain ⟨p1, p2⟩ := hp
  obtain ⟨y1, y2⟩ := hz1
  obtain ⟨y3, y4⟩ := hy1
  have hlen : ((len : Int) == 0) = false := by simp; omega
  have a1 := Int.emod_nonneg p (show (len : Int) ≠ 0 by omega)
  have a2 := Int.emod_lt_of_pos p (show 0 < (len : Int) by omega)
  have a3 := Int.emod_nonneg (p * 7 + 3) (show (len : Int) ≠ 0 by omega)
  have a4 := Int.emod_lt_of_pos (p * 7 + 3) (show 0 < (len : Int) by omega)
  have a5 : 0 ≤ p / (len : Int) := Int.ediv_nonneg (by omega) (by omega)
  have a6 : p / (len : Int) ≤ p := Int.ediv_le_self _ (by omega)
  go_enter Tryd.func35, Tryd.ntmps35
  go_wp2
  go_quiet (fail)
  go_wp2
  go_ret
  have t := tmod_pick (x := bits .xor .i64 (z1 * 131 + z2 * 1117 + p * 29 + p / (len : Int) * 53) ((z1 * 131 + z2 * 1117 + p * 29 + p / (len : Int) * 53) / 64)) (n := n) (xor_i64_pos ⟨by omega, by omega⟩ ⟨by omega, by omega⟩) hn
  exact ⟨_, _, t.1, Or.inl t.2, rfl, rfl⟩

/-- the bytes that the reader reads, in the world in which they lay; block rb is another -/
def Src (sv : Value) (rb : Nat) (w : World) : Prop :=
  ∃ (a : Option Addr) (len cap : Nat), sv = .slice a len cap ∧ len ≤ 2000 ∧ (len = 0 ∨ ∃ b off, a = some ⟨b, off, none⟩ ∧ b ≠ rb ∧ ∀ i, i < len → ∃ z : Int, w.cell? ⟨b, off + i, none⟩ = some (.int .u8 z) ∧ 0 ≤ z ∧ z ≤ 255)

theorem pick_c (rb : Nat) (sv : Value) (p n : Int) (w : World) (hs : Src sv rb w) (h : Rd rb sv p w) (hp : 0 ≤ p ∧ p ≤ 1000000) (hn : 1 ≤ n ∧ n ≤ 1000000) :
    Calls Tryd.prog 35 #[.pointer (some ⟨rb, 0, none⟩), .int .i64 n] w (Picked n rb p w) := by
  obtain ⟨a, len, cap, rfl, hl, hs⟩ := hs
  by_cases h0 : len = 0
  · subst h0
    exact pick_none rb a cap p n w h hp hn.1
  · have hpos : 0 < (len : Int) := Int.natCast_pos.2 (Nat.pos_of_ne_zero h0)
    have a0 : (len : Int) ≠ 0 := Int.ne_of_gt hpos
    have a1 := Int.emod_nonneg p a0
    have a2 := Int.emod_lt_of_pos p hpos
    have a3 := Int.emod_nonneg (p * 7 + 3) a0
    have a4 := Int.emod_lt_of_pos (p * 7 + 3) hpos
    have i1 : (p % (len : Int)).toNat < len := by clear hs; omega
    have i2 : ((p * 7 + 3) % (len : Int)).toNat < len := by clear hs; omega
    have i3 : 1 ≤ len := Nat.pos_of_ne_zero h0
    have i4 : p < len → p.toNat < len := by clear hs; intro h; omega
    obtain ⟨b, off, rfl, hb, hz⟩ := hs.resolve_left h0
    by_cases hlt : p < len
    · obtain ⟨z, z1, z2, z3⟩ := hz p.toNat (i4 hlt)
      exact pick_in rb b off len cap p n z w h ⟨hp.1, hlt⟩ hl hn.1 hn.2 hb z1 z2 z3
    · obtain ⟨z, z1, z2, z3⟩ := hz (p % (len : Int)).toNat i1
      obtain ⟨y, y1, y2, y3⟩ := hz ((p * 7 + 3) % (len : Int)).toNat i2
      exact pick_out rb b off len cap p n z y w h ⟨Int.not_lt.1 hlt, hp.2⟩ hl i3 hn.1 hn.2 hb z1 ⟨z2, z3⟩ y1 ⟨y2, y3⟩

/-- block rb alone may have changed, and new blocks may be there -/
def Moved (rb : Nat) (w w' : World) : Prop :=
  w.heap.size ≤ w'.heap.size ∧ (∀ b o, b < w.heap.size → b ≠ rb → w'.cell? ⟨b, o, none⟩ = w.cell? ⟨b, o, none⟩) ∧ (∀ b o, b < w.heap.size → b ≠ rb → w'.frozen? ⟨b, o, none⟩ = w.frozen? ⟨b, o, none⟩) ∧
    ∀ W0 : World, Below W0.heap.size W0 w → W0.heap.size ≤ rb → Below W0.heap.size W0 w'
theorem Moved.refl (rb : Nat) (w : World) : Moved rb w w := ⟨Nat.le_refl _, fun _ _ _ _ => rfl, fun _ _ _ _ => rfl, fun _ h _ => h⟩
theorem Moved.trans {rb : Nat} {w w1 w2 : World} (h : Moved rb w w1) (k : Moved rb w1 w2) : Moved rb w w2 :=
  ⟨Nat.le_trans h.1 k.1, fun b o hb hn => (k.2.1 b o (Nat.lt_of_lt_of_le hb h.1) hn).trans (h.2.1 b o hb hn), fun b o hb hn => (k.2.2.1 b o (Nat.lt_of_lt_of_le hb h.1) hn).trans (h.2.2.1 b o hb hn), fun W0 h0 hr => k.2.2.2 W0 (h.2.2.2 W0 h0 hr) hr⟩
theorem Moved.below {rb : Nat} {w w1 w2 : World} (h : Moved rb w w1) (k : Below w1.heap.size w1 w2) : Moved rb w w2 :=
  ⟨Nat.le_trans h.1 k.size, fun b o hb hn => (k.cell (p := ⟨b, o, none⟩) (Nat.lt_of_lt_of_le hb h.1)).trans (h.2.1 b o hb hn), fun b o hb hn => (k.frozen (p := ⟨b, o, none⟩) (Nat.lt_of_lt_of_le hb h.1)).trans (h.2.2.1 b o hb hn),
    fun W0 h0 hr => Blw.after (h.2.2.2 W0 h0 hr) k⟩
theorem Moved.set {rb : Nat} {w w1 : World} (h : Moved rb w w1) {a : Addr} (ha : w.heap.size ≤ a.block) (hr : rb < w.heap.size) (u : Value) : Moved rb w (w1.setCell a u) :=
  ⟨by simpa [World.setCell] using h.1, fun b o hb hn => (World.cell?_of_block (w := w1) (a := ⟨b, o, none⟩) (Below.heap_setCell _ _ _ _ (by show b ≠ a.block; omega))).trans (h.2.1 b o hb hn),
    fun b o hb hn => (World.frozen?_of_block (w := w1) (a := ⟨b, o, none⟩) (Below.heap_setCell _ _ _ _ (by show b ≠ a.block; omega))).trans (h.2.2.1 b o hb hn), fun W0 h0 hr0 => Blw.set (h.2.2.2 W0 h0 hr0) (by omega) u⟩
theorem Moved.alloc {rb : Nat} {w w1 : World} (h : Moved rb w w1) (o : Obj) : Moved rb w (w1.alloc o) := h.below ((Below.refl _ _).alloc (Nat.le_refl _) _)
theorem Moved.drewN {rb : Nat} {w w1 : World} (m : Nat) (h : Moved rb w w1) : Moved rb w (w1.drewN m) := h.below (Blw.drewN m (Below.refl _ _))
theorem Moved.drew {rb : Nat} {w w1 : World} (h : Moved rb w w1) : Moved rb w w1.drew := h.below (Below.refl _ _).drew

theorem Rd.keep {rb : Nat} {sv : Value} {p : Int} {w w' : World} (h : Rd rb sv p w) (hb : Below w.heap.size w w') : Rd rb sv p w' := by
  obtain ⟨c0, c1, f0, f1⟩ := h
  have hl := World.block_lt_of_cell? w _ c0
  exact ⟨keepcell hb c0, keepcell hb c1, ((bcell hb).2 _ _ hl).trans f0, ((bcell hb).2 _ _ hl).trans f1⟩
theorem Src.keep {rb : Nat} {sv : Value} {w w' : World} (h : Src sv rb w) (hb : Below w.heap.size w w') : Src sv rb w' := by
  obtain ⟨a, len, cap, rfl, hl, hs⟩ := h
  refine ⟨a, len, cap, rfl, hl, hs.imp id ?_⟩
  rintro ⟨b, off, rfl, hn, hz⟩
  refine ⟨b, off, rfl, hn, fun i hi => ?_⟩
  obtain ⟨z, z1, z2⟩ := hz i hi
  exact ⟨z, keepcell hb z1, z2⟩

/-- what a pick leaves: the reader one place on, and block rb alone changed -/
def Drawn (X : Value → Prop) (q : Int) (rb : Nat) (sv : Value) (p : Int) (w : World) (e : Ending) (w' : World) : Prop :=
  ∃ (v : Value) (p' : Int), X v ∧ e = .returned v ∧ p ≤ p' ∧ p' ≤ p + q ∧ Rd rb sv p' w' ∧ Src sv rb w' ∧ Moved rb w w'
def IntTo (n : Int) (v : Value) : Prop := ∃ k : Int, v = .int .i64 k ∧ 0 ≤ k ∧ (k < n ∨ k = 0)

theorem pick_d (rb : Nat) (sv : Value) (p n : Int) (w : World) (hs : Src sv rb w) (h : Rd rb sv p w) (hp : 0 ≤ p ∧ p ≤ 1000000) (hn : 1 ≤ n ∧ n ≤ 1000000) :
    Calls Tryd.prog 35 #[.pointer (some ⟨rb, 0, none⟩), .int .i64 n] w (Drawn (IntTo n) 1 rb sv p w) := by
  refine (pick_c rb sv p n w hs h hp hn).mono fun e w' hP => ?_
  obtain ⟨k, m, h1, h2, rfl, rfl⟩ := hP
  have hc : ∀ b o, b ≠ rb → ((w.setCell ⟨rb, 1, none⟩ (.int .i64 (p + 1))).drewN m).cell? ⟨b, o, none⟩ = w.cell? ⟨b, o, none⟩ := fun b o hb => World.cell?_of_block (w := w) (a := ⟨b, o, none⟩) (Below.heap_setCell _ _ _ _ hb)
  have hf : ∀ b o, b ≠ rb → ((w.setCell ⟨rb, 1, none⟩ (.int .i64 (p + 1))).drewN m).frozen? ⟨b, o, none⟩ = w.frozen? ⟨b, o, none⟩ := fun b o hb => World.frozen?_of_block (w := w) (a := ⟨b, o, none⟩) (Below.heap_setCell _ _ _ _ hb)
  obtain ⟨c0, c1, f0, f1⟩ := h
  refine ⟨_, p + 1, ⟨k, rfl, h1, h2⟩, rfl, by omega, by omega, ⟨by go_simp, by go_simp, by go_simp, by go_simp⟩, ?_, by simp [World.drewN, World.setCell], fun b o _ hb => hc b o hb, fun b o _ hb => hf b o hb, fun W0 hb h0 => Blw.drewN _ (Blw.set hb h0 _)⟩
  obtain ⟨a, len, cap, rfl, hl, hs⟩ := hs
  refine ⟨a, len, cap, rfl, hl, hs.imp id ?_⟩
  rintro ⟨b, off, rfl, hb, hz⟩
  exact ⟨b, off, rfl, hb, fun i hi => by rw [hc _ _ hb]; exact hz i hi⟩

/-- the law's argument: a list of bytes that lies in w -/
def Code (v : Value) (w : World) : Prop :=
  ∃ (a : Option Addr) (len cap : Nat), v = .slice a len cap ∧ len ≤ cap ∧ len ≤ 1048576 ∧ (len = 0 ∨ ∃ b off, a = some ⟨b, off, none⟩ ∧ ∀ i, i < len → ∃ z : Int, w.cell? ⟨b, off + i, none⟩ = some (.int .u8 z) ∧ 0 ≤ z ∧ z ≤ 255)
theorem Code.keep {v : Value} {w w' : World} (h : Code v w) (hb : Below w.heap.size w w') : Code v w' := by
  obtain ⟨a, len, cap, rfl, h1, h2, h3⟩ := h
  refine ⟨a, len, cap, rfl, h1, h2, h3.imp id ?_⟩
  rintro ⟨b, off, rfl, hz⟩
  refine ⟨b, off, rfl, fun i hi => ?_⟩
  obtain ⟨z, z1, z2⟩ := hz i hi
  exact ⟨z, keepcell hb z1, z2⟩
/-- what l6Open gives: a reader at the beginning, in a new block -/
def Opened (w : World) (e : Ending) (w' : World) : Prop :=
  ∃ sv, e = .returned (.pointer (some ⟨w.heap.size, 0, none⟩)) ∧ Rd w.heap.size sv 0 w' ∧ Src sv w.heap.size w' ∧ w'.heap.size = w.heap.size + 1 ∧ Below w.heap.size w w'
theorem l6Open_c (v : Value) (w : World) (h : Code v w) : Calls Tryd.prog 22 #[v] w (Opened w) := by
  obtain ⟨a, len, cap, rfl, h1, h2, h3⟩ := h
  by_cases h0 : len = 0
  · subst h0
    go_enter Tryd.func22, Tryd.ntmps22
    go_wp2
    go_ret
    refine ⟨.slice a 0 cap, rfl, ⟨by go_simp, by go_simp, by rw [frozen?_alloc_cells]; simp [World.frozen?], by rw [frozen?_alloc_cells]; simp [World.frozen?]⟩, ⟨a, 0, cap, rfl, by omega, Or.inl rfl⟩, by simp, (Below.refl _ _).alloc (Nat.le_refl _) _⟩
  · obtain ⟨b, off, rfl, hz⟩ := h3.resolve_left h0
    have hl : b < w.heap.size := by
      obtain ⟨z, z1, -⟩ := hz 0 (by omega)
      exact World.block_lt_of_cell? w _ z1
    have HZ := Lib.hid hz
    clear hz
    have key : ∀ n, n ≤ len → ∀ i, i < n → ∃ z : Int, (w.alloc (.cells #[.slice (some ⟨b, off, none⟩) n cap, .int .i64 0] 62)).cell? ⟨b, off + i, none⟩ = some (.int .u8 z) ∧ 0 ≤ z ∧ z ≤ 255 := by
      intro n hn i hi
      obtain ⟨z, z1, z2⟩ := HZ.out i (by omega)
      exact ⟨z, keepcell ((Below.refl _ _).alloc (Nat.le_refl _) _) z1, z2⟩
    by_cases hb : 2000 < len
    · go_enter Tryd.func22, Tryd.ntmps22
      go_wp2
      go_ret
      exact ⟨.slice (some ⟨b, off, none⟩) 2000 cap, rfl, ⟨by go_simp, by go_simp, by rw [frozen?_alloc_cells]; simp [World.frozen?], by rw [frozen?_alloc_cells]; simp [World.frozen?]⟩, ⟨_, 2000, cap, rfl, by omega, Or.inr ⟨b, off, rfl, by omega, key 2000 (by omega)⟩⟩, by simp, (Below.refl _ _).alloc (Nat.le_refl _) _⟩
    · go_enter Tryd.func22, Tryd.ntmps22
      go_wp2
      go_ret
      exact ⟨.slice (some ⟨b, off, none⟩) len cap, rfl, ⟨by go_simp, by go_simp, by rw [frozen?_alloc_cells]; simp [World.frozen?], by rw [frozen?_alloc_cells]; simp [World.frozen?]⟩, ⟨_, len, cap, rfl, by omega, Or.inr ⟨b, off, rfl, by omega, key len (by omega)⟩⟩, by simp, (Below.refl _ _).alloc (Nat.le_refl _) _⟩

theorem Moved.cell {rb : Nat} {w w' : World} (h : Moved rb w w') {b o : Nat} {v : Value} (hb : b < w.heap.size) (hn : b ≠ rb) (hv : w.cell? ⟨b, o, none⟩ = some v) : w'.cell? ⟨b, o, none⟩ = some v := (h.2.1 b o hb hn).trans hv
theorem Moved.froz {rb : Nat} {w w' : World} (h : Moved rb w w') {b o : Nat} {v : Bool} (hb : b < w.heap.size) (hn : b ≠ rb) (hv : w.frozen? ⟨b, o, none⟩ = v) : w'.frozen? ⟨b, o, none⟩ = v := (h.2.2.1 b o hb hn).trans hv
theorem Src.moved {sv : Value} {rb : Nat} {w w' : World} (h : Src sv rb w) (k : Moved rb w w') : Src sv rb w' := by
  obtain ⟨a, len, cap, rfl, hl, hs⟩ := h
  refine ⟨a, len, cap, rfl, hl, hs.imp id ?_⟩
  rintro ⟨b, off, rfl, hn, hz⟩
  refine ⟨b, off, rfl, hn, fun i hi => ?_⟩
  obtain ⟨z, z1, z2⟩ := hz i hi
  exact ⟨z, k.cell (World.block_lt_of_cell? w _ z1) hn z1, z2⟩
theorem Rd.set {rb : Nat} {sv : Value} {p : Int} {w : World} (h : Rd rb sv p w) {a : Addr} (ha : a.block ≠ rb) (u : Value) : Rd rb sv p (w.setCell a u) := by
  have hc : ∀ o, (w.setCell a u).cell? ⟨rb, o, none⟩ = w.cell? ⟨rb, o, none⟩ := fun o => World.cell?_of_block (w := w) (a := ⟨rb, o, none⟩) (Below.heap_setCell _ _ _ _ (Ne.symm ha))
  have hf : ∀ o, (w.setCell a u).frozen? ⟨rb, o, none⟩ = w.frozen? ⟨rb, o, none⟩ := fun o => World.frozen?_of_block (w := w) (a := ⟨rb, o, none⟩) (Below.heap_setCell _ _ _ _ (Ne.symm ha))
  exact ⟨(hc 0).trans h.1, (hc 1).trans h.2.1, (hf 0).trans h.2.2.1, (hf 1).trans h.2.2.2⟩

/-- some Gauss, a little wider than the model's bound -/
def GaussV (v : Value) : Prop := ∃ x y : Int, v = .agg #[.int .i64 x, .int .i64 y] ∧ (-1000001 ≤ x ∧ x ≤ 1000001) ∧ (-1000001 ≤ y ∧ y ≤ 1000001)
end Go.Proofs.YtmdnfamjdogogaaDoor

/- The library's count of trailing noughts at every index below 1024; its table out of what a card lists. No law is stated here. -/
import Derived.Test.YtmdnfamjdogogaaDoorRd
import Derived.Test.YtmdnfamjdogogaaDoorWa
import Derived.Laws.BitsAllLaws
namespace Go.Proofs.YtmdnfamjdogogaaDoor
set_option linter.unusedSimpArgs false
set_option linter.unusedVariables false
open Go.ChangeShapes Go.WideShapes Go.ChangeAt Go.RowKit Go.Joins

/-- the table's place for so many noughts -/
def tzC : Nat → Nat
  | 0 => 0
  | 1 => 1
  | 2 => 3
  | 3 => 7
  | 4 => 15
  | 5 => 31
  | 6 => 63
  | 7 => 62
  | 8 => 61
  | 9 => 59
  | _ => 0
/-- ten cells of the library's table -/
def Tz (w : World) : Prop := ∀ k, k < 10 → w.cell? ⟨4, tzC k, none⟩ = some (.int .u8 (k : Nat))
theorem Tz.pos {w : World} (h : Tz w) : 4 < w.heap.size := World.block_lt_of_cell? w _ (h 0 (by decide))
theorem Tz.keep {w w' : World} (h : Tz w) {B : Nat} (hB : 4 < B) (hb : Below B w w') : Tz w' := fun k hk => (hb.cell (p := ⟨4, tzC k, none⟩) hB).trans (h k hk)
theorem d64At : Tryd.prog.globalNamed "math/bits.deBruijn64tab" = some 4 := by kernel_rfl
theorem d64Type : (Tryd.prog.globals[4]?).map (·.type) = some 120 := by kernel_rfl
theorem cellsU8 : Tryd.prog.cellsOf 5 = 1 := by kernel_rfl
theorem lt10 {k : Nat} (h : k < 10) : k = 0 ∨ k = 1 ∨ k = 2 ∨ k = 3 ∨ k = 4 ∨ k = 5 ∨ k = 6 ∨ k = 7 ∨ k = 8 ∨ k = 9 := by omega
set_option maxRecDepth 10000 in
theorem tz_second {W : World} {x : String × DataW Unit} {r : List (String × DataW Unit)} (h : laidMetH Tryd.prog (x :: ("math/bits.deBruijn64tab", Rows.laid_math_bits_deBruijn64tab) :: r) W) (hp : ∀ W, laidMetH Tryd.prog (x :: ("math/bits.deBruijn64tab", Rows.laid_math_bits_deBruijn64tab) :: r) W = laidMet Tryd.prog (x :: ("math/bits.deBruijn64tab", Rows.laid_math_bits_deBruijn64tab) :: r) W) : Tz W := by
  rw [hp] at h
  have h2 := h.tail
  obtain ⟨ps, ⟨g, t, cs, fuel, p, q, hg, ht, hv, hd, _, _⟩, _, _⟩ := h2
  obtain rfl := Option.some.inj (d64At.symm.trans hg)
  obtain rfl := Option.some.inj (d64Type.symm.trans ht)
  have hds : ∃ ds, (Rows.laid_math_bits_deBruijn64tab : DataW Unit) = .agg ds ∧ ∀ k, k < 10 → tzC k < 64 ∧ ds[tzC k]? = some (.lit (.int .u8 (k : Nat))) := ⟨_, rfl, fun k hk => by
    rcases lt10 hk with rfl | rfl | rfl | rfl | rfl | rfl | rfl | rfl | rfl | rfl <;> exact ⟨by decide, by kernel_rfl⟩⟩
  obtain ⟨ds, e, e1⟩ := hds
  rw [e] at hd
  intro k hk
  obtain ⟨k1, k2⟩ := e1 k hk
  obtain ⟨m, q, h1⟩ := rd_array Tryd.underlying120 hd (i := tzC k) k1 k2
  rw [cellsU8] at h1
  have a := rd_int Tryd.underlying5 h1
  have a1 : cs.toList[tzC k]? = some (.int .u8 (k : Nat)) := by
    have e : ((cs.toList.drop (tzC k * 1)).take 1)[0]? = some (.int .u8 (k : Nat)) := by rw [a]; rfl
    rw [List.getElem?_take, if_pos (by omega), List.getElem?_drop] at e
    simpa using e
  rw [World.var?_cell d64At hv (tzC k)]; simpa using a1

def tzChk (j k : Nat) : Bool := let n := 2 ^ j * (2 * k + 1); n ≥ 1024 || Nat.land n (18446744073709551616 - n) * 285870213051353865 % 18446744073709551616 / 288230376151711744 == tzC j
theorem tz_all : ((List.range 10).all fun j => (List.range 512).all fun k => tzChk j k) = true := by decide +kernel
theorem tz_key (j o : Nat) (hj : j < 10) (ho : o % 2 = 1) (h : 2 ^ j * o < 1024) :
    IntKind.u64.wrap (bits BinOp.and IntKind.u64 ((2 ^ j * o : Nat) : Int) (IntKind.u64.wrap (-((2 ^ j * o : Nat) : Int))) * 285870213051353865) / 288230376151711744 = ((tzC j : Nat) : Int) := by
  have hpos : 0 < 2 ^ j * o := Nat.mul_pos (two_pos j) (by omega)
  have hk : o / 2 < 512 := by have := Nat.le_mul_of_pos_left o (two_pos j); omega
  have h1 := List.all_eq_true.1 (List.all_eq_true.1 tz_all j (List.mem_range.2 hj)) (o / 2) (List.mem_range.2 hk)
  unfold tzChk at h1
  rw [show 2 * (o / 2) + 1 = o by omega] at h1
  generalize hN : 2 ^ j * o = N at *
  have h2 : Nat.land N (18446744073709551616 - N) * 285870213051353865 % 18446744073709551616 / 288230376151711744 = tzC j := by
    simp only [Bool.or_eq_true, decide_eq_true_eq, beq_iff_eq] at h1
    rcases h1 with h1 | h1
    · omega
    · exact h1
  have hw : IntKind.u64.wrap (-(N : Int)) = ((18446744073709551616 - N : Nat) : Int) := by rw [IntKind.wrap_u64]; omega
  rw [hw, u64_and_nat N (18446744073709551616 - N) (by omega) (by omega), IntKind.wrap_u64, ← h2]
  show (((N &&& (18446744073709551616 - N) : Nat) : Int) * 285870213051353865) % 18446744073709551616 / 288230376151711744 = (((N &&& (18446744073709551616 - N)) * 285870213051353865 % 18446744073709551616 / 288230376151711744 : Nat) : Int)
  generalize (N &&& (18446744073709551616 - N)) = M
  omega
set_option maxHeartbeats 1000000 in
theorem tz64_c (n j o : Nat) (w : World) (h : Tz w) (hn : n = 2 ^ j * o) (ho : o % 2 = 1) (hlt : n < 1024) : Calls Tryd.prog 82 #[.int .u64 n] w fun e w' => e = .returned (.int .i64 (j : Nat)) ∧ w = w' := by
  have hpos : 0 < n := by rw [hn]; exact Nat.mul_pos (two_pos j) (by omega)
  have hj : j < 10 := exp_lt ho (by rw [← hn]; exact hlt)
  have h1 := tz_key j o hj ho (by omega)
  rw [← hn] at h1
  have hc := h j hj
  have hC : tzC j < 64 := by rcases lt10 hj with rfl | rfl | rfl | rfl | rfl | rfl | rfl | rfl | rfl | rfl <;> decide
  clear h hn ho
  generalize tzC j = C at *
  go_enter Tryd.func82, Tryd.ntmps82
  go_wp2_with (simp only [h1])
  go_ret
  exact ⟨rfl, rfl⟩
theorem tz_c (n j o : Nat) (w : World) (h : Tz w) (hn : n = 2 ^ j * o) (ho : o % 2 = 1) (hlt : n < 1024) : Calls Tryd.prog 76 #[.int .u64 n] w fun e w' => e = .returned (.int .i64 (j : Nat)) ∧ w = w' := by
  have H := Lib.hid (tz64_c n j o w h hn ho hlt)
  clear h hn ho
  go_enter Tryd.func76, Tryd.ntmps76
  go_wp2_with (go_at_call 82; refine H.out.mono ?_; rintro e w' ⟨rfl, rfl⟩)
  go_ret
  exact ⟨rfl, rfl⟩

/-- the letter at an index of the word of turns -/
theorem pow_shr (n j o : Nat) (hn : n = 2 ^ j * o) : n / 2 ^ j = o := by
  rw [hn, Nat.mul_div_cancel_left _ (two_pos j)]
set_option maxHeartbeats 1000000 in
theorem turnOf_c (cs : ByteArray) (n j o : Nat) (w : World) (h : Tz w) (hn : n = 2 ^ j * o) (ho : o % 2 = 1) (hlt : n < 2 ^ cs.size) (hc : cs.size ≤ 10) : Calls Tryd.prog 69 #[.string cs, .int .i64 n] w fun e w' => e = .returned (.int .u8 ((turnV (toL cs) j o).toNat : Int)) ∧ w = w' := by
  have hj : j < cs.size := exp_lt ho (by rw [← hn]; exact hlt)
  have hn2 : n < 1024 := Nat.lt_of_lt_of_le hlt (Nat.pow_le_pow_right (by omega) hc : 2 ^ cs.size ≤ 2 ^ 10)
  have H := Lib.hid (tz_c n j o w h hn ho hn2)
  have hsh := pow_shr n j o hn
  have hg : (toL cs)[j]?.getD 0 = cs[j] := by rw [toL_get cs j hj]; rfl
  have ho2 : o < 1024 := by have := Nat.le_mul_of_pos_left o (two_pos j); omega
  have e1 : ((n : Int) / (2 : Int) ^ j) = (o : Int) := by rw [← hsh]; push_cast; rfl
  have e2 : ((o : Int).tmod 4) = ((o % 4 : Nat) : Int) := by rw [Int.tmod_eq_emod_of_nonneg (by omega)]; omega
  rcases (show o % 4 = 1 ∨ o % 4 = 3 by omega) with h4 | h4
  · have HT := Lib.hid (show turnV (toL cs) j o = cs[j] by unfold turnV; rw [if_pos h4, hg])
    rw [h4] at e2
    clear h hn ho hsh hg h4
    go_enter Tryd.func69, Tryd.ntmps69
    go_wp2_with (first | (go_at_call 76; refine H.out.mono ?_; rintro e w' ⟨rfl, rfl⟩))
    go_ret
    exact ⟨by rw [HT.out]; rfl, rfl⟩
  · have HT := Lib.hid (show turnV (toL cs) j o = oth cs[j] by unfold turnV; rw [if_neg (by omega), hg])
    rw [h4] at e2
    clear h hn ho hsh hg h4
    go_enter Tryd.func69, Tryd.ntmps69
    go_wp2_with (first | (go_at_call 76; refine H.out.mono ?_; rintro e w' ⟨rfl, rfl⟩) | (go_at_call 80; refine (other_c cs[j] _).mono ?_; rintro e w1 ⟨rfl, rfl⟩))
    go_ret
    exact ⟨by rw [HT.out]; rfl, rfl⟩
end Go.Proofs.YtmdnfamjdogogaaDoor

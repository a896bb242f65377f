/- Chapter 7: words of bits, of both sides: what they answer. No law is stated here. -/
import Derived.Test.YtmdnfamjdogogaaDoorZw
import Derived.Test.YtmdnfamjdogogaaDoorShelf
namespace Go.Proofs.YtmdnfamjdogogaaDoor
set_option linter.unusedSimpArgs false
set_option linter.unusedVariables false
open Go.RowKit

theorem repeat_noughtsH (z : Nat) : (Lib.repeatL [48] z : List UInt8) = List.replicate z 48 := by
  induction z with
  | zero => rfl
  | succ z ih => simp [Lib.repeatL, List.replicate_succ, ih]
theorem repH_c (z : Nat) (w : World) (hz : z ≤ 50) : Calls Tryd.prog 34 #[.string ⟨#[48]⟩, .int .i64 z] w fun e w' => e = .returned (.string (bs (List.replicate z 48))) ∧ Below w.heap.size w w' :=
  (Tryd.strings_Repeat ⟨#[48]⟩ z w (by omega) (by show 1 * z ≤ _; omega)).mono fun e w' h => ⟨by rw [h.1, repeat_noughtsH]; rfl, h.2⟩
set_option maxHeartbeats 4000000 in
theorem eightDigits_c (n : Nat) (w : World) (hn : n < 4294967296) (hT : Tz w) : Calls Tryd.prog 20 #[.int .u32 n] w fun e w' => e = .returned (.string (bs (hl 7 n))) ∧ Below w.heap.size w w' := by
  have HT := Lib.hid hT
  clear hT
  go_enter Tryd.func20, Tryd.ntmps20
  go_wp2_with fail
  refine (fmtHex_c n w hn HT.out).mono ?_
  rintro e w1 ⟨k, rfl, h1, h2, hb⟩
  have HR := Lib.hid (show bs (List.replicate (7 - k) 48) ++ bs (hl k n) = bs (hl 7 n) by rw [hbs_cat, hl_pad h1 h2])
  have hz : (bs (hl k n)).size = k + 1 := by rw [hbs_sz, hl_len]
  have hz2 : (bs (List.replicate (7 - k) 48)).size ≤ 8 := by rw [hbs_sz, List.length_replicate]; omega
  have HP := Lib.hid (fun w => repH_c (7 - k) w (by omega))
  have e1 : (8 : Int) - ((k : Int) + 1) = ((7 - k : Nat) : Int) := by omega
  have HB := Lib.hid hb
  clear h2 hb
  generalize bs (hl k n) = T at *
  generalize bs (List.replicate (7 - k) 48) = U at *
  have hz3 : (T.size : Int) = (k : Int) + 1 := by omega
  have e2 : (8 : Int) - (T.size : Int) = ((7 - k : Nat) : Int) := by omega
  have hz4 : T.size ≤ 8 := by omega
  have HZ := Lib.hid hz
  clear hz hz3 e1
  go_wp2_with fail
  refine (HP.out _).mono ?_
  rintro e w2 ⟨rfl, hb2⟩
  have HB2 := Lib.hid (Blw.after HB.out hb2)
  clear hb2 HB
  go_wp2_with fail
  go_ret
  exact ⟨by rw [← HR.out]; rfl, HB2.out⟩
theorem iWordBits_c (x : Nat) (w : World) (hx : x < 4294967296) (hT : Tz w) : Calls Tryd.prog 8 #[.float .f32 x] w fun e w' => e = .returned (.string (bs (hl 7 x))) ∧ Below w.heap.size w w' := by
  have HT := Lib.hid hT
  clear hT
  go_enter Tryd.func8, Tryd.ntmps8
  go_wp2
  rw [run_callFunc_extern Tryd.func19 (by kernel_rfl) (by kernel_rfl) (by kernel_rfl) (e := Extern.MathFloatBits.float32bits) (by kernel_rfl), f32bitsZ_run]
  simp only [Result.andThen]
  rw [Oper.upon_value]
  go_wp2_with fail
  refine (eightDigits_c x w hx HT.out).mono ?_
  rintro e w1 ⟨rfl, hb⟩
  have HB := Lib.hid hb
  clear hb
  go_wp2_with fail
  go_ret
  exact ⟨rfl, HB.out⟩
theorem sWordBits_c (x : Nat) (w : World) (hx : x < 4294967296) : Calls Tryd.prog 7 #[.float .f32 x] w fun e w' => e = .returned (.string (bs (hl 7 x))) ∧ w = w' := by
  go_enter Tryd.func7, Tryd.ntmps7
  go_wp2
  rw [run_callFunc_extern Tryd.func19 (by kernel_rfl) (by kernel_rfl) (by kernel_rfl) (e := Extern.MathFloatBits.float32bits) (by kernel_rfl), f32bitsZ_run]
  simp only [Result.andThen]
  rw [Oper.upon_value]
  go_wp2_with fail
  refine (l7Hex_c x w hx).mono ?_
  rintro e w1 ⟨rfl, rfl⟩
  go_wp2_with fail
  go_ret
  exact ⟨rfl, rfl⟩
end Go.Proofs.YtmdnfamjdogogaaDoor

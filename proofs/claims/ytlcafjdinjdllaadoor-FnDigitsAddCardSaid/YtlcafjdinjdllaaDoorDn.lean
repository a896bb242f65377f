/- Chapter 2: products, of both sides. -/
import Derived.Test.YtlcafjdinjdllaaDoorDm
import Derived.Test.YtlcafjdinjdllaaDoorShelf
namespace Go.Proofs.YtlcafjdinjdllaaDoor
set_option linter.unusedSimpArgs false
set_option linter.unusedVariables false
open Go.RowKit

def sumR (a b : ByteArray) : List UInt8 := if outA a b (stepsA a b) = [] then [48] else (outA a b (stepsA a b)).reverse
def addOk (a b : ByteArray) : Bool := (vldB a && vldB b) && vldL (strip (sumR a b))
def addS (a b : ByteArray) : ByteArray := selS (addOk a b) (strip (sumR a b))
theorem addV_eq (a b : ByteArray) : addV a b = .tuple #[.string (addS a b), .bool (addOk a b)] := by
  unfold addV addS addOk
  cases h : (vldB a && vldB b) with
  | true => simp only [Bool.true_and, if_true]; rfl
  | false => simp only [Bool.false_and]; rfl
/-- a text with so many zeros behind it, which 0 does not take -/
def shiftB (a : ByteArray) (z : Nat) : ByteArray := if toL a = [48] then a else bs (toL a ++ List.replicate z 48)
/-- the sum of the shifted texts of the first digits, if none was too long -/
def tmO (a b : ByteArray) : Nat → Option ByteArray
  | 0 => some ⟨#[48]⟩
  | i + 1 => (tmO a b i).bind fun t => if (toL b).getD i 48 = 48 then some t else if addOk t (shiftB a (b.size - 1 - i)) then some (addS t (shiftB a (b.size - 1 - i))) else none
def timesV (a b : ByteArray) : Value := match (if vldB a && vldB b then tmO a b b.size else none) with
  | some t => .tuple #[.string t, .bool true]
  | none => .tuple #[.string ⟨#[]⟩, .bool false]
theorem timesV_no {a b : ByteArray} (h : vldB a = false ∨ vldB b = false) : timesV a b = .tuple #[.string ⟨#[]⟩, .bool false] := by
  unfold timesV; rcases h with h | h <;> rw [h] <;> simp
theorem timesV_some {a b t : ByteArray} (ha : vldB a = true) (hb : vldB b = true) (h : tmO a b b.size = some t) : timesV a b = .tuple #[.string t, .bool true] := by
  unfold timesV; rw [ha, hb, h]; rfl
theorem timesV_none {a b : ByteArray} (ha : vldB a = true) (hb : vldB b = true) (h : tmO a b b.size = none) : timesV a b = .tuple #[.string ⟨#[]⟩, .bool false] := by
  unfold timesV; rw [ha, hb, h]; rfl
theorem timesV_shape (a b : ByteArray) : ∃ s ok, timesV a b = .tuple #[.string s, .bool ok] := by
  unfold timesV; split <;> exact ⟨_, _, rfl⟩
theorem toL_getD {b : ByteArray} {i : Nat} (h : i < b.size) : (toL b).getD i 48 = b[i] := by
  rw [List.getD, toL_get b i h]; rfl
theorem tm_zero {a b t : ByteArray} {i : Nat} (h : tmO a b i = some t) (hi : i < b.size) (h48 : b[i].toNat = 48) : tmO a b (i + 1) = some t := by
  unfold tmO; rw [h, Option.bind_some, toL_getD hi, if_pos (UInt8.toNat_inj.1 (by rw [h48]; rfl))]
theorem tm_one {a b t : ByteArray} {i : Nat} (h : tmO a b i = some t) (hi : i < b.size) (h49 : b[i].toNat ≠ 48) (hok : addOk t (shiftB a (b.size - 1 - i)) = true) : tmO a b (i + 1) = some (addS t (shiftB a (b.size - 1 - i))) := by
  unfold tmO; rw [h, Option.bind_some, toL_getD hi, if_neg (by intro e; apply h49; rw [e]; rfl), if_pos hok]
theorem tm_fail {a b t : ByteArray} {i : Nat} (h : tmO a b i = some t) (hi : i < b.size) (h49 : b[i].toNat ≠ 48) (hok : addOk t (shiftB a (b.size - 1 - i)) = false) : tmO a b b.size = none := by
  have h1 : tmO a b (i + 1) = none := by
    unfold tmO; rw [h, Option.bind_some, toL_getD hi, if_neg (by intro e; apply h49; rw [e]; rfl), hok]; rfl
  have key : ∀ j, tmO a b (i + 1 + j) = none := by
    intro j
    induction j with
    | zero => exact h1
    | succ j ih => rw [← Nat.add_assoc]; unfold tmO; rw [ih]; rfl
  have := key (b.size - (i + 1))
  rwa [show i + 1 + (b.size - (i + 1)) = b.size by omega] at this

theorem repeat_zeros (z : Nat) : (Lib.repeatL [48] z : List UInt8) = List.replicate z 48 := by
  induction z with
  | zero => rfl
  | succ z ih => simp [Lib.repeatL, List.replicate_succ, ih]
theorem shifted_c (a : ByteArray) (z : Nat) (w : World) (ha : a.size ≤ 50) (hz : z ≤ 50) : Calls Tryd.prog 42 #[.string a, .int .i64 z] w fun e w' => e = .returned (.string (shiftB a z)) ∧ Below w.heap.size w w' := by
  by_cases h : toL a = [48]
  · have e1 : (a.toList == [48]) = true := by rw [toList_toL, h]; rfl
    have H := Lib.hid (show shiftB a z = a by unfold shiftB; rw [if_pos h])
    clear h
    go_enter Tryd.func42, Tryd.ntmps42
    go_wp2_with fail
    go_ret
    exact ⟨by rw [H.out]; rfl, by (repeat' (first | assumption | exact Below.refl _ _ | apply Blw.alloc | apply Blw.drew | apply Blw.drewN | (refine Blw.after ?_ (by assumption)) | (refine Blw.set ?_ (by first | (dsimp only; omega) | (simp; done) | (simp; omega)) _)))⟩
  · have e1 : (a.toList == [48]) = false := by rw [toList_toL]; simpa using h
    have H := Lib.hid (show shiftB a z = a ++ bs (List.replicate z 48) by
      unfold shiftB; rw [if_neg h]; apply toL_ext; rw [toL_bs]; simp [toL, bs, ByteArray.data_append])
    clear h
    have hR := Tryd.strings_Repeat ⟨#[48]⟩ z w (by omega) (by show 1 * z ≤ _; omega)
    have HR := Lib.hid (show Calls Tryd.prog 64 #[.string ⟨#[48]⟩, .int .i64 z] w fun e w' => e = .returned (.string (bs (List.replicate z 48))) ∧ Below w.heap.size w w' from hR.mono fun e w' h => ⟨by rw [h.1, repeat_zeros]; rfl, h.2⟩)
    clear hR
    have hsz : (bs (List.replicate z 48)).size = z := by rw [← toL_len, toL_bs, List.length_replicate]
    go_enter Tryd.func42, Tryd.ntmps42
    go_wp2_with fail
    refine HR.out.mono ?_
    rintro e w1 ⟨rfl, hb⟩
    go_wp2
    go_ret
    exact ⟨by rw [H.out]; rfl, by (repeat' (first | assumption | exact Below.refl _ _ | apply Blw.alloc | apply Blw.drew | apply Blw.drewN | (refine Blw.after ?_ (by assumption)) | (refine Blw.set ?_ (by first | (dsimp only; omega) | (simp; done) | (simp; omega)) _)))⟩
end Go.Proofs.YtlcafjdinjdllaaDoor

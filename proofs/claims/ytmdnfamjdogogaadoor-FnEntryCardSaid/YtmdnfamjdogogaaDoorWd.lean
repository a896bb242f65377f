/- Chapter 4, the program's side: the letters of a word of turns as a function to range over; TurnWord. No law is stated here. -/
import Derived.RangeFuncBox
import Derived.RangeFuncLeaves
import Derived.RangeFuncNested
import Derived.Shelf.Abstract
import Derived.WalkKit
import Derived.OwnWalkIn
import Derived.TacticsInMore
import Derived.LoopNIn
import Derived.LoopIn
import Derived.Maps.AppendAt
import Derived.Test.YtmdnfamjdogogaaDoorTz
import Derived.Test.YtmdnfamjdogogaaDoorWc
namespace Go.Proofs.YtmdnfamjdogogaaDoor
set_option linter.unusedSimpArgs false
set_option linter.unusedVariables false
open Go.RowKit Go.Shelf

attribute [local go_sem] Oper.semAt_some

/-- the letter with this index, from 0 on -/
def ltC (cs : List UInt8) (k : Nat) : UInt8 := (turnsL cs)[k]?.getD 0
theorem ltC_map (cs : List UInt8) : (List.range (2 ^ cs.length - 1)).map (ltC cs) = turnsL cs := by
  have hl := turnsL_len cs
  apply List.ext_getElem
  · simp; omega
  · intro i h1 h2
    simp [ltC, h2]
theorem index_form : ∀ n : Nat, 1 ≤ n → ∃ j o, n = 2 ^ j * o ∧ o % 2 = 1 := by
  intro n
  induction n using Nat.strongRecOn with
  | ind n ih =>
    intro hn
    rcases Nat.mod_two_eq_zero_or_one n with h | h
    · obtain ⟨j, o, e, ho⟩ := ih (n / 2) (by omega) (by omega)
      refine ⟨j + 1, o, ?_, ho⟩
      rw [Nat.pow_succ, Nat.mul_assoc, Nat.mul_comm 2 o, ← Nat.mul_assoc, ← e]; omega
    · exact ⟨0, n, by simp, h⟩
theorem ltC_at {cs : List UInt8} {k j o : Nat} (hk : k + 1 = 2 ^ j * o) (ho : o % 2 = 1) (hlt : k + 1 < 2 ^ cs.length) (hw : ∀ c ∈ cs, wdC c = true) : ltC cs k = turnV cs j o := by
  have := turn_at cs j o ho (by omega) hw
  unfold ltC
  rw [show k = 2 ^ j * o - 1 by omega, this]; rfl
theorem turnLet_c (cs : ByteArray) (k : Nat) (w : World) (h : Tz w) (hw : wdB 10 cs = true) (hk : k + 1 < 2 ^ cs.size) : Calls Tryd.prog 69 #[.string cs, .int .i64 ((k + 1 : Nat) : Int)] w fun e w' => e = .returned (.int .u8 ((ltC (toL cs) k).toNat : Int)) ∧ w = w' := by
  obtain ⟨j, o, e, ho⟩ := index_form (k + 1) (by omega)
  rw [ltC_at e ho (by rw [toL_len]; exact hk) (wdB_all hw)]
  exact turnOf_c cs (k + 1) j o w h e ho hk (wdB_len hw)
theorem range_pre {k n : Nat} (h : k ≤ n) : List.range k <+: List.range n := by
  rw [show List.range k = (List.range n).take k by rw [List.take_range, Nat.min_eq_left h]]
  exact List.take_prefix _ _
theorem shl_one {n : Nat} (h : n ≤ 10) : wrap64 (2 ^ n) = ((2 ^ n : Nat) : Int) ∧ 1 ≤ 2 ^ n ∧ 2 ^ n ≤ 1024 := by
  have h1 : 2 ^ n ≤ 2 ^ 10 := Nat.pow_le_pow_right (by omega) h
  have h2 : (2 : Nat) ^ 10 = 1024 := by decide
  refine ⟨?_, two_pos n, by omega⟩
  have e : (2 : Int) ^ n = ((2 ^ n : Nat) : Int) := by push_cast; rfl
  rw [e]
  generalize 2 ^ n = P at *
  unfold wrap64
  omega
theorem count_c (cs : ByteArray) (w : World) (h : cs.size ≤ 10) : Calls Tryd.prog 52 #[.string cs] w fun e w' => e = .returned (.int .i64 ((2 ^ cs.size - 1 : Nat) : Int)) ∧ w = w' := by
  obtain ⟨h1, h2, h3⟩ := shl_one h
  have H := Lib.hid (show ((2 ^ cs.size : Nat) : Int) - 1 = ((2 ^ cs.size - 1 : Nat) : Int) by omega)
  generalize hP : 2 ^ cs.size = P at *
  clear hP
  have h4 : wrap64 ((P : Int) - 1) = (P : Int) - 1 := by unfold wrap64; omega
  go_enter Tryd.func52, Tryd.ntmps52
  go_wp2_with fail
  go_ret
  exact ⟨by rw [← H.out]; rfl, rfl⟩
theorem turns_c (cs : ByteArray) (w : World) : Calls Tryd.prog 53 #[.string cs] w fun e w' => e = .returned (.func (.func 68) #[] #[.pointer (some ⟨w.heap.size, 0, none⟩)]) ∧ w' = w.alloc (.cells #[.string cs] 9) := by
  go_enter Tryd.func53, Tryd.ntmps53
  go_wp2
  go_ret
  exact ⟨rfl, rfl⟩

/-- what a round keeps: what lay below n₀, and one more block -/
def KpL (n₀ Bn : Nat) (A B : World) : Prop := Below n₀ A B ∧ B.heap[Bn]? = A.heap[Bn]?
theorem KpL.refl (n₀ Bn : Nat) (A : World) : KpL n₀ Bn A A := ⟨Below.refl _ _, rfl⟩
theorem KpL.trans {n₀ Bn : Nat} {A B C : World} (h : KpL n₀ Bn A B) (k : KpL n₀ Bn B C) : KpL n₀ Bn A C := ⟨h.1.trans k.1, k.2.trans h.2⟩
theorem KpL.put {n₀ Bn : Nat} {w : World} (hn : n₀ ≤ w.heap.size) (hB : Bn < w.heap.size) (W : World) (l : Nat) (o o' : Obj) (hl : w.heap.size ≤ l) (h : W.heap[l]? = some o) (h1 : o.isCells = false) (h2 : o.isWalk = false) : KpL n₀ Bn W (W.putObj l o') :=
  ⟨belowK_b hn W l o o' hl h h1 h2, World.putObj_heap_other (by omega)⟩
theorem KpL.cell {n₀ Bn : Nat} {A B : World} (h : KpL n₀ Bn A B) {v : Value} (hv : A.cell? ⟨Bn, 0, none⟩ = some v) : B.cell? ⟨Bn, 0, none⟩ = some v := (World.cell?_of_block (w := A) (a := ⟨Bn, 0, none⟩) h.2).trans hv
set_option maxRecDepth 100000 in
set_option maxHeartbeats 4000000 in
/-- the function to range over: each letter with its index from 1 on, for every body that keeps what lay below n₀ and the box of the creases -/
theorem letters_in {α : Type} (f : α → Nat) (n l Bn n₀ : Nat) (hn : 1 ≤ n) (cs : ByteArray) (mk : ∀ k, k < 2 ^ cs.size - 1 → α) (hmk : ∀ k h, f (mk k h) = k) (hw : wdB 10 cs = true) (J Jx : List α → World → Prop)
    (hY : ∀ (pre : List α) (x : α) W, J pre W → pre.length < 2 ^ cs.size - 1 → YieldAt Fence.wide (n - 1) Tryd.prog l #[.int .i64 ((f x : Int) + 1), .int .u8 ((ltC (toL cs) (f x)).toNat : Int)] W fun e W' =>
      (e = .returned (.bool true) ∧ J (pre ++ [x]) W' ∧ KpL n₀ Bn W W') ∨ (e = .returned (.bool false) ∧ Jx (pre ++ [x]) W'))
    (W : World) (hD : 4 < n₀) (hc : W.cell? ⟨Bn, 0, none⟩ = some (.string cs)) (hT : Tz W) (h0 : J [] W) :
    CallsIn Fence.wide n Tryd.prog 68 #[.func (.yield l) #[] #[], .pointer (some ⟨Bn, 0, none⟩)] W fun e W' => (∃ v, e = .returned v) ∧
      ((∃ ys, ys.map f = List.range (2 ^ cs.size - 1) ∧ J ys W') ∨ (∃ pre, pre.map f <+: List.range (2 ^ cs.size - 1) ∧ Jx pre W')) := by
  have h10 := wdB_len hw
  have hp1 := two_pos cs.size
  have hp2 : 2 ^ cs.size ≤ 1024 := (shl_one h10).2.2
  have HW := Lib.hid hw
  have HT := Lib.hid hT
  clear hw hT
  refine callsIn_of_wp Tryd.func68 rfl trivial ?_ rfl
  simp only [Tryd.ntmps68, List.size_toArray, List.length_cons, List.length_nil, Nat.reduceAdd, Nat.reduceSub, Array.replicate_succ, Array.replicate_zero, List.push_toArray, List.append_toArray, List.nil_append, List.cons_append]
  gi_wp2
  gi_loopw [3] (fun i wr => ∃ (k : Nat) (pre : List α), k ≤ 2 ^ cs.size - 1 ∧ i = .int .i64 ((k + 1 : Nat) : Int) ∧ pre.map f = List.range k ∧ J pre wr ∧ KpL n₀ Bn W wr)
    (fun i _ => 2000 - (intOf i).toNat)
  case atStart => exact ⟨0, [], Nat.zero_le _, rfl, rfl, h0, KpL.refl _ _ _⟩
  case round =>
    obtain ⟨k, pre, hk, rfl, hpre, hJs, hnx⟩ := hrel
    have hcx : wr.cell? ⟨Bn, 0, none⟩ = some (.string cs) := hnx.cell hc
    have HTx := Lib.hid (HT.out.keep hD hnx.1)
    have hpl : pre.length = k := by rw [← List.length_map f, hpre, List.length_range]
    by_cases hlt : k < 2 ^ cs.size - 1
    · obtain ⟨fn, tmps, assign, body, hy, hR⟩ := hY pre (mk k hlt) wr hJs (by omega)
      have hm := hmk k hlt
      have HM := Lib.hid hm
      simp only [hm] at hy
      have HL := Lib.hid (turnLet_c cs k wr HTx.out HW.out (by omega))
      have hle : ¬ ((2 ^ cs.size - 1 : Nat) : Int) < ((k + 1 : Nat) : Int) := by omega
      have HPX := Lib.hid hpre
      clear hm hpre
      generalize hX : mk k hlt = X at *
      generalize hP : 2 ^ cs.size - 1 = P at *
      clear hX
      gi_wp2_with (first | (refine ⟨trivial, ?_⟩; gi_at_call 52; refine (callsIn_wide.2 (count_c cs _ h10)).mono ?_; rintro e w' ⟨rfl, rfl⟩; rw [hP]) | (refine ⟨trivial, ?_⟩; gi_at_call 69; refine (callsIn_wide.2 HL.out).mono ?_; rintro e w' ⟨rfl, rfl⟩))
      refine hR.mono ?_
      have hnew : (pre ++ [X]).map f = List.range (k + 1) := by rw [List.map_append, HPX.out, List.range_succ]; simp [HM.out]
      rintro e W3 (⟨rfl, hJ3, hk3⟩ | ⟨rfl, hJx3⟩)
      · gi_wp2
        go_roundw
        case rel => exact ⟨k + 1, _, by omega, by simp, hnew, hJ3, hnx.trans hk3⟩
        case measure => simp [intOf]; omega
      · gi_wp2
        refine bodyPost_ret (results_none rfl _ _ _) rfl ?_
        exact ⟨⟨_, rfl⟩, .inr ⟨_, by rw [hnew]; exact range_pre (by omega), hJx3⟩⟩
    · obtain rfl : k = 2 ^ cs.size - 1 := by omega
      have HPX := Lib.hid hpre
      clear hpre hpl
      gi_wp2_with (first | (refine ⟨trivial, ?_⟩; gi_at_call 52; refine (callsIn_wide.2 (count_c cs _ h10)).mono ?_; rintro e w' ⟨rfl, rfl⟩))
      go_end0
      exact ⟨⟨_, rfl⟩, .inl ⟨_, HPX.out, hJs⟩⟩
theorem letters_stops {α : Type} (f : α → Nat) (n Bn n₀ : Nat) (hn : 1 ≤ n) (cs : ByteArray) (mk : ∀ k, k < 2 ^ cs.size - 1 → α) (hmk : ∀ k h, f (mk k h) = k) (hw : wdB 10 cs = true) (w : World) (hB : Bn < w.heap.size) (hD : 4 < n₀) (hn₀ : n₀ ≤ w.heap.size) (hc : w.cell? ⟨Bn, 0, none⟩ = some (.string cs)) (hT : Tz w) :
    SeqStopsK Fence.wide n Tryd.prog 68 #[.pointer (some ⟨Bn, 0, none⟩)] (fun x : α => #[Value.int .i64 ((f x : Int) + 1), Value.int .u8 ((ltC (toL cs) (f x)).toNat : Int)]) (KpL n₀ Bn) (fun ys => ys.map f = List.range (2 ^ cs.size - 1)) (fun pre => pre.map f <+: List.range (2 ^ cs.size - 1)) (2 ^ cs.size - 1) w := fun l J Jx W hW _ _ hY h0 =>
  letters_in f n l Bn n₀ hn cs mk hmk hw J Jx hY W hD ((hW.cell (p := ⟨Bn, 0, none⟩) hB).trans hc) (hT.keep (Nat.lt_of_lt_of_le hD hn₀) hW) h0
end Go.Proofs.YtmdnfamjdogogaaDoor

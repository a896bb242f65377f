/- Chapter 7: checksums, of both sides. No law is stated here. -/
import Derived.Test.YtmdnfamjdogogaaDoorCs
import Derived.Test.YtmdnfamjdogogaaDoorZa
import Derived.Laws.Externs
namespace Go.Proofs.YtmdnfamjdogogaaDoor
set_option linter.unusedSimpArgs false
set_option linter.unusedVariables false
open Go.RowKit Ieee

theorem f32bitsZ_run (x : Nat) (w : World) : (Extern.MathFloatBits.float32bits #[.float .f32 x]).run Tryd.prog w = .ok (.int .u32 (x : Nat)) w := rfl
theorem summed_c (h x : Nat) (w : World) (hh : h < 4294967296) (hx : x < 4294967296) : Calls Tryd.prog 40 #[.int .u32 h, .float .f32 x] w fun e w' => e = .returned (.int .u32 (smN h x : Nat)) ∧ w = w' := by
  have f1 := sm_wrap hh hx
  clear hh hx
  generalize smN h x = r at *
  go_enter Tryd.func40, Tryd.ntmps40
  go_wp2
  rw [run_callFunc_extern Tryd.func19 (by kernel_rfl) (by kernel_rfl) (by kernel_rfl) (e := Extern.MathFloatBits.float32bits) (by kernel_rfl), f32bitsZ_run]
  simp only [Result.andThen]
  rw [Oper.upon_value]
  go_wp2
  go_ret
  exact ⟨rfl, rfl⟩
def SuRel (L : List (Nat × Nat)) (w : World) (m : Nat) (s i : Value) (wr : World) : Prop :=
  ∃ k n : Nat, k + m = L.length ∧ i = .int .i64 k ∧ s = .int .u32 n ∧ n = sumN (L.take k) ∧ n < 4294967296 ∧ wr = w
theorem su_take {L : List (Nat × Nat)} {k : Nat} (h : k < L.length) : sumN (L.take (k + 1)) = smN (smN (sumN (L.take k)) L[k].1) L[k].2 := by
  rw [List.take_add_one, List.getElem?_eq_getElem h]
  exact sumN_snoc _ _
set_option maxRecDepth 100000 in
set_option maxHeartbeats 4000000 in
theorem iSumPoints_c (a : Option Addr) (c : Nat) (L : List (Nat × Nat)) (w : World) (hl : L.length ≤ 1000000) (hS : ∀ q ∈ L, W32 q) (h : CSl a (L.map encW) w) : Calls Tryd.prog 26 #[.slice a L.length c] w fun e w' => e = .returned (.int .u32 (sumN L : Nat)) ∧ w = w' := by
  have HC := Lib.hid h
  have HS := Lib.hid hS
  have HT := Lib.hid (List.take_length (l := L))
  clear h hS
  go_enter Tryd.func26, Tryd.ntmps26
  go_wp2_with fail
  go_loopg [3, 5, 8] L.length (fun m s z i wr => SuRel L w m s i wr)
  case atStart => exact ⟨0, 2166136261, by omega, rfl, rfl, by rw [List.take_zero]; exact sumN_nil.symm, by omega, rfl⟩
  case round =>
    obtain ⟨k, n, hk, rfl, rfl, hn, hn2, rfl⟩ := hrel
    by_cases hlt : k < L.length
    · obtain ⟨g, o, rfl, c0⟩ := HC.out.at (k := k) (by rw [List.length_map]; exact hlt)
      rw [List.getElem_map] at c0
      have hb := HS.out L[k] (List.getElem_mem hlt)
      have hs := su_take hlt
      rw [← hn] at hs
      generalize L[k] = q at *
      have Lg : g < wr.heap.size := World.block_lt_of_cell? wr _ c0
      have H1 := Lib.hid (fun w => summed_c n q.1 w hn2 hb.1)
      have H2 := Lib.hid (fun w => summed_c (smN n q.1) q.2 w (smN_lt _ _) hb.2)
      have HL := Lib.hid (smN_lt (smN n q.1) q.2)
      have HR := Lib.hid hs
      clear hn hn2 hb hs
      generalize smN n q.1 = n1 at *
      generalize smN n1 q.2 = n2 at *
      go_wp2_with (first | (go_at_call 40; refine (H1.out _).mono ?_; rintro e w' ⟨rfl, rfl⟩) | (go_at_call 40; refine (H2.out _).mono ?_; rintro e w' ⟨rfl, rfl⟩))
      go_roundg (gk - 1)
      case measure => omega
      case rel => exact ⟨k + 1, n2, by omega, by go_num, rfl, HR.out.symm, HL.out, rfl⟩
    · obtain rfl : k = L.length := by omega
      rw [HT.out] at hn
      have HN := Lib.hid hn
      clear hn
      go_wp2_with fail
      go_ret
      exact ⟨congrArg (fun n : Nat => Ending.returned (.int .u32 (n : Int))) HN.out, rfl⟩
set_option maxRecDepth 100000 in
set_option maxHeartbeats 4000000 in
theorem sSumPoints_c (a : Option Addr) (c : Nat) (L : List (Nat × Nat)) (w : World) (hl : L.length ≤ 1000000) (hS : ∀ q ∈ L, W32 q) (h : CSl a (L.map encW) w) : Calls Tryd.prog 28 #[.slice a L.length c] w fun e w' => e = .returned (.int .u32 (sumN L : Nat)) ∧ w = w' := by
  have HC := Lib.hid h
  have HS := Lib.hid hS
  have HT := Lib.hid (List.take_length (l := L))
  clear h hS
  go_enter Tryd.func28, Tryd.ntmps28
  go_wp2_with fail
  go_loopg [3, 4] L.length (fun m s i wr => SuRel L w m s i wr)
  case atStart => exact ⟨0, 2166136261, by omega, rfl, rfl, by rw [List.take_zero]; exact sumN_nil.symm, by omega, rfl⟩
  case round =>
    obtain ⟨k, n, hk, rfl, rfl, hn, hn2, rfl⟩ := hrel
    by_cases hlt : k < L.length
    · obtain ⟨g, o, rfl, c0⟩ := HC.out.at (k := k) (by rw [List.length_map]; exact hlt)
      rw [List.getElem_map] at c0
      have hb := HS.out L[k] (List.getElem_mem hlt)
      have hs := su_take hlt
      rw [← hn] at hs
      generalize L[k] = q at *
      have Lg : g < wr.heap.size := World.block_lt_of_cell? wr _ c0
      have f1 := sm_wrap (h := n) (x := q.1) hn2 hb.1
      have f2 := sm_wrap (h := smN n q.1) (x := q.2) (smN_lt _ _) hb.2
      have HL := Lib.hid (smN_lt (smN n q.1) q.2)
      have HR := Lib.hid hs
      clear hn hn2 hb hs
      generalize smN n q.1 = n1 at *
      generalize smN n1 q.2 = n2 at *
      go_wp2
      rw [run_callFunc_extern Tryd.func19 (by kernel_rfl) (by kernel_rfl) (by kernel_rfl) (e := Extern.MathFloatBits.float32bits) (by kernel_rfl), f32bitsZ_run]
      simp only [Result.andThen]
      rw [Oper.upon_value]
      go_wp2
      rw [run_callFunc_extern Tryd.func19 (by kernel_rfl) (by kernel_rfl) (by kernel_rfl) (e := Extern.MathFloatBits.float32bits) (by kernel_rfl), f32bitsZ_run]
      simp only [Result.andThen]
      rw [Oper.upon_value]
      go_wp2
      go_roundg (gk - 1)
      case measure => omega
      case rel => exact ⟨k + 1, n2, by omega, by go_num, rfl, HR.out.symm, HL.out, rfl⟩
    · obtain rfl : k = L.length := by omega
      rw [HT.out] at hn
      have HN := Lib.hid hn
      clear hn
      go_wp2_with fail
      go_ret
      exact ⟨congrArg (fun n : Nat => Ending.returned (.int .u32 (n : Int))) HN.out, rfl⟩
end Go.Proofs.YtmdnfamjdogogaaDoor

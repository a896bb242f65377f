/- Chapter 1: primes, of both sides. -/
import Derived.Test.YtlcafjdinjdllaaGi
import Derived.LoopTactic
namespace Go.Proofs.Ytlcafjdinjdllaa
set_option linter.unusedSimpArgs false
set_option linter.unusedVariables false
open Go.RowKit

/-- none of the numbers from k on whose square is at most n divides n -/
def NoDiv (k n : Int) : Prop := ∀ d, k ≤ d → d * d ≤ n → ¬ n % d = 0
open Classical in
/-- prime among the whole numbers -/
noncomputable def primeB (n : Int) : Bool := decide (1 < n ∧ NoDiv 2 n)
theorem primeB_stop {k n : Int} (h : ∀ d, 2 ≤ d → d < k → ¬ n % d = 0) (hk : ¬ k * k ≤ n) (h2 : 2 ≤ k) : primeB n = decide (1 < n) := by
  unfold primeB
  rw [Bool.eq_iff_iff]
  simp only [decide_eq_true_eq]
  refine ⟨fun h => h.1, fun hn => ⟨hn, fun d hd hdd => ?_⟩⟩
  refine h d hd (Int.lt_of_not_ge fun hge => hk ?_)
  have := Int.mul_le_mul hge hge (by omega) (by omega)
  omega
theorem primeB_no {k n : Int} (h2 : 2 ≤ k) (hk : k * k ≤ n) (hd : n % k = 0) : primeB n = false := by
  unfold primeB
  simp only [decide_eq_false_iff_not]
  exact fun h => h.2 k h2 hk hd
theorem ret_bool {a b : Bool} (h : a = b) : Ending.returned (.bool a) = .returned (.bool b) := by rw [h]
theorem sq_bd {k : Int} (h : 2 ≤ k) (h' : k ≤ 10000001) : 4 ≤ k * k ∧ k * k ≤ 100000020000001 ∧ k ≤ k * k := by
  have h1 := mulK (x := k) (y := k) (a := 10000001) (b := 10000001) ⟨by omega, h'⟩ ⟨by omega, h'⟩
  have h2 := sq_ge k
  have h3 : 2 * k ≤ k * k := Int.mul_le_mul_of_nonneg_right h (by omega)
  omega

set_option maxHeartbeats 1000000 in
theorem l1Prime_c (n : Int) (w : World) (h0 : 0 ≤ n) (h1 : n ≤ 10000000) : Calls Try.prog 40 #[.int .i64 n] w fun e w' => e = .returned (.bool (primeB n)) ∧ w = w' := by
  go_enter Try.func40, Try.ntmps40
  go_wp2_with fail
  go_loop [3] (fun s => ∃ k : Int, s = .int .i64 k ∧ 2 ≤ k ∧ k ≤ 10000001 ∧ Hid (∀ d, 2 ≤ d → d < k → ¬ n % d = 0)) (fun s => (10000002 - intOf s).toNat)
  case atStart => exact ⟨2, rfl, by omega, by omega, fun d h1 h2 => by omega⟩
  case round =>
    obtain ⟨k, rfl, hk2, hkm, H⟩ := hrel
    obtain ⟨q1, q2, q3⟩ := sq_bd hk2 hkm
    by_cases hs : k * k ≤ n
    · by_cases hd : n % k = 0
      · have HP := Lib.hid (primeB_no hk2 hs hd)
        have hd' : (n % k == 0) = true := by simp [hd]
        clear hd
        go_wp2
        go_ret
        exact ⟨ret_bool HP.out.symm, rfl⟩
      · have hd' : (n % k == 0) = false := by simp [hd]
        have HD := Lib.hid hd
        clear hd
        go_wp2
        go_round
        case rel => exact ⟨k + 1, rfl, by omega, by omega, fun d h1 h2 => by
          by_cases e : d = k
          · subst e; exact HD.out
          · exact H.out d h1 (by omega)⟩
        case measure => simp [intOf]; omega
    · have HP := Lib.hid (primeB_stop H.out hs hk2)
      go_wp2
      go_ret
      exact ⟨ret_bool HP.out.symm, rfl⟩

set_option maxHeartbeats 1000000 in
theorem wholePrime_c (n : Int) (w : World) (h0 : 0 ≤ n) (h1 : n ≤ 10000000) : Calls Try.prog 37 #[.int .i64 n] w fun e w' => e = .returned (.bool (primeB n)) ∧ w = w' := by
  go_enter Try.func37, Try.ntmps37
  go_wp2_with fail
  go_loop [3] (fun s => ∃ k : Int, s = .int .i64 k ∧ 2 ≤ k ∧ k ≤ 10000001 ∧ Hid (∀ d, 2 ≤ d → d < k → ¬ n % d = 0)) (fun s => (10000002 - intOf s).toNat)
  case atStart => exact ⟨2, rfl, by omega, by omega, fun d h1 h2 => by omega⟩
  case round =>
    obtain ⟨k, rfl, hk2, hkm, H⟩ := hrel
    obtain ⟨q1, q2, q3⟩ := sq_bd hk2 hkm
    by_cases hs : k * k ≤ n
    · by_cases hd : n % k = 0
      · have HP := Lib.hid (primeB_no hk2 hs hd)
        have hd' : (n % k == 0) = true := by simp [hd]
        clear hd
        go_wp2
        go_ret
        exact ⟨ret_bool HP.out.symm, rfl⟩
      · have hd' : (n % k == 0) = false := by simp [hd]
        have HD := Lib.hid hd
        clear hd
        go_wp2
        go_round
        case rel => exact ⟨k + 1, rfl, by omega, by omega, fun d h1 h2 => by
          by_cases e : d = k
          · subst e; exact HD.out
          · exact H.out d h1 (by omega)⟩
        case measure => simp [intOf]; omega
    · have HP := Lib.hid (primeB_stop H.out hs hk2)
      go_wp2
      go_ret
      exact ⟨ret_bool HP.out.symm, rfl⟩
end Go.Proofs.Ytlcafjdinjdllaa

/- FnPointWide: whatever the code draws, the point in complex128 is that of the model, and with the point shifted by a place it is multiplied by the base; no condition. -/
import Derived.Test.YtlcafjdinjdllabPy
import Derived.Test.YtlcafjdinjdllabEx
import Derived.Test.YtlcafjdinjdllabSame
import Derived.Test.YtlcafjdinjdllabDrawQ
import Derived.Test.YtlcafjdinjdllabBaseP
import Derived.Test.YtlcafjdinjdllabBq
import Derived.Deep.Cut
namespace Go.Proofs.Ytlcafjdinjdllab
set_option linter.unusedSimpArgs false
set_option linter.unusedVariables false
open Go.ChangeShapes Go.WideShapes Go.ChangeAt Go.RowKit Go.Joins Ieee

def mvS (s : ByteArray) : ByteArray := s.extract 0 (atP s) ++ s.extract (atP s + 1) (atP s + 2) ++ ⟨#[46]⟩ ++ s.extract (atP s + 2) s.size
theorem mv_toL {s : ByteArray} (h : atP s < s.size) {c : UInt8} {l : List UInt8} (hT : toL (tlS s) = c :: l) : toL (mvS s) = (toL (hdS s) ++ [c]) ++ 46 :: l := by
  have e := split_at h
  have hl : (toL (hdS s)).length = atP s := by rw [toL_len, hdS_size]
  rw [hT] at e
  have e2 : toL s = (toL (hdS s) ++ [46]) ++ c :: l := by rw [e]; simp
  have hs : s.size = atP s + (l.length + 2) := by rw [← toL_len, e, List.length_append, hl]; simp
  unfold mvS
  rw [toL_app, toL_app, toL_app, toL_extract, toL_extract, toL_extract, List.drop_zero, List.take_of_length_le (i := s.size) (by rw [toL_len]; exact Nat.le_refl _)]
  have t1 : (toL s).take (atP s) = toL (hdS s) := (toL_hd s).symm
  have t2 : ((toL s).take (atP s + 2)).drop (atP s + 1) = [c] := by
    rw [e2, List.take_append, List.drop_append]
    have h1 : (toL (hdS s) ++ [46]).length = atP s + 1 := by rw [List.length_append, hl]; rfl
    rw [h1, List.take_of_length_le (by omega), List.drop_of_length_le (by omega), show atP s + 2 - (atP s + 1) = 1 by omega, h1, Nat.sub_self]
    rfl
  have t3 : (toL s).drop (atP s + 2) = l := by
    have h1 : (toL (hdS s) ++ [46]).length = atP s + 1 := by rw [List.length_append, hl]; rfl
    rw [e2, List.drop_append, h1, List.drop_of_length_le (by omega), show atP s + 2 - (atP s + 1) = 1 by omega]
    rfl
  rw [t1, t2, t3]
  simp [List.append_assoc]
  rfl
theorem shift_alg (E1 E2 X Y d P W : Int) : tb ((E2 - (E1 + d * P) + X * (P * 2)) * W, (-(E1 + d * P) - E2 + Y * (P * 2)) * W) = ((E1 + (-X - Y + d) * P) * (W * 2), (E2 + (X - Y) * P) * (W * 2)) := by
  unfold tb
  refine Prod.ext ?_ ?_
  · show -((E2 - (E1 + d * P) + X * (P * 2)) * W) - (-(E1 + d * P) - E2 + Y * (P * 2)) * W = (E1 + (-X - Y + d) * P) * (W * 2)
    grind
  · show (E2 - (E1 + d * P) + X * (P * 2)) * W - (-(E1 + d * P) - E2 + Y * (P * 2)) * W = (E2 + (X - Y) * P) * (W * 2)
    grind
theorem bound_of {E X : Int} {n B : Nat} (hE : E.natAbs ≤ n * 2 ^ n) (hX : X.natAbs ≤ B) : (E + X * 2 ^ n).natAbs ≤ (n + B) * 2 ^ n := by
  have h1 : (X * 2 ^ n).natAbs ≤ B * 2 ^ n := by rw [natAbs_pow]; exact Nat.mul_le_mul_right _ hX
  rw [Nat.add_mul]
  have := Int.natAbs_add_le E (X * 2 ^ n)
  omega
theorem bound53 {n B : Nat} (hn : n ≤ 45) (hB : n + B ≤ 200) : (n + B) * 2 ^ n < 2 ^ 53 := by
  have h1 : (n + B) * 2 ^ n ≤ 200 * 2 ^ 45 := Nat.mul_le_mul hB (Nat.pow_le_pow_right (by omega) hn)
  have h2 : 200 * 2 ^ 45 < 2 ^ 53 := by decide
  omega
theorem val_small {l : List UInt8} (hb : ∀ c ∈ l, bitC c = true) (hl : l.length ≤ 4) : (valX l).natAbs ≤ 15 ∧ (valY l).natAbs ≤ 15 := by
  have h := val_le l hb
  have h2 : 2 ^ l.length ≤ 2 ^ 4 := Nat.pow_le_pow_right (by omega) hl
  have e : (2 : Nat) ^ 4 = 16 := by decide
  omega
/-- what the shifted point is -/
theorem shift_ok {s : ByteArray} (h : ptB s = true) {c : UInt8} {l : List UInt8} (hT : toL (tlS s) = c :: l) (h4 : atP s ≤ 4) (h40 : (tlS s).size ≤ 40) :
    ∃ p : Int × Int, Vl2 .f64 (ptR .f64 s) (ptI .f64 s) p ∧ Okv2 .f64 (tb p) ∧ (ptB (mvS s) = true → Vl2 .f64 (ptR .f64 (mvS s)) (ptI .f64 (mvS s)) (tb p)) := by
  have hcut : cutB s = true := by unfold ptB at h; rw [Bool.and_eq_true] at h; exact h.1
  obtain ⟨c0, c1, c2, c3⟩ := cutB_facts hcut
  have hb := onlyB_bits c1
  rw [hT] at hb
  have hbl : ∀ c ∈ l, bitC c = true := fun x hx => hb x (List.mem_cons_of_mem _ hx)
  have hd := dg_bit (hb c (by simp))
  have hlen : l.length + 1 ≤ 40 := by rw [← toL_len, hT] at h40; simpa using h40
  have hbh := vldB_bits c2
  have hl4 : (toL (hdS s)).length ≤ 4 := by rw [toL_len, hdS_size]; exact h4
  obtain ⟨x15, y15⟩ := val_small hbh hl4
  obtain ⟨E1, E2⟩ := ev_le l hbl
  obtain ⟨F1, F2⟩ := ev_le (c :: l) hb
  simp only [List.length_cons] at F1 F2
  have hp := wh_ex hb (by simp only [List.length_cons]; omega) (X := valX (toL (hdS s))) (Y := valY (toL (hdS s))) (by omega) (by omega)
    (Nat.lt_of_le_of_lt (bound_of (B := 15) (n := l.length + 1) F1 x15) (bound53 (by omega) (by omega)))
    (Nat.lt_of_le_of_lt (bound_of (B := 15) (n := l.length + 1) F2 y15) (bound53 (by omega) (by omega)))
    (Nat.le_trans (bound_of (B := 15) (n := l.length + 1) F1 x15) (Nat.mul_le_mul_right _ (by omega)))
    (Nat.le_trans (bound_of (B := 15) (n := l.length + 1) F2 y15) (Nat.mul_le_mul_right _ (by omega)))
  have x31 : (-valX (toL (hdS s)) - valY (toL (hdS s)) + dg c).natAbs ≤ 31 := by omega
  have y31 : (valX (toL (hdS s)) - valY (toL (hdS s))).natAbs ≤ 31 := by omega
  have k1 := bound_of (B := 31) (n := l.length) E1 x31
  have k2 := bound_of (B := 31) (n := l.length) E2 y31
  have m1 := Nat.lt_of_le_of_lt k1 (bound53 (n := l.length) (B := 31) (by omega) (by omega))
  have m2 := Nat.lt_of_le_of_lt k2 (bound53 (n := l.length) (B := 31) (by omega) (by omega))
  have n1 := Nat.le_trans k1 (Nat.mul_le_mul_right (2 ^ l.length) (show l.length + 31 ≤ 2000000 by omega))
  have n2 := Nat.le_trans k2 (Nat.mul_le_mul_right (2 ^ l.length) (show l.length + 31 ≤ 2000000 by omega))
  have ealg := shift_alg (ev l).1 (ev l).2 (valX (toL (hdS s))) (valY (toL (hdS s))) (dg c) (2 ^ l.length) (2 ^ uu (l.length + 1))
  have ew : (2 : Int) ^ uu (l.length + 1) * 2 = 2 ^ uu l.length := by rw [uu_succ (n := l.length) (by omega), Int.pow_succ]
  rw [ew] at ealg
  have ep : (((ev (c :: l)).1 + valX (toL (hdS s)) * 2 ^ (l.length + 1)) * 2 ^ uu (l.length + 1), ((ev (c :: l)).2 + valY (toL (hdS s)) * 2 ^ (l.length + 1)) * 2 ^ uu (l.length + 1)) =
      (((ev l).2 - ((ev l).1 + dg c * 2 ^ l.length) + valX (toL (hdS s)) * (2 ^ l.length * 2)) * 2 ^ uu (l.length + 1), (-((ev l).1 + dg c * 2 ^ l.length) - (ev l).2 + valY (toL (hdS s)) * (2 ^ l.length * 2)) * 2 ^ uu (l.length + 1)) := by
    rw [Int.pow_succ]; rfl
  refine ⟨(((ev (c :: l)).1 + valX (toL (hdS s)) * 2 ^ (l.length + 1)) * 2 ^ uu (l.length + 1), ((ev (c :: l)).2 + valY (toL (hdS s)) * 2 ^ (l.length + 1)) * 2 ^ uu (l.length + 1)), ?_, ?_, ?_⟩
  · unfold ptR ptI
    rw [hT]
    exact hp
  · rw [ep, ealg]
    exact ⟨okn (by omega) m1 n1, okn (by omega) m2 n2⟩
  · intro hm
    have hmc : cutB (mvS s) = true := by unfold ptB at hm; rw [Bool.and_eq_true] at hm; exact hm.1
    have em := mv_toL c0 hT
    have hno : ∀ x ∈ toL (hdS s) ++ [c], x ≠ 46 := by
      intro x hx
      rcases List.mem_append.1 hx with hx | hx
      · exact nodot s x hx
      · rw [List.mem_singleton] at hx
        subst hx
        intro e
        have := hb 46 (by rw [e]; simp)
        cases this
    obtain ⟨-, -, q1, q2⟩ := cut_of em hno
    rw [ep, ealg]
    have hw := wh_ex hbl (by omega) (X := valX (toL (hdS s) ++ [c])) (Y := valY (toL (hdS s) ++ [c])) (by rw [valX_snoc]; omega) (by rw [valY_snoc]; omega)
      (by rw [valX_snoc]; exact m1) (by rw [valY_snoc]; exact m2) (by rw [valX_snoc]; exact n1) (by rw [valY_snoc]; exact n2)
    unfold ptR ptI
    rw [q1, q2]
    rw [valX_snoc, valY_snoc] at hw ⊢
    exact hw

theorem whR_lt {s : ByteArray} (h : ptB s = true) : ptR .f64 s < 18446744073709551616 := by
  have hcut : cutB s = true := by unfold ptB at h; rw [Bool.and_eq_true] at h; exact h.1
  have hi : inB 1000000 (valX (toL (hdS s))) (valY (toL (hdS s))) = true := by unfold ptB at h; rw [Bool.and_eq_true] at h; exact h.2
  obtain ⟨x1, x2, y1, y2⟩ := inB_le hi
  obtain ⟨a1, -, -⟩ := last_ops .f64 (cutB_facts hcut).2.2.2 ⟨x1, x2⟩ ⟨y1, y2⟩
  exact Format.add_lt _ a1
def shB (s : ByteArray) : Bool := decide ((atP s : Int) ≤ 4) && decide ((s.size : Int) - (atP s : Int) - 1 ≤ 40)
theorem short_c (s : ByteArray) (w : World) (hsz : s.size ≤ 2000000) : Calls Try.prog 23 #[.string s] w fun e w' => e = .returned (.bool (shB s)) ∧ w = w' := by
  go_enter Try.func23, Try.ntmps23
  go_wp2
  go_loopg [3] s.size (fun m v wr => AtRel s w m v wr)
  case atStart => exact ⟨0, by omega, by omega, rfl, rfl⟩
  case round =>
    obtain ⟨k, hk, ha, rfl, rfl⟩ := hrel
    have fin : atP s = k → shB s = (decide ((k : Int) ≤ 4) && decide ((s.size : Int) - (k : Int) - 1 ≤ 40)) := fun h => by unfold shB; rw [h]
    by_cases hlt : k < s.size
    · by_cases e46 : s[k].toNat = 46
      · have HF := Lib.hid (fin (atP_at ha hlt e46))
        have a1 : ((s[k].toNat : Int) != 46) = false := by simp [e46]
        clear e46 fin
        by_cases h4 : (k : Int) ≤ 4
        all_goals
          go_wp2
          go_ret
          exact ⟨by rw [HF.out]; first | (simp [h4]; done) | (rw [decide_eq_false (by omega)]; rfl), rfl⟩
      · have HS := atP_lt ha hlt e46
        have a1 : ((s[k].toNat : Int) != 46) = true := by simp; omega
        clear e46 fin
        go_wp2
        go_roundg (gk - 1)
        case measure => omega
        case rel => exact ⟨k + 1, by omega, HS, rfl, by go_num⟩
    · have HF := Lib.hid (fin (by have := atP_le s; omega))
      have hkk : k = s.size := by omega
      subst hkk
      clear fin
      by_cases h4 : (s.size : Int) ≤ 4
      all_goals
        go_wp2
        go_ret
        exact ⟨by rw [HF.out]; first | (simp [h4]; done) | (rw [decide_eq_false (by omega)]; rfl), rfl⟩
set_option maxHeartbeats 4000000 in
set_option maxRecDepth 10000 in
theorem lawPoWide_c (a : Option Addr) (len cap : Nat) (w : World) (hc : len ≤ 1048576 → Code (.slice a len cap) w) : Calls Try.prog 5 #[.slice a len cap] w fun e w' => e = .returned (.bool true) ∧ Below w.heap.size w w' := by
  by_cases hl : 1048576 < len
  · go_enter Try.func5, Try.ntmps5
    go_wp2_with fail
    go_ret
    exact ⟨rfl, by (repeat' (first | assumption | exact Below.refl _ _ | apply Blw.alloc | apply Blw.drew | apply Blw.drewN | (refine Blw.after ?_ (by assumption)) | (refine Blw.set ?_ (by first | (dsimp only; omega) | (simp; done) | (simp; omega)) _)))⟩
  · have hc' := hc (by omega)
    clear hc
    go_enter Try.func5, Try.ntmps5
    go_wp2_with fail
    refine (drawPlW_c _ w hc').mono ?_
    rintro e W1 ⟨s, rfl, ht, hb1⟩
    clear hc'
    have hsz : s.size ≤ 2000000 := by omega
    have HPI := Lib.hid (show ∀ t : ByteArray, t.size ≤ 2000000 → ∀ w, Calls Try.prog 13 #[.string t] w fun e w' => e = .returned (.tuple #[.complex .f64 (pickN (ptB t) (ptR .f64 t)) (pickN (ptB t) (ptI .f64 t)), .bool (ptB t)]) ∧ Below w.heap.size w w' from fun t ht w => iPointWide_c t w ht)
    have HPS := Lib.hid (show ∀ w, Calls Try.prog 21 #[.string s] w fun e w' => e = .returned (.tuple #[.complex .f64 (pickN (ptB s) (ptR .f64 s)) (pickN (ptB s) (ptI .f64 s)), .bool (ptB s)]) ∧ Below w.heap.size w w' from fun w => sPointWide_c s w hsz)
    rcases Bool.eq_false_or_eq_true (ptB s) with hp | hp
    · obtain ⟨o1, o2⟩ := pt_self (k := .f64) (pt_fin' .f64 hp)
      have hE := fun w => sameWide_c (ptR .f64 s) (ptI .f64 s) w o1 o2
      have hcut : cutB s = true := by unfold ptB at hp; rw [Bool.and_eq_true] at hp; exact hp.1
      obtain ⟨c0, -, -, -⟩ := cutB_facts hcut
      have HC0 := Lib.hid c0
      have HP1 := Lib.hid hp
      have HE := Lib.hid hE
      have O1 := Lib.hid o1
      have O2 := Lib.hid o2
      clear hcut c0 hp hE o1 o2
      go_wp2_with fail
      refine (HPI.out s hsz _).mono ?_
      rintro e W2 ⟨rfl, hb2⟩
      have B2 := Lib.hid (Blw.after hb1 hb2)
      clear hb2
      rw [HP1.out]
      go_wp2_with fail
      refine (HPS.out _).mono ?_
      rintro e W3 ⟨rfl, hb3⟩
      have B3 := Lib.hid (Blw.after B2.out hb3)
      clear hb3 B2
      rw [HP1.out]
      simp only [pickN, if_true]
      go_wp2_with (go_at_call 22; refine (HE.out _).mono ?_; rintro e w1 ⟨rfl, rfl⟩)
      have o1 := O1.out
      have o2 := O2.out
      have c0 := HC0.out
      go_loopg [8] s.size (fun m v wr => AtRel s W3 m v wr)
      case atStart => exact ⟨0, by omega, by omega, rfl, rfl⟩
      case round =>
        obtain ⟨k, hk, ha, rfl, rfl⟩ := hrel
        by_cases hlt : k < s.size
        · by_cases e46 : s[k].toNat = 46
          · have hA := Lib.hid (atP_at ha hlt e46)
            have a1 : ((s[k].toNat : Int) != 46) = false := by simp [e46]
            clear e46 hk ha c0
            have h0 : 0 < s.size := by omega
            rcases Bool.eq_false_or_eq_true (shB s) with hs | hs
            · by_cases he : k + 1 = s.size
              · have a2 : ((k : Int) + 1 == (s.size : Int)) = true := by simp; omega
                clear he
                have HS := Lib.hid hs
                clear hs
                go_wp2_with fail
                refine (short_c s _ hsz).mono ?_
                rintro e W4 ⟨rfl, rfl⟩
                rw [HS.out]
                go_wp2_with fail
                go_ret
                exact ⟨by simp [o1, o2], B3.out⟩
              · have a2 : ((k : Int) + 1 == (s.size : Int)) = false := by simp; omega
                by_cases h48 : s[0].toNat = 48
                · have a3 : ((s[0].toNat : Int) == 48) = true := by simp [h48]
                  clear he h48
                  have HS := Lib.hid hs
                  clear hs
                  go_wp2_with fail
                  refine (short_c s _ hsz).mono ?_
                  rintro e W4 ⟨rfl, rfl⟩
                  rw [HS.out]
                  go_wp2_with fail
                  go_ret
                  exact ⟨by simp [o1, o2], B3.out⟩
                · have a3 : ((s[0].toNat : Int) == 48) = false := by simp; omega
                  have hsb : k ≤ 4 ∧ s.size - (k + 1) ≤ 40 := by
                    have := hs
                    unfold shB at this
                    rw [hA.out] at this
                    simp at this
                    omega
                  have hts : (tlS s).size = s.size - (k + 1) := by rw [tlS_size, hA.out]
                  obtain ⟨c, l, hcl⟩ : ∃ c l, toL (tlS s) = c :: l := by
                    cases hq : toL (tlS s) with
                    | nil => have := congrArg List.length hq; rw [toL_len, hts] at this; simp at this; omega
                    | cons c l => exact ⟨c, l, rfl⟩
                  obtain ⟨p, p1, p2, p3⟩ := shift_ok HP1.out hcl (by rw [hA.out]; omega) (by omega)
                  obtain ⟨K1, hK1⟩ : ∃ K1, K1 = k + 1 := ⟨_, rfl⟩
                  obtain ⟨K2, hK2⟩ : ∃ K2, K2 = k + 2 := ⟨_, rfl⟩
                  have em : s.extract 0 k ++ s.extract K1 K2 ++ ⟨#[46]⟩ ++ s.extract K2 s.size = mvS s := by unfold mvS; rw [hA.out, hK1, hK2]
                  obtain ⟨q, hq⟩ : ∃ q, s.size = K2 + q := ⟨s.size - K2, by omega⟩
                  have x1 : (s.extract 0 k).size = k := by rw [ByteArray.size_extract]; omega
                  have x2 : (s.extract K1 K2).size = 1 := by rw [ByteArray.size_extract]; omega
                  have x3 : (s.extract K2 s.size).size = q := by rw [ByteArray.size_extract]; omega
                  have x4 : (s.extract 0 k ++ s.extract K1 K2).size = k + 1 := by rw [ByteArray.size_append, x1, x2]
                  have x5 : (s.extract 0 k ++ s.extract K1 K2 ++ ⟨#[46]⟩).size = k + 2 := by rw [ByteArray.size_append, x4]; rfl
                  have x6 : (mvS s).size ≤ 2000000 := by rw [← em, ByteArray.size_append, x5, x3]; omega
                  have n1 : ¬ (9223372036854775807 < k + 1) := by omega
                  have n2 : ¬ (9223372036854775807 < k + 1 + 1) := by omega
                  have n3 : ¬ (9223372036854775807 < k + 2 + q) := by omega
                  have i1 : (k : Int) + 1 = (K1 : Nat) := by omega
                  have i2 : (k : Int) + 2 = (K2 : Nat) := by omega
                  have w1 : IntKind.i64.wrap ((K1 : Nat) : Int) = (K1 : Nat) := IntWalk.i64_in _ (by omega)
                  have w2 : IntKind.i64.wrap ((K2 : Nat) : Int) = (K2 : Nat) := IntWalk.i64_in _ (by omega)
                  have y1 : K1 ≤ K2 := by omega
                  have y2 : K2 ≤ s.size := by omega
                  have y3 : k ≤ s.size := by omega
                  have y4 : K1 ≤ 2000000 := by omega
                  have HM := Lib.hid em
                  have HP2 := Lib.hid p2
                  have HP3 := Lib.hid p3
                  have HPP := Lib.hid p1
                  have HS := Lib.hid hs
                  have HR := Lib.hid (show ptR .f64 s < 18446744073709551616 from whR_lt HP1.out)
                  rw [i1] at a2
                  clear he h48 hs hsb hts hcl p1 p2 p3 hK1 hK2 hq em
                  go_wp2_with fail
                  refine (short_c s _ hsz).mono ?_
                  rintro e W4 ⟨rfl, rfl⟩
                  rw [HS.out]
                  go_upto_region 13 with fail
                  have hNE : ∀ w, Nonempty (BelowW w) := BelowW.none
                  refine wp_region_below (by kernel_rfl) (by kernel_rfl) ?_
                  repeat
                    (with_reducible refine wpQuiet_step ?_
                     intro K hK
                     go_simp
                     first
                       | (refine hK _ ?_; clear hK K)
                       | (apply Exists.intro
                          refine ⟨fun xW => ?_, hK _ ?_⟩
                          (fail)
                          clear hK K))
                  with_reducible refine wpQuiet_nil ?_
                  rintro _ ⟨⟨w2, hb2⟩, rfl⟩
                  try dsimp only
                  go_wp2_with fail
                  rw [HM.out]
                  refine (HPI.out (mvS s) x6 _).mono ?_
                  rintro e W5 ⟨rfl, hb5⟩
                  have B5 := Lib.hid (Blw.after (Blw.after B3.out hb2) hb5)
                  rcases Bool.eq_false_or_eq_true (ptB (mvS s)) with hm | hm
                  · rw [hm]
                    simp only [pickN, if_true]
                    go_wp2_with fail
                    refine (timesBase_c' (ptR .f64 s) (ptI .f64 s) 1 p _ (by omega) HPP.out HR.out (fun j hj => by have e : j = 0 := (by omega); rw [e]; exact HP2.out)).mono ?_
                    rintro e W6 ⟨r, i, rfl, ⟨v1, v2⟩, -, rfl⟩
                    obtain ⟨u1, u2⟩ := HP3.out hm
                    have g1 : FloatKind.f64.format.order (ptR .f64 (mvS s)) r = some .eq := vl_same u1 v1
                    have g2 : FloatKind.f64.format.order (ptI .f64 (mvS s)) i = some .eq := vl_same u2 v2
                    clear v1 v2 u1 u2
                    go_wp2_with fail
                    go_ret
                    exact ⟨by simp [g1, g2], B5.out⟩
                  · rw [hm]
                    go_wp2_with fail
                    go_ret
                    exact ⟨rfl, B5.out⟩
            · have HS := Lib.hid hs
              clear hs
              go_wp2_with fail
              refine (short_c s _ hsz).mono ?_
              rintro e W4 ⟨rfl, rfl⟩
              rw [HS.out]
              go_wp2_with fail
              go_ret
              exact ⟨by simp [o1, o2], B3.out⟩
          · have HS := atP_lt ha hlt e46
            have a1 : ((s[k].toNat : Int) != 46) = true := by simp; omega
            clear e46
            go_wp2
            go_roundg (gk - 1)
            case measure => omega
            case rel => exact ⟨k + 1, by omega, HS, rfl, by go_num⟩
        · exfalso; omega
    · have o1 : FloatKind.f64.format.order 0 0 = some .eq := by decide +kernel
      have HE := Lib.hid (fun w => sameWide_c 0 0 w o1 o1)
      have HP1 := Lib.hid hp
      clear hp o1
      go_wp2_with fail
      refine (HPI.out s hsz _).mono ?_
      rintro e W2 ⟨rfl, hb2⟩
      have B2 := Lib.hid (Blw.after hb1 hb2)
      clear hb2
      rw [HP1.out]
      go_wp2_with fail
      refine (HPS.out _).mono ?_
      rintro e W3 ⟨rfl, hb3⟩
      have B3 := Lib.hid (Blw.after B2.out hb3)
      clear hb3 B2
      rw [HP1.out]
      simp only [pickN, Bool.false_eq_true, if_false]
      go_wp2_with (go_at_call 22; refine (HE.out _).mono ?_; rintro e w1 ⟨rfl, rfl⟩)
      go_ret
      exact ⟨rfl, B3.out⟩

namespace lawFnPointWide
set_option maxRecDepth 100000 in
theorem lifted (os : Os) (started : os.Started) (H : Type) (enc : TypeId × Value → H) :
    ReturnsInHanded {} Try.checked os 5 .any (Rows.fnPointWideSpec.pre6 enc Try.prog Try.f5 Rows.fnPointWideRow.domain false) (Rows.fnPointWideSpec.post enc Try.prog Try.f5 false true false false) := by
  refine returnsInHanded_of_change (C := Try.checked) own started (by kernel_rfl) Try.func5
    (ChangeSpec.witness6 (enc := enc) (C := Try.checked) false ⟨#[], #[.slice none 0 0], []⟩ 8 (by kernel_rfl) (by kernel_rfl) (by kernel_rfl) (by kernel_rfl)) ?_
  intro W base args ds gs before hval0 hW _ _
  have hval : ∀ (j : Nat) t v, Try.f5.params[j]? = some t → args[j]? = some v → Value.okWide Try.prog W .any base t v := hval0
  have hW' := hW
  obtain ⟨p, q, hA0, hV, rfl, _, _⟩ := hW
  have hA : DataW.TrodAll enc Try.prog W 0 (fun _ => true) true Try.f5.params.toList args.toList ds p := hA0
  rw [Try.params5] at hA hval
  obtain ⟨v0, vs0, d0, ds0, p0, q0, hargs, rfl, rfl, h0, r0⟩ := trodAll_cons hA
  obtain ⟨rfl, rfl, rfl⟩ := trodAll_nil r0
  obtain rfl : args = #[v0] := by cases args; simp_all
  obtain ⟨rfl, rfl⟩ := trodVars_none hV
  obtain ⟨a, len, cap, rfl⟩ := okWide_slice Try.underlying22 (hval 0 22 v0 rfl rfl)
  clear hA0 hval0
  simp only [List.append_nil] at hW'
  have hlt : ∀ x ∈ p0, x.block < W.heap.size := fun x hx => by simpa using hW'.lt x hx
  refine (lawPoWide_c a len cap W (code_of h0)).mono fun e W' ⟨he, hg⟩ => ?_
  subst he
  have harg := Below.trod laidOut (by kernel_rfl) (of_decide_eq_true (by kernel_rfl)) h0 hg hlt
  refine ⟨_, rfl, _, _, _, [], p0, [], hW', ?_, ?_, ?_, hg.frame _, fun h => by cases h⟩
  · exact trodAll_cons_mk (shut_bool Try.underlying4 _) trodAll_mk0
  · exact trodAll_mk1 harg
  · rfl

theorem proved : Rows.FnPointWideSaid :=
  OpenClaim.holds_of_wide 5 Try.f5 rfl rfl rfl rfl rfl rfl rfl ⟨rfl, rfl, rfl, rfl, rfl⟩ rfl rfl rfl rfl rfl (by kernel_rfl) Try.func5 (by kernel_rfl)
    (of_decide_eq_true (by kernel_rfl)) (by unfold Func.isWrapper; first | (rw [if_pos (by decide +kernel)]; kernel_rfl) | (rw [if_neg (by decide +kernel)]; exact ⟨rfl, rfl⟩))
    (fun os started H enc _ => lifted os started H enc)
end lawFnPointWide
end Go.Proofs.Ytlcafjdinjdllab

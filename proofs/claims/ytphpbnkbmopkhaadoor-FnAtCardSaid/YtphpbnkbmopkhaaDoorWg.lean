/- Chapter 4: TurnAt, of both sides. No law is stated here. -/
import Derived.Test.YtphpbnkbmopkhaaDoorWd
namespace Go.Proofs.YtphpbnkbmopkhaaDoor
set_option linter.unusedSimpArgs false
set_option linter.unusedVariables false
open Go.RowKit

def atB (cs : ByteArray) (n : Int) : Bool := wdB 10 cs && inR 1 ((2 ^ cs.size - 1 : Nat) : Int) n
def atL (cs : ByteArray) (n : Int) : List UInt8 := [ltC (toL cs) (n.toNat - 1)]
abbrev atV (cs : ByteArray) (n : Int) : Value := strV (atB cs n) (atL cs n)
theorem atV_f {cs : ByteArray} {n : Int} (h : atB cs n = false) : atV cs n = .tuple #[.string ⟨#[]⟩, .bool false] := strV_f h _
theorem atB_word {cs : ByteArray} {n : Int} (h : wdB 10 cs = false) : atB cs n = false := by unfold atB; rw [h]; rfl
theorem atB_out {cs : ByteArray} {n : Int} (h : inR 1 ((2 ^ cs.size - 1 : Nat) : Int) n = false) : atB cs n = false := by unfold atB; rw [h]; simp
theorem atV_t {cs : ByteArray} {k : Nat} (h : wdB 10 cs = true) (hk : k + 1 < 2 ^ cs.size) : atV cs ((k : Int) + 1) = .tuple #[.string (bs [ltC (toL cs) k]), .bool true] := by
  have : atB cs ((k : Int) + 1) = true := by unfold atB inR; rw [h]; simp; omega
  rw [show atV cs ((k : Int) + 1) = _ from strV_t this _]
  unfold atL
  rw [show ((k : Int) + 1).toNat - 1 = k by omega]
theorem inR_cases {cs : ByteArray} {n : Int} (h : inR 1 ((2 ^ cs.size - 1 : Nat) : Int) n = true) : ∃ k : Nat, n = (k : Int) + 1 ∧ k + 1 < 2 ^ cs.size := by
  have hp := two_pos cs.size
  unfold inR at h
  simp only [Bool.and_eq_true, decide_eq_true_eq] at h
  exact ⟨(n - 1).toNat, by omega, by omega⟩
def SAtRel (J o : Nat) (w : World) (m : Nat) (iv jv : Value) (wr : World) : Prop :=
  ∃ k : Nat, k + m = J ∧ iv = .int .i64 ((2 ^ m * o : Nat) : Int) ∧ jv = .int .i64 k ∧ wr = w
set_option maxRecDepth 100000 in
set_option maxHeartbeats 2000000 in
theorem sTurnAt_c (cs : ByteArray) (n : Int) (w : World) : Calls Tryd.prog 16 #[.string cs, .int .i64 n] w fun e w' => e = .returned (atV cs n) ∧ w = w' := by
  rcases Bool.eq_false_or_eq_true (wdB 10 cs) with h | h
  · have h10 := wdB_len h
    obtain ⟨s1, s2, s3⟩ := shl_one h10
    have s4 : wrap64 (((2 ^ cs.size : Nat) : Int) - 1) = ((2 ^ cs.size : Nat) : Int) - 1 := by unfold wrap64; omega
    have hPm : ((2 ^ cs.size : Nat) : Int) - 1 = ((2 ^ cs.size - 1 : Nat) : Int) := by omega
    rcases Bool.eq_false_or_eq_true (inR 1 ((2 ^ cs.size - 1 : Nat) : Int) n) with hr | hr
    · obtain ⟨k, rfl, hk⟩ := inR_cases hr
      obtain ⟨J, o, e, ho⟩ := index_form (k + 1) (by omega)
      have H := Lib.hid (atV_t h hk)
      have hJ : J < cs.size := exp_lt ho (by omega)
      have hlt := ltC_at (cs := toL cs) e ho (by rw [toL_len]; exact hk) (wdB_all h)
      have ho2 : o < 1024 := by have := Nat.le_mul_of_pos_left o (two_pos J); omega
      have HX := Lib.hid (extract_one cs J hJ)
      have hg : (toL cs)[J]?.getD 0 = cs[J] := by rw [toL_get cs J hJ]; rfl
      have S0 := Lib.hid (show SAtRel J o w J (.int .i64 ((k : Int) + 1)) (.int .i64 0) w from ⟨0, by omega, by rw [← e]; rfl, rfl, rfl⟩)
      have hin : inR 1 ((2 ^ cs.size : Nat) - 1 : Int) ((k : Int) + 1) = true := by rw [hPm]; exact hr
      have hk2 : k < 1024 := by omega
      generalize hP : 2 ^ cs.size = P at *
      clear hr hP hPm
      go_enter Tryd.func16, Tryd.ntmps16
      go_wp2_with (first | (go_at_call 25; refine (l4Word_c _ 10 _ (by decide)).mono ?_; rintro e w1 ⟨rfl, rfl⟩) | (go_at_call 29; refine (l6In_c _ _ _ _).mono ?_; rintro e w1 ⟨rfl, rfl⟩))
      go_loopg [1, 6] J (fun m iv jv wr => SAtRel J o w m iv jv wr)
      case atStart => exact S0.out
      case round =>
        clear S0
        obtain ⟨i, hi, rfl, rfl, rfl⟩ := hrel
        rcases Nat.eq_zero_or_pos gk with h0 | h0
        · subst h0
          obtain rfl : i = J := by omega
          have e0 : ((2 ^ 0 * o : Nat) : Int) = (o : Int) := by simp
          rw [e0]
          have a0 : ((o : Int) % 2 == 0) = false := by simp; omega
          have z1 : i + 1 ≤ cs.size := by omega
          rcases (show o % 4 = 1 ∨ o % 4 = 3 by omega) with h4 | h4
          · have a1 : ((o : Int) % 4 == 1) = true := by simp; omega
            have HT := Lib.hid (show cs.extract i (i + 1) = bs [ltC (toL cs) k] from toL_ext (by rw [HX.out, toL_bs, hlt]; unfold turnV; rw [if_pos h4, hg]))
            clear h4 hlt hg e ho h
            go_wp2
            go_ret2
            exact ⟨by rw [H.out, ← HT.out]; rfl, rfl⟩
          · have a1 : ((o : Int) % 4 == 1) = false := by simp; omega
            have HT := Lib.hid (show ltC (toL cs) k = oth cs[i] by rw [hlt]; unfold turnV; rw [if_neg (by omega), hg])
            clear h4 hlt hg e ho h
            go_wp2_with (first | (go_at_call 30; refine (sOther_c _ _ _ HX.out).mono ?_; rintro e w1 ⟨rfl, rfl⟩))
            go_ret2
            exact ⟨by rw [H.out, HT.out]; rfl, rfl⟩
        · obtain ⟨m, rfl⟩ : ∃ m, gk = m + 1 := ⟨gk - 1, by omega⟩
          have e1 : ((2 ^ (m + 1) * o : Nat) : Int) = 2 * ((2 ^ m * o : Nat) : Int) := by
            rw [Nat.pow_succ, Nat.mul_right_comm]; push_cast; omega
          have hb : 2 ^ m * o < 1024 := by
            have h1 : 2 ^ (m + 1) ≤ 2 ^ J := Nat.pow_le_pow_right (by omega) (by omega)
            have h2 := Nat.mul_le_mul_right o h1
            rw [← e, Nat.pow_succ, Nat.mul_right_comm] at h2
            omega
          have HM := Lib.hid (show 2 ^ m * o = 2 ^ m * o from rfl)
          rw [e1]
          generalize hM : 2 ^ m * o = M at *
          have a0 : ((2 * (M : Int)) % 2 == 0) = true := by simp
          have a2 : (2 * (M : Int)).tdiv 2 = (M : Int) := by rw [Int.tdiv_eq_ediv_of_nonneg (by omega)]; omega
          have a3 : (2 * (M : Int)) / 2 = (M : Int) := by omega
          have HMM := Lib.hid hM
          clear hM hlt hg e ho h e1 HM
          go_wp2
          go_roundg m
          case measure => omega
          case rel => exact ⟨i + 1, by omega, by rw [HMM.out], by go_num, rfl⟩
    · have H := Lib.hid (atV_f (atB_out hr))
      have hin : inR 1 ((2 ^ cs.size : Nat) - 1 : Int) n = false := by rw [hPm]; exact hr
      generalize hP : 2 ^ cs.size = P at *
      clear hr hP hPm
      go_enter Tryd.func16, Tryd.ntmps16
      go_wp2_with (first | (go_at_call 25; refine (l4Word_c _ 10 _ (by decide)).mono ?_; rintro e w1 ⟨rfl, rfl⟩) | (go_at_call 29; refine (l6In_c _ _ _ _).mono ?_; rintro e w1 ⟨rfl, rfl⟩))
      go_ret2
      exact ⟨by rw [H.out]; rfl, rfl⟩
  · have H := Lib.hid (atV_f (n := n) (atB_word h))
    go_enter Tryd.func16, Tryd.ntmps16
    go_wp2_with (first | (go_at_call 25; refine (l4Word_c _ 10 _ (by decide)).mono ?_; rintro e w1 ⟨rfl, rfl⟩) | (go_at_call 29; refine (l6In_c _ _ _ _).mono ?_; rintro e w1 ⟨rfl, rfl⟩))
    go_ret2
    exact ⟨by rw [H.out]; rfl, rfl⟩
set_option maxRecDepth 100000 in
set_option maxHeartbeats 2000000 in
theorem iTurnAt_c (cs : ByteArray) (n : Int) (w : World) (hT : Tz w) : Calls Tryd.prog 15 #[.string cs, .int .i64 n] w fun e w' => e = .returned (atV cs n) ∧ Below w.heap.size w w' := by
  have HT := Lib.hid hT
  have h6 := hT.pos
  clear hT
  rcases Bool.eq_false_or_eq_true (wdB 10 cs) with h | h
  · have h10 := wdB_len h
    rcases Bool.eq_false_or_eq_true (inR 1 ((2 ^ cs.size - 1 : Nat) : Int) n) with hr | hr
    · obtain ⟨k, rfl, hk⟩ := inR_cases hr
      have H := Lib.hid (atV_t h hk)
      have HL := Lib.hid (fun w (hT : Tz w) => turnLet_c cs k w hT h hk)
      have HC := Lib.hid (fun w => count_c cs w h10)
      have hPk : k < 2 ^ cs.size - 1 := by omega
      have hk2 : 2 ^ cs.size ≤ 1024 := (shl_one h10).2.2
      generalize hP : 2 ^ cs.size - 1 = P at *
      have hP3 : P ≤ 1023 := by omega
      clear hr hP hk
      go_enter Tryd.func15, Tryd.ntmps15
      go_wp2_with (first | (go_at_call 22; refine (areCreases_c _ _).mono ?_; rintro e w1 ⟨rfl, hb⟩; obtain ⟨hc, hf⟩ := bcell hb; have hz := bsize hb; have hs := hb.size; try simp at hs) | (go_at_call 23; refine (HC.out _).mono ?_; rintro e w' ⟨rfl, rfl⟩))
      have HT1 := Lib.hid (HT.out.keep h6 hb)
      refine (HL.out _ HT1.out).mono ?_
      rintro e w2 ⟨rfl, rfl⟩
      have hcv := conv_row (w := w1.alloc (.cells #[.int .u8 ((ltC (toL cs) k).toNat : Int)] 5)) (l := [ltC (toL cs) k]) (B := w1.heap.size) (World.ownsRow_lit w1 #[.int .u8 ((ltC (toL cs) k).toNat : Int)] 1 (Nat.le_refl _) (by unfold maxLen; omega) rfl)
      go_wp2_with fail
      go_ret2
      exact ⟨by rw [H.out]; rfl, by (repeat' (first | assumption | exact Below.refl _ _ | apply Blw.alloc | apply Blw.drew | apply Blw.drewN | (refine Blw.after ?_ (by assumption)) | (refine Blw.set ?_ (by first | (dsimp only; omega) | (simp; done) | (simp; omega)) _)))⟩
    · have H := Lib.hid (atV_f (atB_out hr))
      have HC := Lib.hid (fun w => count_c cs w h10)
      have hk2 : 2 ^ cs.size ≤ 1024 := (shl_one h10).2.2
      have hc : n < 1 ∨ ¬ n < 1 ∧ ((2 ^ cs.size - 1 : Nat) : Int) < n := by
        unfold inR at hr
        simp only [Bool.and_eq_false_iff, decide_eq_false_iff_not] at hr
        omega
      generalize hP : 2 ^ cs.size - 1 = P at *
      clear hr hP
      rcases hc with hc | ⟨hc1, hc⟩
      all_goals
        go_enter Tryd.func15, Tryd.ntmps15
        go_wp2_with (first | (go_at_call 22; refine (areCreases_c _ _).mono ?_; rintro e w1 ⟨rfl, hb⟩; obtain ⟨hc, hf⟩ := bcell hb; have hz := bsize hb; have hs := hb.size; try simp at hs) | (go_at_call 23; refine (HC.out _).mono ?_; rintro e w' ⟨rfl, rfl⟩))
        go_ret2
        exact ⟨by rw [H.out]; rfl, by (repeat' (first | assumption | exact Below.refl _ _ | apply Blw.alloc | apply Blw.drew | apply Blw.drewN | (refine Blw.after ?_ (by assumption)) | (refine Blw.set ?_ (by first | (dsimp only; omega) | (simp; done) | (simp; omega)) _)))⟩
  · have H := Lib.hid (atV_f (n := n) (atB_word h))
    go_enter Tryd.func15, Tryd.ntmps15
    go_wp2_with (first | (go_at_call 22; refine (areCreases_c _ _).mono ?_; rintro e w1 ⟨rfl, hb⟩; obtain ⟨hc, hf⟩ := bcell hb; have hz := bsize hb; have hs := hb.size; try simp at hs))
    go_ret2
    exact ⟨by rw [H.out]; rfl, by (repeat' (first | assumption | exact Below.refl _ _ | apply Blw.alloc | apply Blw.drew | apply Blw.drewN | (refine Blw.after ?_ (by assumption)) | (refine Blw.set ?_ (by first | (dsimp only; omega) | (simp; done) | (simp; omega)) _)))⟩
end Go.Proofs.YtphpbnkbmopkhaaDoor

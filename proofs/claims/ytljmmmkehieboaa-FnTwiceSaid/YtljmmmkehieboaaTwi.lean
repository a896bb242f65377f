/- Chapter 5: CurveTwice, of both sides. No law is stated here. -/
import Derived.Test.YtljmmmkehieboaaTw
namespace Go.Proofs.Ytljmmmkehieboaa
set_option linter.unusedSimpArgs false
set_option linter.unusedVariables false
open Go.RowKit Ieee

noncomputable def twI (L : List SZ) : Int := if pathZ L = true then ttl (L.map val) else 0
noncomputable abbrev twV2 (L : List SZ) : Value := .tuple #[.int .i64 (twI L), .bool (pathZ L)]
theorem twV2_t {L : List SZ} (h : pathZ L = true) : twV2 L = .tuple #[.int .i64 (ttl (L.map val)), .bool true] := by unfold twV2 twI; rw [if_pos h, h]
theorem twV2_f {L : List SZ} (h : pathZ L = false) : twV2 L = .tuple #[.int .i64 0, .bool false] := by unfold twV2 twI; rw [h]; rfl
def tI (Z : List (Int × Int)) : Nat → Int
  | 0 => 0
  | k + 1 => crs (zg Z (Z.length - 1)) (zg Z 0) + opn Z k
def lI (Z : List (Int × Int)) : Nat → Int × Int
  | 0 => zg Z (Z.length - 1)
  | k + 1 => zg Z k
theorem tI_succ (Z : List (Int × Int)) (k : Nat) : tI Z (k + 1) = tI Z k + crs (lI Z k) (zg Z k) := by
  cases k with
  | zero => show crs (zg Z (Z.length - 1)) (zg Z 0) + 0 = 0 + crs (zg Z (Z.length - 1)) (zg Z 0); omega
  | succ k => show crs (zg Z (Z.length - 1)) (zg Z 0) + (opn Z k + crs (zg Z k) (zg Z (k + 1))) = crs (zg Z (Z.length - 1)) (zg Z 0) + opn Z k + crs (zg Z k) (zg Z (k + 1)); omega
theorem tI_end {Z : List (Int × Int)} (h : 1 ≤ Z.length) : tI Z Z.length = ttl Z := by
  obtain ⟨n, hn⟩ : ∃ n, Z.length = n + 1 := ⟨Z.length - 1, by omega⟩
  unfold ttl
  rw [hn]
  show crs (zg Z (Z.length - 1)) (zg Z 0) + opn Z n = _
  rw [hn, Nat.add_sub_cancel]; omega
theorem lI_in {Z : List (Int × Int)} (h : ∀ z ∈ Z, Bp 400 z) (k : Nat) : Bp 400 (lI Z k) := by
  cases k with
  | zero => exact zg_in h _
  | succ k => exact zg_in h _
theorem crs_abs {a b : Int × Int} (ha : Bp 400 a) (hb : Bp 400 b) : (crs a b).natAbs ≤ 320000 := by
  have := crs_in ha hb
  unfold crs; omega
theorem tI_in {Z : List (Int × Int)} (h : ∀ z ∈ Z, Bp 400 z) (k : Nat) : (tI Z k).natAbs ≤ 320000 * (k + 1) := by
  cases k with
  | zero => simp [tI]
  | succ k =>
    have h1 := crs_abs (zg_in h (Z.length - 1)) (zg_in h 0)
    have h2 := opn_in h k
    have e : tI Z (k + 1) = crs (zg Z (Z.length - 1)) (zg Z 0) + opn Z k := rfl
    rw [e]; omega
def ItRel (Z : List (Int × Int)) (w : World) (m : Nat) (x l i : Value) (wr : World) : Prop :=
  ∃ k : Nat, k + m = Z.length ∧ i = .int .i64 k ∧ x = .int .i64 (tI Z k) ∧ l = encP (lI Z k) ∧ wr = w
set_option maxRecDepth 100000 in
set_option maxHeartbeats 4000000 in
theorem iCurveTwice_c (a : Option Addr) (c : Nat) (L : List SZ) (w : World) (hl : L.length ≤ 1000000) (hS : ∀ q ∈ L, Bq 400 q) (h : CSl a (L.map encZ) w) : Calls Try.prog 35 #[.slice a L.length c] w fun e w' => e = .returned (twV2 L) ∧ Below w.heap.size w w' := by
  have HP := Lib.hid (iCurvePath_c a c L w hl hS h)
  rcases Bool.eq_false_or_eq_true (pathZ L) with hp | hp
  · have H := Lib.hid (twV2_t hp)
    have hP := pathZ_iff.1 hp
    have HZB := Lib.hid (val_map_bp hS)
    have hcz : CSl a ((L.map val).map encP) w := by rw [← enc_of hP]; exact h
    have hzl : (L.map val).length = L.length := by rw [List.length_map]
    have h1 := hP.1
    have h2 := hP.2.1
    rw [hp] at HP
    generalize L.map val = Z at *
    obtain ⟨g, o, rfl, hg, hcell⟩ := cs_at hcz (by omega)
    have HCL := Lib.hid hcell
    have hlast := hcell (Z.length - 1) (by omega)
    rw [← zg_get (by omega)] at hlast
    obtain ⟨n1, hn1⟩ : ∃ n1, n1 = Z.length - 1 := ⟨_, rfl⟩
    have e1 : ((L.length : Nat) : Int) - 1 = (n1 : Nat) := by omega
    have e2 : n1 < L.length := by omega
    have HL0 := Lib.hid (show lI Z 0 = zg Z n1 from by rw [hn1]; rfl)
    rw [← hn1] at hlast
    clear hP hp hcz hcell hS h hn1
    go_enter Try.func35, Try.ntmps35
    go_wp2_with fail
    refine HP.out.mono ?_
    rintro e w1 ⟨rfl, hb⟩
    have HB1 := Lib.hid hb
    have hl1 := keepcell hb hlast
    clear hb HP hlast
    go_wp2_with fail
    go_loopg [4, 5, 7, 19] Z.length (fun m x l z i wr => ItRel Z w1 m x l i wr)
    case atStart => exact ⟨0, by omega, rfl, rfl, by rw [HL0.out], rfl⟩
    case round =>
      obtain ⟨k, hk, rfl, rfl, rfl, rfl⟩ := hrel
      by_cases hlt : k < Z.length
      · have c0 := keepcell HB1.out (HCL.out k hlt)
        rw [← zg_get hlt] at c0
        have lk : k < L.length := by omega
        have hz := zg_in HZB.out k
        have hli := lI_in HZB.out k
        have HA := Lib.hid (fun w => across_c (lI Z k) (zg Z k) w hli hz)
        have b1 := tI_in HZB.out k
        have b2 := crs_abs hli hz
        have HT := Lib.hid (tI_succ Z k)
        have HL1 := Lib.hid (show lI Z (k + 1) = zg Z k from rfl)
        have q1 : -400000000 ≤ tI Z k ∧ tI Z k ≤ 400000000 := by omega
        have q2 : -400000 ≤ crs (lI Z k) (zg Z k) ∧ crs (lI Z k) (zg Z k) ≤ 400000 := by omega
        obtain ⟨q3, q4⟩ := q1
        obtain ⟨q5, q6⟩ := q2
        clear hz hli b1 b2 hl1
        generalize crs (lI Z k) (zg Z k) = cr at *
        generalize lI Z k = lz at *
        generalize zg Z k = z at *
        generalize tI Z k = tk at *
        go_wp2_with (first | (go_at_call 54; refine (HA.out _).mono ?_; rintro e w1 ⟨rfl, rfl⟩))
        go_roundg (gk - 1)
        case measure => omega
        case rel => exact ⟨k + 1, by omega, by go_num, by rw [HT.out], by rw [HL1.out], rfl⟩
      · obtain rfl : k = Z.length := by omega
        have HE := Lib.hid (tI_end (Z := Z) (by omega))
        generalize tI Z Z.length = tt at *
        clear hl1
        go_wp2_with fail
        go_ret2
        exact ⟨by rw [H.out, ← HE.out]; rfl, HB1.out⟩
  · have H := Lib.hid (twV2_f hp)
    rw [hp] at HP
    clear hS h
    go_enter Try.func35, Try.ntmps35
    go_wp2_with fail
    refine HP.out.mono ?_
    rintro e w1 ⟨rfl, hb⟩
    go_wp2_with fail
    go_ret2
    exact ⟨by rw [H.out]; rfl, hb⟩
def tS (Z : List (Int × Int)) (k : Nat) : Int := if k < Z.length then opn Z k else ttl Z
theorem tS_step {Z : List (Int × Int)} {k j : Nat} (hk : k < Z.length) (hj : (k + 1 < Z.length ∧ j = k + 1) ∨ (k + 1 = Z.length ∧ j = 0)) : tS Z (k + 1) = opn Z k + crs (zg Z k) (zg Z j) := by
  unfold tS
  rcases hj with ⟨h1, rfl⟩ | ⟨h1, rfl⟩
  · rw [if_pos h1]; rfl
  · rw [if_neg (by omega)]
    unfold ttl
    rw [show Z.length - 1 = k by omega]
def StRel2 (Z : List (Int × Int)) (w : World) (m : Nat) (x i : Value) (wr : World) : Prop :=
  ∃ k : Nat, k + m = Z.length ∧ i = .int .i64 k ∧ x = .int .i64 (tS Z k) ∧ wr = w
set_option maxRecDepth 100000 in
set_option maxHeartbeats 4000000 in
theorem sCurveTwice_c (a : Option Addr) (c : Nat) (L : List SZ) (w : World) (hl : L.length ≤ 1000000) (hS : ∀ q ∈ L, Bq 400 q) (h : CSl a (L.map encZ) w) : Calls Try.prog 36 #[.slice a L.length c] w fun e w' => e = .returned (twV2 L) ∧ Below w.heap.size w w' := by
  have HP := Lib.hid (sCurvePath_c a c L w hl hS h)
  rcases Bool.eq_false_or_eq_true (pathZ L) with hp | hp
  · have H := Lib.hid (twV2_t hp)
    have hP := pathZ_iff.1 hp
    have HZB := Lib.hid (val_map_bp hS)
    have hcz : CSl a ((L.map val).map encP) w := by rw [← enc_of hP]; exact h
    have hzl : (L.map val).length = L.length := by rw [List.length_map]
    have h1 := hP.1
    have h2 := hP.2.1
    rw [hp] at HP
    generalize L.map val = Z at *
    obtain ⟨g, o, rfl, hg, hcell⟩ := cs_at hcz (by omega)
    have HCL := Lib.hid hcell
    clear hP hp hcz hcell hS h
    go_enter Try.func36, Try.ntmps36
    go_wp2_with fail
    refine HP.out.mono ?_
    rintro e w1 ⟨rfl, hb⟩
    have HB1 := Lib.hid hb
    clear hb HP
    go_wp2_with fail
    go_loopg [4, 5, 6, 7] Z.length (fun m x i z1 z2 wr => StRel2 Z w1 m x i wr)
    case atStart => exact ⟨0, by omega, rfl, by unfold tS; rw [if_pos (by omega)]; rfl, rfl⟩
    case round =>
      obtain ⟨k, hk, rfl, rfl, rfl⟩ := hrel
      by_cases hlt : k < Z.length
      · obtain ⟨j, hj⟩ : ∃ j, (k + 1 < Z.length ∧ j = k + 1) ∨ (k + 1 = Z.length ∧ j = 0) := by
          by_cases h : k + 1 < Z.length
          · exact ⟨k + 1, Or.inl ⟨h, rfl⟩⟩
          · exact ⟨0, Or.inr ⟨by omega, rfl⟩⟩
        have HJ := Lib.hid (tS_step hlt hj)
        have hjl : j < Z.length := by omega
        have hmod : ((k : Int) + 1).tmod (L.length : Nat) = (j : Nat) := by
          rw [Int.tmod_eq_emod_of_nonneg (by omega), hzl.symm]
          rcases hj with ⟨h1, rfl⟩ | ⟨h1, rfl⟩
          · rw [Int.emod_eq_of_lt (by omega) (by omega)]; omega
          · rw [show (k : Int) + 1 = (Z.length : Nat) by omega, Int.emod_self]; rfl
        have c0 := keepcell HB1.out (HCL.out k hlt)
        have c1 := keepcell HB1.out (HCL.out j hjl)
        rw [← zg_get hlt] at c0
        rw [← zg_get hjl] at c1
        have lk : k < L.length := by omega
        have lj : j < L.length := by omega
        have ha := zg_in HZB.out k
        have hb := zg_in HZB.out j
        have b1 := opn_in HZB.out k
        have ht : tS Z k = opn Z k := by unfold tS; rw [if_pos hlt]
        rw [ht]
        obtain ⟨p1, p2⟩ := crs_in ha hb
        have f1 := fun w => toInt_run (a := (zg Z k).1) (Nat.le_trans ha.1 (by omega)) w
        have f2 := fun w => toInt_run (a := (zg Z k).2) (Nat.le_trans ha.2 (by omega)) w
        have f3 := fun w => toInt_run (a := (zg Z j).1) (Nat.le_trans hb.1 (by omega)) w
        have f4 := fun w => toInt_run (a := (zg Z j).2) (Nat.le_trans hb.2 (by omega)) w
        change ∀ w, (convert _ _ (.float .f32 (px (zg Z k)))).run _ w = _ at f1
        change ∀ w, (convert _ _ (.float .f32 (py (zg Z k)))).run _ w = _ at f2
        change ∀ w, (convert _ _ (.float .f32 (px (zg Z j)))).run _ w = _ at f3
        change ∀ w, (convert _ _ (.float .f32 (py (zg Z j)))).run _ w = _ at f4
        have m1 : IntKind.i64.wrap ((zg Z k).1 * (zg Z j).2) = (zg Z k).1 * (zg Z j).2 := IntWalk.i64_in _ (by omega)
        have m2 : IntKind.i64.wrap ((zg Z k).2 * (zg Z j).1) = (zg Z k).2 * (zg Z j).1 := IntWalk.i64_in _ (by omega)
        have HJ2 := Lib.hid (show tS Z (k + 1) = opn Z k + (zg Z k).1 * (zg Z j).2 - (zg Z k).2 * (zg Z j).1 from by rw [HJ.out]; unfold crs; omega)
        have q1 : -400000000 ≤ opn Z k ∧ opn Z k ≤ 400000000 := by omega
        have q2 : -400000 ≤ (zg Z k).1 * (zg Z j).2 ∧ (zg Z k).1 * (zg Z j).2 ≤ 400000 := by omega
        have q3 : -400000 ≤ (zg Z k).2 * (zg Z j).1 ∧ (zg Z k).2 * (zg Z j).1 ≤ 400000 := by omega
        obtain ⟨q4, q5⟩ := q1
        obtain ⟨q6, q7⟩ := q2
        obtain ⟨q8, q9⟩ := q3
        have m3 : IntKind.i64.wrap (opn Z k + (zg Z k).1 * (zg Z j).2) = opn Z k + (zg Z k).1 * (zg Z j).2 := IntWalk.i64_in _ (by omega)
        have m4 : IntKind.i64.wrap (opn Z k + (zg Z k).1 * (zg Z j).2 - (zg Z k).2 * (zg Z j).1) = opn Z k + (zg Z k).1 * (zg Z j).2 - (zg Z k).2 * (zg Z j).1 := IntWalk.i64_in _ (by omega)
        clear ha hb b1 p1 p2 HJ ht hj
        generalize opn Z k = so at *
        generalize zg Z k = za at *
        generalize zg Z j = zb at *
        go_wp2_with fail
        go_roundg (gk - 1)
        case measure => omega
        case rel => exact ⟨k + 1, by omega, by go_num, by rw [HJ2.out], rfl⟩
      · obtain rfl : k = Z.length := by omega
        have HE := Lib.hid (show tS Z Z.length = ttl Z from by unfold tS; rw [if_neg (by omega)])
        generalize tS Z Z.length = tt at *
        go_wp2_with fail
        go_ret2
        exact ⟨by rw [H.out, ← HE.out]; rfl, HB1.out⟩
  · have H := Lib.hid (twV2_f hp)
    rw [hp] at HP
    clear hS h
    go_enter Try.func36, Try.ntmps36
    go_wp2_with fail
    refine HP.out.mono ?_
    rintro e w1 ⟨rfl, hb⟩
    go_wp2_with fail
    go_ret2
    exact ⟨by rw [H.out]; rfl, hb⟩
end Go.Proofs.Ytljmmmkehieboaa

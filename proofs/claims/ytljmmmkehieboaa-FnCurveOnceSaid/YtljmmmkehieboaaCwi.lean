/- Chapter 5: CurveWord, of both sides. No law is stated here. -/
import Derived.Test.YtljmmmkehieboaaCwd
import Derived.Deep.Cut
namespace Go.Proofs.Ytljmmmkehieboaa
set_option linter.unusedSimpArgs false
set_option linter.unusedVariables false
open Go.RowKit Ieee

theorem infoB2 : (Try.prog.info? 5).map (fun i => (i.zero, i.size, i.bytes)) = some (some (.int .u8 0), 1, 1) := infoB
def CwRel (Z : List (Int × Int)) (o : Nat) (w : World) (m : Nat) (v i : Value) (wr : World) : Prop :=
  ∃ (k : Nat) (l : List UInt8), k + m + 2 = Z.length ∧ i = .int .i64 ((k + o : Nat) : Int) ∧ ltrs Z k = some l ∧ wr.ownsRow w.heap.size 5 1 v k (l.map encB) ∧ Below w.heap.size w wr
theorem cs_at {a : Option Addr} {Z : List (Int × Int)} {w : World} (h : CSl a (Z.map encP) w) (hz : 0 < Z.length) : ∃ g o, a = some ⟨g, o, none⟩ ∧ g < w.heap.size ∧ ∀ k, (hk : k < Z.length) → w.cell? ⟨g, o + k, none⟩ = some (encP Z[k]) := by
  rcases h with h0 | ⟨g, o, rfl, hc⟩
  · rw [List.map_eq_nil_iff] at h0; rw [h0] at hz; simp at hz
  · have hc' : ∀ k, (hk : k < Z.length) → w.cell? ⟨g, o + k, none⟩ = some (encP Z[k]) := fun k hk => hc k _ (by rw [List.getElem?_map, List.getElem?_eq_getElem hk]; rfl)
    exact ⟨g, o, rfl, World.block_lt_of_cell? w _ (hc' 0 hz), hc'⟩
set_option maxRecDepth 100000 in
set_option maxHeartbeats 4000000 in
theorem iCurveWord_c (a : Option Addr) (c : Nat) (L : List SZ) (w : World) (hl : L.length ≤ 1000000) (hcap : L.length ≤ c) (hS : ∀ q ∈ L, Bq 400 q) (h : CSl a (L.map encZ) w) : Calls Try.prog 15 #[.slice a L.length c] w fun e w' => e = .returned (cwV (cwO L)) ∧ Below w.heap.size w w' := by
  obtain ⟨i0, hi, hz0, hz1, hz2⟩ := info_parts infoB2
  have HC := Lib.hid h
  have HP := Lib.hid (iCurvePath_c a c L w hl hS h)
  clear h
  rcases Bool.eq_false_or_eq_true (pathZ L) with hp | hp
  · rw [hp] at HP
    by_cases h2 : L.length < 2
    · have H := Lib.hid (congrArg cwV (cwO_short h2))
      have x2 : ((L.length : Nat) : Int) < 2 := by omega
      clear h2
      go_enter Try.func15, Try.ntmps15
      go_wp2_with fail
      refine HP.out.mono ?_
      rintro e w1 ⟨rfl, hb⟩
      go_wp2_with fail
      go_ret2
      exact ⟨by rw [H.out]; rfl, hb⟩
    · have H := Lib.hid (congrArg cwV (cwO_yes hp (by omega)))
      have hP := pathZ_iff.1 hp
      have HZP := Lib.hid (pathP_of hP)
      have HZB := Lib.hid (val_map_bp hS)
      have hcz : CSl a ((L.map val).map encP) w := by rw [← enc_of hP]; exact HC.out
      have hzl : (L.map val).length = L.length := by rw [List.length_map]
      generalize L.map val = Z at *
      obtain ⟨g, o, rfl, hg, hcell⟩ := cs_at hcz (by omega)
      have HCL := Lib.hid hcell
      obtain ⟨n2, hn2⟩ : ∃ n2, L.length = n2 + 2 := ⟨L.length - 2, by omega⟩
      have n1 : ((L.length : Nat) : Int) - 2 = (n2 : Nat) := by omega
      have hn3 : L.length - 2 = n2 := by omega
      rw [hn3] at H
      have x2 : ¬ ((L.length : Nat) : Int) < 2 := by omega
      have hnc : n2 + 2 ≤ c := by omega
      have hn1m : n2 ≤ 1000000 := by omega
      have HN := Lib.hid hn2
      clear h2 hP hcz hcell hp HC hS hn3 hn2
      go_enter Try.func15, Try.ntmps15
      go_wp2_with fail
      refine HP.out.mono ?_
      rintro e w1 ⟨rfl, hb⟩
      have HB1 := Lib.hid hb
      clear hb HP
      go_wp2_with (refine wpList_make_own _ rfl _ _ 22 rfl w.heap.size 5 i0 (.int .u8 0) 1 Try.underlying22 hi hz0 hz1 .i64 .i64 _ n2 rfl rfl rfl (by rw [hz2]; omega) (by unfold maxLen; omega) HB1.out.size ?_)
      intro W2 hown hgrow
      have hB2 : Below w.heap.size w W2 := Below.grown HB1.out hgrow HB1.out.size (fun k hk => by cases hk)
      have S0 := Lib.hid (show CwRel Z 0 w n2 (.slice (some ⟨w1.heap.size, 0, none⟩) 0 n2) (.int .i64 0) W2 from ⟨0, [], by have := HN.out; omega, rfl, rfl, hown, hB2⟩)
      clear hown hgrow hB2
      go_wp2_with fail
      go_loopg [4, 5, 6, 7, 23] n2 (fun m v x y z i wr => CwRel Z 0 w m v i wr)
      case atStart => exact S0.out
      case round =>
        clear S0
        obtain ⟨k, l, hk, rfl, hlt', hown, hB⟩ := hrel
        have HO := Lib.hid hown
        have HLT := Lib.hid hlt'
        have zr := hB.size
        clear hown hlt'
        by_cases hlt : k < n2
        · have k3 : k + 2 < Z.length := by omega
          have c0 := keepcell hB (HCL.out k (by omega))
          have c1 := keepcell hB (HCL.out (k + 1) (by omega))
          have c2 := keepcell hB (HCL.out (k + 2) (by omega))
          have HT := Lib.hid (fun c => turnIn_c g (o + k) c Z[k] Z[k + 1] Z[k + 2] wr c0 (by rw [Nat.add_assoc]; exact c1) (by rw [Nat.add_assoc]; exact c2)
            (HZB.out _ (List.getElem_mem _)) (HZB.out _ (List.getElem_mem _)) (HZB.out _ (List.getElem_mem _))
            (by rw [← stp_get]; exact stp_unit HZP.out (by omega)) (by rw [← stp_get (k := k + 1)]; exact stp_unit HZP.out (by omega)))
          rw [← stp_get (k := k) (by omega), ← stp_get (k := k + 1) (by omega)] at HT
          have HS1 := Lib.hid (fun x h => ltrs_some (Z := Z) HLT.out (c := x) h)
          have HS0 := Lib.hid (fun h => ltrs_stuck (ltrs_none (Z := Z) (k := k) h) n2 (by omega))
          have e3 : IntKind.i64.wrap ((k : Int) + 3) = ((k + 3 : Nat) : Int) := by rw [IntKind.wrap_i64]; omega
          have ek : ((k + 0 : Nat) : Int) = (k : Int) := rfl
          rw [ek]
          have k4 : k + 3 ≤ c := by omega
          clear c0 c1 c2
          go_wp2_with fail
          refine (HT.out _).mono ?_
          rintro e w2 ⟨rfl, hb2⟩
          have HB2 := Lib.hid (Blw.after hB hb2)
          have HO2 := Lib.hid (own_below HO.out hb2)
          have z2 : w.heap.size ≤ w2.heap.size := HB2.out.size
          clear hb2 hB HO HT
          cases hx : ltr (stpZ Z k) (stpZ Z (k + 1)) with
          | none =>
            have HN0 := Lib.hid (HS0.out hx)
            clear hx
            rw [show turnV2 none = .tuple #[.int .u8 0, .bool false] from rfl]
            go_wp2_with fail
            go_ret2
            exact ⟨by rw [H.out, HN0.out]; rfl, HB2.out⟩
          | some x =>
            have HN0 := Lib.hid (HS1.out x hx)
            clear hx
            rw [show turnV2 (some x) = .tuple #[.int .u8 (x.toNat : Int), .bool true] from rfl]
            go_wp2_with (at_builtin; refine wpList_append_own _ rfl _ _ 22 rfl w.heap.size 5 i0 (.int .u8 0) 1 1 Try.underlying22 hi hz0 hz1 hz2 rfl (by decide) _ _ _ rfl (HO2.out.alloc _) ⟨w2.heap.size, 0, none⟩ 1 1 [encB x] rfl rfl (cells1 _ _ _) (one1 _ rfl) (by unfold maxLen; omega) (by omega) (by simp; omega) ?_)
            intro v' W3 hown' hgrow _
            have hB3 : Below w.heap.size w W3 := Below.grown (Blw.alloc HB2.out _) hgrow (by simp; omega) (fun k hk => (HO2.out.lt k hk).1)
            have HO3 := Lib.hid hown'
            clear hgrow hown' HO2
            go_wp2_with fail
            go_roundg (gk - 1)
            case measure => omega
            case rel => exact ⟨k + 1, l ++ [x], by omega, by go_num, HN0.out, by rw [List.map_append]; exact HO3.out, hB3⟩
        · obtain rfl : k = n2 := by omega
          have hcv := conv_row HO.out
          go_wp2_with fail
          go_ret2
          exact ⟨by rw [H.out, HLT.out]; rfl, hB⟩
  · have H := Lib.hid (congrArg cwV (cwO_no hp))
    rw [hp] at HP
    go_enter Try.func15, Try.ntmps15
    go_wp2_with fail
    refine HP.out.mono ?_
    rintro e w1 ⟨rfl, hb⟩
    go_wp2_with fail
    go_ret2
    exact ⟨by rw [H.out]; rfl, hb⟩
end Go.Proofs.Ytljmmmkehieboaa

/- FnCurveOnce: whatever the code draws, what goes once goes once on the way back, and its first half, too. -/
import Derived.Test.YtljmmmkehieboaaOns
import Derived.Test.YtljmmmkehieboaaOni
import Derived.Test.YtljmmmkehieboaaBaseP
namespace Go.Proofs.Ytljmmmkehieboaa
set_option linter.unusedSimpArgs false
set_option linter.unusedVariables false
open Go.ChangeShapes Go.WideShapes Go.ChangeAt Go.RowKit Go.Joins

def CuRel (Z : List (Int × Int)) (w0 : World) (m : Nat) (v i : Value) (wr : World) : Prop :=
  ∃ k : Nat, k + m = Z.length ∧ i = .int .i64 ((m : Int) - 1) ∧ wr.ownsRow w0.heap.size 31 1 v k ((Z.reverse.take k).map encP) ∧ Below w0.heap.size w0 wr
theorem rev_snoc2 {Z : List (Int × Int)} {k m : Nat} (h : k + (m + 1) = Z.length) : (Z.reverse.take (k + 1)).map encP = (Z.reverse.take k).map encP ++ [encP (zg Z m)] := by
  refine take_map_snoc ?_ encP
  rw [List.getElem?_reverse (by omega), show Z.length - 1 - k = m by omega, zg_get (by omega), List.getElem?_eq_getElem (by omega)]
theorem map_can (Z : List (Int × Int)) : (Z.map canQ).map val = Z := by
  rw [List.map_map]
  conv => rhs; rw [← List.map_id Z]
  apply List.map_congr_left
  intro z _
  exact val_can z
theorem onB_can {Z : List (Int × Int)} (h : PathP Z) (ho : onceP Z) : onB (Z.map canQ) = true := by
  rw [onB_iff (pathZ_t (pathZ_can h)), map_can]
  exact ho
theorem pathP_take {Z : List (Int × Int)} (h : PathP Z) {n : Nat} (h1 : 1 ≤ n) (h2 : n ≤ Z.length) : PathP (Z.take n) := by
  obtain ⟨p1, p2, p3⟩ := h
  have hl : (Z.take n).length = n := by rw [List.length_take]; omega
  refine ⟨by omega, by omega, fun j a b ha hb => ?_⟩
  have hj := (List.getElem?_eq_some_iff.1 hb).1
  rw [hl] at hj
  rw [List.getElem?_take_of_lt (by omega)] at ha hb
  exact p3 j a b ha hb
set_option maxRecDepth 100000 in
set_option maxHeartbeats 8000000 in
theorem lawCurveOnce_c (a : Option Addr) (len cap : Nat) (w : World) (hc : len ≤ 1048576 → Code (.slice a len cap) w) : Calls Try.prog 6 #[.slice a len cap] w fun e w' => e = .returned (.bool true) ∧ Below w.heap.size w w' := by
  obtain ⟨i0, hi, hz0, hz1, hz2⟩ := info_parts infoC
  by_cases hl : 1048576 < len
  · go_enter Try.func6, Try.ntmps6
    go_wp2_with fail
    go_ret
    exact ⟨rfl, by (repeat' (first | assumption | exact Below.refl _ _ | apply Blw.alloc | apply Blw.drew | apply Blw.drewN | (refine Blw.after ?_ (by assumption)) | (refine Blw.set ?_ (by first | (dsimp only; omega) | (simp; done) | (simp; omega)) _)))⟩
  · have hc' := hc (by omega)
    clear hc
    go_enter Try.func6, Try.ntmps6
    go_wp2_with fail
    refine (drawCurveOnce_c _ w hc').mono ?_
    rintro e W1 ⟨v, L, rfl, ho, hL, hbq, hb1⟩
    clear hc'
    have hc0 := ho
    obtain ⟨a1, c1, rfl, hcs, -⟩ := own_csl ho
    have hcap := own_cap hc0
    rw [List.length_map]
    have HCP := Lib.hid hcap
    have HC := Lib.hid hcs
    have HBQ := Lib.hid (bq_up hbq (show 200 ≤ 400 by omega))
    have HB1 := Lib.hid hb1
    clear ho hc0 hcap hcs hb1 hbq
    go_wp2_with fail
    refine (iCurveOnce_c a1 c1 L W1 (by omega) HBQ.out HC.out).mono ?_
    rintro e W2 ⟨rfl, hb2⟩
    have HC2 := Lib.hid (HC.out.keep hb2)
    have HB2 := Lib.hid (Blw.after HB1.out hb2)
    clear hb2
    go_wp2_with fail
    refine (sCurveOnce_c a1 c1 L W2 (by omega) HBQ.out HC2.out).mono ?_
    rintro e W3 ⟨rfl, hb3⟩
    have HC3 := Lib.hid (HC2.out.keep hb3)
    have HB3 := Lib.hid (Blw.after HB2.out hb3)
    have hcp : L.length ≤ c1 := by have := HCP.out; omega
    clear hb3 HC2 HB2 HC HB1 HCP
    rcases Bool.eq_false_or_eq_true (onB L) with hon | hon
    · have hp : pathZ L = true := by unfold onB at hon; rw [Bool.and_eq_true] at hon; exact hon.1
      have HON := Lib.hid ((onB_iff hp).1 hon)
      have hP := pathZ_iff.1 hp
      have HZP := Lib.hid (pathP_of hP)
      have HZB := Lib.hid (val_map_bp HBQ.out)
      have hzl : (L.map val).length = L.length := by rw [List.length_map]
      have HIP := Lib.hid (fun W (hB : Below W3.heap.size W3 W) => iCurvePath_c a1 c1 L W (by omega) HBQ.out (HC3.out.keep hB))
      rw [hp] at HIP
      have hlen : 1 ≤ L.length := hP.1
      have HCZ := Lib.hid (show CSl a1 ((L.map val).map encP) W3 from by rw [← enc_of hP]; exact HC3.out)
      rw [hon]
      clear HC3 hp hP hon
      generalize L.map val = Z at *
      obtain ⟨g, o, rfl, hg, hcell⟩ := cs_at HCZ.out (by omega)
      have HCL := Lib.hid hcell
      obtain ⟨n1, hn1⟩ : ∃ n1, Z.length = n1 + 1 := ⟨Z.length - 1, by omega⟩
      have e1 : ((L.length : Nat) : Int) - 1 = (n1 : Nat) := by omega
      have S0 := Lib.hid (show CuRel Z W3 Z.length (.slice (some ⟨W3.heap.size, 0, none⟩) 0 0) (.int .i64 (n1 : Nat)) (W3.alloc (.cells #[] 31)) from
        ⟨0, by omega, by rw [hn1]; congr 1; omega, World.ownsRow_lit (base := W3.heap.size) (e := 31) (size := 1) W3 #[] 0 (Nat.le_refl _) (by unfold maxLen; omega) rfl, by (repeat' (first | assumption | exact Below.refl _ _ | apply Blw.alloc | apply Blw.drew | apply Blw.drewN | (refine Blw.after ?_ (by assumption)) | (refine Blw.set ?_ (by first | (dsimp only; omega) | (simp; done) | (simp; omega)) _)))⟩)
      clear hcell hn1 HCZ
      go_wp2_with fail
      go_loopg [6, 7] Z.length (fun m v i wr => CuRel Z W3 m v i wr)
      case atStart => exact S0.out
      case round =>
        clear S0
        obtain ⟨k, hk, rfl, hov, hB⟩ := hrel
        have HOV := Lib.hid hov
        have zr := hB.size
        clear hov
        by_cases h0 : gk = 0
        · subst h0
          obtain rfl : k = Z.length := by omega
          have hr1 : Z.reverse.take Z.length = Z.reverse := List.take_of_length_le (by rw [List.length_reverse]; omega)
          rw [hr1] at HOV
          have HTR := Lib.hid (onB_can (pathP_rev HZP.out) (once_rev HON.out))
          obtain ⟨LB, hLB⟩ : ∃ LB, LB = Z.reverse.map canQ := ⟨_, rfl⟩
          have hlb : LB.length = L.length := by rw [hLB, List.length_map, List.length_reverse, hzl]
          rw [← hLB] at HTR
          obtain ⟨ab, cb, rfl, hcb0, -⟩ := own_csl HOV.out
          have hcb : CSl ab (LB.map encZ) wr := by rw [hLB, canQ_map]; exact hcb0
          have hbb : ∀ q ∈ LB, Bq 400 q := by rw [hLB]; exact bq_can (rev_bp HZB.out)
          have HX := Lib.hid (iCurveOnce_c ab cb LB wr (by omega) hbb hcb)
          rw [HTR.out, hlb] at HX
          have HBR := Lib.hid hB
          have HB4 := Lib.hid (Blw.after HB3.out hB)
          have hrl : (List.map encP Z.reverse).length = L.length := by rw [List.length_map, List.length_reverse, hzl]
          rw [hrl]
          clear hr1 hLB hlb hcb hcb0 hbb HTR HOV hB hrl
          go_wp2_with fail
          refine HX.out.mono ?_
          rintro e W5 ⟨rfl, hb5⟩
          have HBR5 := Lib.hid (Blw.after HBR.out hb5)
          have HB5 := Lib.hid (Blw.after HB4.out hb5)
          clear hb5 HX HB4 HBR
          go_wp2_with fail
          refine (HIP.out _ HBR5.out).mono ?_
          rintro e W6 ⟨rfl, hb6⟩
          have HBR6 := Lib.hid (Blw.after HBR5.out hb6)
          have HB6 := Lib.hid (Blw.after HB5.out hb6)
          clear hb6 HIP HB5 HBR5
          by_cases h2 : L.length < 2
          · have h2i : (L.length : Int) < 2 := by omega
            clear HCL HON HZP HZB
            go_wp2_with fail
            go_ret
            exact ⟨rfl, HB6.out⟩
          · have h2i : ¬ (L.length : Int) < 2 := by omega
            obtain ⟨n, hn⟩ : ∃ n, n = L.length / 2 := ⟨_, rfl⟩
            have hq : ((L.length : Nat) : Int).tdiv 2 = (n : Nat) := by rw [Int.tdiv_eq_ediv_of_nonneg (by omega)]; omega
            have hn1' : 1 ≤ n := by omega
            have hn2 : n ≤ L.length := by omega
            have hn3 : n ≤ c1 := by omega
            have HTT := Lib.hid (onB_can (pathP_take HZP.out hn1' (by omega)) (once_take HON.out (n := n) (by omega)))
            obtain ⟨LT, hLT⟩ : ∃ LT, LT = (Z.take n).map canQ := ⟨_, rfl⟩
            have hlt : LT.length = n := by rw [hLT, List.length_map, List.length_take]; omega
            rw [← hLT] at HTT
            have hct : CSl (some ⟨g, o, none⟩) (LT.map encZ) W6 := by
              rw [hLT, canQ_map]
              refine Or.inr ⟨g, o, rfl, fun j x hx => ?_⟩
              rw [List.getElem?_map] at hx
              obtain ⟨p, hp, rfl⟩ := Option.map_eq_some_iff.1 hx
              obtain ⟨hj, rfl⟩ := List.getElem?_eq_some_iff.1 hp
              rw [List.length_take] at hj
              rw [List.getElem_take]
              exact keepcell HBR6.out (HCL.out j (by omega))
            have hbt : ∀ q ∈ LT, Bq 400 q := by rw [hLT]; exact bq_can (fun z hz => HZB.out z (List.mem_of_mem_take hz))
            have HY := Lib.hid (fun cc => iCurveOnce_c (some ⟨g, o, none⟩) cc LT W6 (by omega) hbt hct)
            rw [HTT.out, hlt] at HY
            clear HCL HON HZP HZB hLT hlt hct hbt HTT hn
            go_wp2_with fail
            refine (HY.out _).mono ?_
            rintro e W7 ⟨rfl, hb7⟩
            have HB7 := Lib.hid (Blw.after HB6.out hb7)
            clear hb7 HY HB6
            go_wp2_with fail
            go_ret
            exact ⟨rfl, HB7.out⟩
        · obtain ⟨m, rfl⟩ : ∃ m, gk = m + 1 := ⟨gk - 1, by omega⟩
          have i1 : ((m + 1 : Nat) : Int) - 1 = (m : Int) := by omega
          rw [i1]
          have hm : m < Z.length := by omega
          have HTV := Lib.hid (rev_snoc2 hk)
          have cM := keepcell hB (HCL.out m hm)
          rw [← zg_get hm] at cM
          have lm : m < L.length := by omega
          clear i1 h0
          generalize zg Z m = zm at *
          go_wp2_with (at_builtin; refine wpList_append_own _ rfl _ _ 24 rfl W3.heap.size 31 i0 (.complex .f32 0 0) 1 8 Try.underlying24 hi hz0 hz1 hz2 rfl (by decide) _ _ _ rfl (HOV.out.alloc _) ⟨wr.heap.size, 0, none⟩ 1 1 [encP zm] rfl rfl (cells1 _ _ _) (one1 _ rfl) (by unfold maxLen; omega) (by omega) (by simp; omega) ?_)
          intro v' W4 hown' hgrow _
          have hB4 : Below W3.heap.size W3 W4 := Below.grown (Blw.alloc hB _) hgrow (by rw [alloc_size]; omega) (fun k hk => (HOV.out.lt k hk).1)
          have HO4 := Lib.hid hown'
          clear hgrow hown' HOV hB cM
          go_wp2_with fail
          go_roundg m
          case measure => omega
          case rel => exact ⟨k + 1, by omega, by go_num, by rw [HTV.out]; first | exact HO4.out | (rw [List.map_take, List.map_reverse]; exact HO4.out), hB4⟩
    · rw [hon]
      go_wp2_with fail
      go_ret
      exact ⟨rfl, HB3.out⟩

namespace lawFnCurveOnce
set_option maxRecDepth 100000 in
theorem lifted (os : Os) (started : os.Started) (H : Type) (enc : TypeId × Value → H) :
    ReturnsInHanded {} Try.checked os 6 .any (Rows.fnCurveOnceSpec.pre6 enc Try.prog Try.f6 Rows.fnCurveOnceRow.domain false) (Rows.fnCurveOnceSpec.post enc Try.prog Try.f6 false true false false) := by
  refine returnsInHanded_of_change (C := Try.checked) own started (by kernel_rfl) Try.func6
    (ChangeSpec.witness6 (enc := enc) (C := Try.checked) false ⟨#[], #[.slice none 0 0], []⟩ 8 (by kernel_rfl) (by kernel_rfl) (by kernel_rfl) (by kernel_rfl)) ?_
  intro W base args ds gs before hval0 hW _ _
  have hval : ∀ (j : Nat) t v, Try.f6.params[j]? = some t → args[j]? = some v → Value.okWide Try.prog W .any base t v := hval0
  have hW' := hW
  obtain ⟨p, q, hA0, hV, rfl, _, _⟩ := hW
  have hA : DataW.TrodAll enc Try.prog W 0 (fun _ => true) true Try.f6.params.toList args.toList ds p := hA0
  rw [Try.params6] at hA hval
  obtain ⟨v0, vs0, d0, ds0, p0, q0, hargs, rfl, rfl, h0, r0⟩ := trodAll_cons hA
  obtain ⟨rfl, rfl, rfl⟩ := trodAll_nil r0
  obtain rfl : args = #[v0] := by cases args; simp_all
  obtain ⟨rfl, rfl⟩ := trodVars_none hV
  obtain ⟨a, len, cap, rfl⟩ := okWide_slice Try.underlying22 (hval 0 22 v0 rfl rfl)
  clear hA0 hval0
  simp only [List.append_nil] at hW'
  have hlt : ∀ x ∈ p0, x.block < W.heap.size := fun x hx => by simpa using hW'.lt x hx
  refine (lawCurveOnce_c a len cap W (code_of h0)).mono fun e W' ⟨he, hg⟩ => ?_
  subst he
  have harg := Below.trod laidOut (by kernel_rfl) (of_decide_eq_true (by kernel_rfl)) h0 hg hlt
  refine ⟨_, rfl, _, _, _, [], p0, [], hW', ?_, ?_, ?_, hg.frame _, fun h => by cases h⟩
  · exact trodAll_cons_mk (shut_bool Try.underlying4 _) trodAll_mk0
  · exact trodAll_mk1 harg
  · rfl

theorem proved : Rows.FnCurveOnceSaid :=
  OpenClaim.holds_of_wide 6 Try.f6 rfl rfl rfl rfl rfl rfl rfl ⟨rfl, rfl, rfl, rfl, rfl⟩ rfl rfl rfl rfl rfl (by kernel_rfl) Try.func6 (by kernel_rfl)
    (of_decide_eq_true (by kernel_rfl)) (by unfold Func.isWrapper; first | (rw [if_pos (by decide +kernel)]; kernel_rfl) | (rw [if_neg (by decide +kernel)]; exact ⟨rfl, rfl⟩))
    (fun os started H enc _ => lifted os started H enc)
end lawFnCurveOnce
end Go.Proofs.Ytljmmmkehieboaa

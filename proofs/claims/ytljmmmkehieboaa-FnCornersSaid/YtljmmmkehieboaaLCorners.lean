/- FnCorners: whatever the code draws, the corners of a path are as many on the way back, and each is visited. -/
import Derived.Test.YtljmmmkehieboaaDrawM
import Derived.Test.YtljmmmkehieboaaCri
import Derived.Test.YtljmmmkehieboaaBaseP
namespace Go.Proofs.Ytljmmmkehieboaa
set_option linter.unusedSimpArgs false
set_option linter.unusedVariables false
open Go.ChangeShapes Go.WideShapes Go.ChangeAt Go.RowKit Go.Joins

def CrRel (Z : List (Int × Int)) (w0 : World) (m : Nat) (v i : Value) (wr : World) : Prop :=
  ∃ k : Nat, k + m = Z.length ∧ i = .int .i64 ((m : Int) - 1) ∧ wr.ownsRow w0.heap.size 31 1 v k ((Z.reverse.take k).map encP) ∧ Below w0.heap.size w0 wr
theorem rev_snoc1 {Z : List (Int × Int)} {k m : Nat} (h : k + (m + 1) = Z.length) : (Z.reverse.take (k + 1)).map encP = (Z.reverse.take k).map encP ++ [encP (zg Z m)] := by
  refine take_map_snoc ?_ encP
  rw [List.getElem?_reverse (by omega), show Z.length - 1 - k = m by omega, zg_get (by omega), List.getElem?_eq_getElem (by omega)]
theorem crV_can {Z : List (Int × Int)} (h : PathP Z) : crV (Z.map canQ) = .tuple #[.int .i64 ((visE Z Z.length).length : Nat), .int .i64 (visM Z Z.length : Nat), .bool true] := by
  rw [crV_t (pathZ_t (pathZ_can h)), List.map_map, List.length_map]
  have e : Z.map (val ∘ canQ) = Z := by
    conv => rhs; rw [← List.map_id Z]
    apply List.map_congr_left
    intro z _
    exact val_can z
  rw [e]
set_option maxRecDepth 100000 in
set_option maxHeartbeats 8000000 in
theorem lawCorners_c (a : Option Addr) (len cap : Nat) (w : World) (hc : len ≤ 1048576 → Code (.slice a len cap) w) : Calls Try.prog 7 #[.slice a len cap] w fun e w' => e = .returned (.bool true) ∧ Below w.heap.size w w' := by
  obtain ⟨i0, hi, hz0, hz1, hz2⟩ := info_parts infoC
  by_cases hl : 1048576 < len
  · go_enter Try.func7, Try.ntmps7
    go_wp2_with fail
    go_ret
    exact ⟨rfl, by (repeat' (first | assumption | exact Below.refl _ _ | apply Blw.alloc | apply Blw.drew | apply Blw.drewN | (refine Blw.after ?_ (by assumption)) | (refine Blw.set ?_ (by first | (dsimp only; omega) | (simp; done) | (simp; omega)) _)))⟩
  · have hc' := hc (by omega)
    clear hc
    go_enter Try.func7, Try.ntmps7
    go_wp2_with fail
    refine (drawCurveCorners_c _ w hc').mono ?_
    rintro e W1 ⟨v, L, rfl, ho, hL, hbq, hb1⟩
    clear hc'
    obtain ⟨a1, c1, rfl, hcs, -⟩ := own_csl ho
    rw [List.length_map]
    have HC := Lib.hid hcs
    have HBQ := Lib.hid (bq_up hbq (show 200 ≤ 400 by omega))
    have HB1 := Lib.hid hb1
    clear ho hcs hb1 hbq
    go_wp2_with fail
    refine (iCurveCorners_c a1 c1 L W1 (by omega) HBQ.out HC.out).mono ?_
    rintro e W2 ⟨rfl, hb2⟩
    have HC2 := Lib.hid (HC.out.keep hb2)
    have HB2 := Lib.hid (Blw.after HB1.out hb2)
    clear hb2
    rcases Bool.eq_false_or_eq_true (pathZ L) with hp | hp
    · have hV := crV_t hp
      have hP := pathZ_iff.1 hp
      have hZP := pathP_of hP
      have hzb := val_map_bp HBQ.out
      have hzl : (L.map val).length = L.length := by rw [List.length_map]
      have HEN := Lib.hid (enc_of hP)
      have HS := Lib.hid (fun W (hB : Below W2.heap.size W2 W) => sCurveCorners_c a1 c1 L W (by omega) HBQ.out (HC2.out.keep hB))
      have hlen : 1 ≤ L.length := hP.1
      rw [hV]
      rw [hV] at HS
      have HCZ := Lib.hid (show CSl a1 ((L.map val).map encP) W2 from by rw [← HEN.out]; exact HC2.out)
      clear HEN HC HC2 HB1 hp hP hV
      generalize L.map val = Z at *
      have HZB := Lib.hid hzb
      have HTR := Lib.hid (show crV (Z.reverse.map canQ) = .tuple #[.int .i64 ((visE Z Z.length).length : Nat), .int .i64 (visM Z Z.length : Nat), .bool true] from by
        rw [crV_can (pathP_rev hZP), List.length_reverse, visE_rev, visM_rev])
      have q1 : 1 ≤ (visE Z Z.length).length := visE_pos (by omega)
      have q2 : (visE Z Z.length).length ≤ L.length := hzl ▸ visE_len Z Z.length (Nat.le_refl _)
      have q3 : L.length ≤ (visE Z Z.length).length * visM Z Z.length := by have := vis_prod Z; omega
      have q4 : visM Z Z.length ≤ L.length := hzl ▸ visM_le Z Z.length (Nat.le_refl _)
      rw [← hzl] at HS ⊢
      generalize (visE Z Z.length).length = nn at *
      generalize visM Z Z.length = mm at *
      have q5 : nn * mm ≤ 70 * 70 := Nat.mul_le_mul (by omega) (by omega)
      have m1 : IntKind.i64.wrap ((nn : Int) * (mm : Int)) = ((nn * mm : Nat) : Int) := by rw [← Int.natCast_mul]; exact IntWalk.i64_in _ (by omega)
      generalize nn * mm = pp at *
      clear hZP hzb
      rw [hzl] at HS ⊢
      go_wp2_with fail
      refine (HS.out _ (Below.refl _ _)).mono ?_
      rintro e W3 ⟨rfl, hb3⟩
      have HC3 := Lib.hid (HCZ.out.keep hb3)
      have HB3 := Lib.hid (Blw.after HB2.out hb3)
      clear hb3 HCZ HB2 HS
      obtain ⟨g, o, rfl, hg, hcell⟩ := cs_at HC3.out (by omega)
      have HCL := Lib.hid hcell
      obtain ⟨n1, hn1⟩ : ∃ n1, Z.length = n1 + 1 := ⟨Z.length - 1, by omega⟩
      have e1 : ((L.length : Nat) : Int) - 1 = (n1 : Nat) := by omega
      have S0 := Lib.hid (show CrRel Z W3 Z.length (.slice (some ⟨W3.heap.size, 0, none⟩) 0 0) (.int .i64 (n1 : Nat)) (W3.alloc (.cells #[] 31)) from
        ⟨0, by omega, by rw [hn1]; congr 1; omega, World.ownsRow_lit (base := W3.heap.size) (e := 31) (size := 1) W3 #[] 0 (Nat.le_refl _) (by unfold maxLen; omega) rfl, by (repeat' (first | assumption | exact Below.refl _ _ | apply Blw.alloc | apply Blw.drew | apply Blw.drewN | (refine Blw.after ?_ (by assumption)) | (refine Blw.set ?_ (by first | (dsimp only; omega) | (simp; done) | (simp; omega)) _)))⟩)
      clear hcell hn1
      go_wp2_with fail
      go_loopg [10, 11] Z.length (fun m v i wr => CrRel Z W3 m v i wr)
      case atStart => exact S0.out
      case round =>
        clear S0
        obtain ⟨k, hk, rfl, hov, hB⟩ := hrel
        have HOV := Lib.hid hov
        have zr := hB.size
        clear hov
        by_cases h0 : gk = 0
        · subst h0
          obtain rfl : k = Z.length := by omega
          have hr1 : Z.reverse.take Z.length = Z.reverse := List.take_of_length_le (by rw [List.length_reverse]; omega)
          rw [hr1] at HOV
          obtain ⟨LB, hLB⟩ : ∃ LB, LB = Z.reverse.map canQ := ⟨_, rfl⟩
          have hlb : LB.length = Z.length := by rw [hLB, List.length_map, List.length_reverse]
          rw [← hLB] at HTR
          obtain ⟨ab, cb, rfl, hcb0, -⟩ := own_csl HOV.out
          have hcb : CSl ab (LB.map encZ) wr := by rw [hLB, canQ_map]; exact hcb0
          have hbb : ∀ q ∈ LB, Bq 400 q := by rw [hLB]; exact bq_can (rev_bp HZB.out)
          have HX := Lib.hid (iCurveCorners_c ab cb LB wr (by omega) hbb hcb)
          rw [HTR.out, hlb, hzl] at HX
          have HB4 := Lib.hid (Blw.after HB3.out hB)
          have hrl : (List.map encP Z.reverse).length = L.length := by rw [List.length_map, List.length_reverse, hzl]
          rw [hrl]
          clear hr1 hLB hlb hcb hcb0 hbb HTR HOV hB hrl
          go_wp2_with fail
          refine HX.out.mono ?_
          rintro e W5 ⟨rfl, hb5⟩
          have HB5 := Lib.hid (Blw.after HB4.out hb5)
          clear hb5 HX HB4
          go_wp2_with fail
          go_ret
          exact ⟨rfl, HB5.out⟩
        · obtain ⟨m, rfl⟩ : ∃ m, gk = m + 1 := ⟨gk - 1, by omega⟩
          have i1 : ((m + 1 : Nat) : Int) - 1 = (m : Int) := by omega
          rw [i1]
          have hm : m < Z.length := by omega
          have HTV := Lib.hid (rev_snoc1 hk)
          have cM := keepcell hB (HCL.out m hm)
          rw [← zg_get hm] at cM
          have lm : m < L.length := by omega
          clear i1 h0
          generalize zg Z m = zm at *
          go_wp2_with (at_builtin; refine wpList_append_own _ rfl _ _ 24 rfl W3.heap.size 31 i0 (.complex .f32 0 0) 1 8 Try.underlying24 hi hz0 hz1 hz2 rfl (by decide) _ _ _ rfl (HOV.out.alloc _) ⟨wr.heap.size, 0, none⟩ 1 1 [encP zm] rfl rfl (cells1 _ _ _) (one1 _ rfl) (by unfold maxLen; omega) (by omega) (by simp; omega) ?_)
          intro v' W4 hown' hgrow _
          have hB4 : Below W3.heap.size W3 W4 := Below.grown (Blw.alloc hB _) hgrow (by rw [alloc_size]; omega) (fun k hk => (HOV.out.lt k hk).1)
          have HO4 := Lib.hid hown'
          clear hgrow hown' HOV hB cM
          go_wp2_with fail
          go_roundg m
          case measure => omega
          case rel => exact ⟨k + 1, by omega, by go_num, by rw [HTV.out]; first | exact HO4.out | (rw [List.map_take, List.map_reverse]; exact HO4.out), hB4⟩
    · have hV := crV_f hp
      rw [hV]
      go_wp2_with fail
      refine (sCurveCorners_c a1 c1 L W2 (by omega) HBQ.out HC2.out).mono ?_
      rintro e W3 ⟨rfl, hb3⟩
      rw [hV]
      have HB3 := Lib.hid (Blw.after HB2.out hb3)
      go_wp2_with fail
      go_ret
      exact ⟨rfl, HB3.out⟩

namespace lawFnCorners
set_option maxRecDepth 100000 in
theorem lifted (os : Os) (started : os.Started) (H : Type) (enc : TypeId × Value → H) :
    ReturnsInHanded {} Try.checked os 7 .any (Rows.fnCornersSpec.pre6 enc Try.prog Try.f7 Rows.fnCornersRow.domain false) (Rows.fnCornersSpec.post enc Try.prog Try.f7 false true false false) := by
  refine returnsInHanded_of_change (C := Try.checked) own started (by kernel_rfl) Try.func7
    (ChangeSpec.witness6 (enc := enc) (C := Try.checked) false ⟨#[], #[.slice none 0 0], []⟩ 8 (by kernel_rfl) (by kernel_rfl) (by kernel_rfl) (by kernel_rfl)) ?_
  intro W base args ds gs before hval0 hW _ _
  have hval : ∀ (j : Nat) t v, Try.f7.params[j]? = some t → args[j]? = some v → Value.okWide Try.prog W .any base t v := hval0
  have hW' := hW
  obtain ⟨p, q, hA0, hV, rfl, _, _⟩ := hW
  have hA : DataW.TrodAll enc Try.prog W 0 (fun _ => true) true Try.f7.params.toList args.toList ds p := hA0
  rw [Try.params7] at hA hval
  obtain ⟨v0, vs0, d0, ds0, p0, q0, hargs, rfl, rfl, h0, r0⟩ := trodAll_cons hA
  obtain ⟨rfl, rfl, rfl⟩ := trodAll_nil r0
  obtain rfl : args = #[v0] := by cases args; simp_all
  obtain ⟨rfl, rfl⟩ := trodVars_none hV
  obtain ⟨a, len, cap, rfl⟩ := okWide_slice Try.underlying22 (hval 0 22 v0 rfl rfl)
  clear hA0 hval0
  simp only [List.append_nil] at hW'
  have hlt : ∀ x ∈ p0, x.block < W.heap.size := fun x hx => by simpa using hW'.lt x hx
  refine (lawCorners_c a len cap W (code_of h0)).mono fun e W' ⟨he, hg⟩ => ?_
  subst he
  have harg := Below.trod laidOut (by kernel_rfl) (of_decide_eq_true (by kernel_rfl)) h0 hg hlt
  refine ⟨_, rfl, _, _, _, [], p0, [], hW', ?_, ?_, ?_, hg.frame _, fun h => by cases h⟩
  · exact trodAll_cons_mk (shut_bool Try.underlying4 _) trodAll_mk0
  · exact trodAll_mk1 harg
  · rfl

theorem proved : Rows.FnCornersSaid :=
  OpenClaim.holds_of_wide 7 Try.f7 rfl rfl rfl rfl rfl rfl rfl ⟨rfl, rfl, rfl, rfl, rfl⟩ rfl rfl rfl rfl rfl (by kernel_rfl) Try.func7 (by kernel_rfl)
    (of_decide_eq_true (by kernel_rfl)) (by unfold Func.isWrapper; first | (rw [if_pos (by decide +kernel)]; kernel_rfl) | (rw [if_neg (by decide +kernel)]; exact ⟨rfl, rfl⟩))
    (fun os started H enc _ => lifted os started H enc)
end lawFnCorners
end Go.Proofs.Ytljmmmkehieboaa

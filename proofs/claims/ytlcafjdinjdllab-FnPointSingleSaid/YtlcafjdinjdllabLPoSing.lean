/- FnPointSingle: whatever the code draws, the point in complex64 is that of the model; it is less than 1 from the point in complex128, and the same as long as digits suffice. -/
import Derived.Test.YtlcafjdinjdllabPvf
import Derived.Test.YtlcafjdinjdllabLPoWide
namespace Go.Proofs.Ytlcafjdinjdllab
set_option linter.unusedSimpArgs false
set_option linter.unusedVariables false
open Go.ChangeShapes Go.WideShapes Go.ChangeAt Go.RowKit Go.Joins Ieee

theorem short_yes {s : ByteArray} (h : shB s = true) (hc : atP s < s.size) : atP s ≤ 4 ∧ (tlS s).size ≤ 40 := by
  unfold shB at h
  simp only [Bool.and_eq_true, decide_eq_true_eq] at h
  have e : (tlS s).size = s.size - (atP s + 1) := by
    show (s.extract (atP s + 1) s.size).size = _
    rw [ByteArray.size_extract]; omega
  omega
set_option maxHeartbeats 4000000 in
set_option maxRecDepth 10000 in
theorem lawPoSing_c (a : Option Addr) (len cap : Nat) (w : World) (hc : len ≤ 1048576 → Code (.slice a len cap) w) : Calls Try.prog 6 #[.slice a len cap] w fun e w' => e = .returned (.bool true) ∧ Below w.heap.size w w' := by
  by_cases hl : 1048576 < len
  · go_enter Try.func6, Try.ntmps6
    go_wp2_with fail
    go_ret
    exact ⟨rfl, by (repeat' (first | assumption | exact Below.refl _ _ | apply Blw.alloc | apply Blw.drew | apply Blw.drewN | (refine Blw.after ?_ (by assumption)) | (refine Blw.set ?_ (by first | (dsimp only; omega) | (simp; done) | (simp; omega)) _)))⟩
  · have hc' := hc (by omega)
    clear hc
    go_enter Try.func6, Try.ntmps6
    go_wp2_with fail
    refine (drawPlS_c _ w hc').mono ?_
    rintro e W1 ⟨s, rfl, ht, hb1⟩
    clear hc'
    have hsz : s.size ≤ 2000000 := by omega
    have HI := iPointSingle_c s
    have HS := sPointSingle_c s
    have HW := iPointWide_c s
    rcases Bool.eq_false_or_eq_true (ptB s) with hp | hp
    · obtain ⟨⟨u, d, p1, p2, p3, p4, p5, p6⟩, ⟨v, g, q1, q2, q3, q4, q5, q6⟩⟩ := parts_of hp
      have hcut : cutB s = true := by unfold ptB at hp; rw [Bool.and_eq_true] at hp; exact hp.1
      obtain ⟨c0, -, -, -⟩ := cutB_facts hcut
      simp only [ptV, hp, pickN, if_true] at HI HS HW
      have hE := fun w => sameSingle_c (ptR .f32 s) (ptI .f32 s) u v w p1 q1 p5 q5
      have f1 := conv_c (k := .f32) (l := .f64) Try.underlying28 Try.underlying25 p1 q1
      have f2 := fun w => run_float_arith (P := Try.prog) w .sub 41 .f64 u (ptR .f64 s) d p2
      have f3 := fun w => run_float_arith (P := Try.prog) w .sub 41 .f64 v (ptI .f64 s) g q2
      have hS := fun w => short_c s w hsz
      rcases Bool.eq_false_or_eq_true (shB s) with hs | hs
      all_goals
        have o1 := fun h => p6 h
        have o2 := fun h => q6 h
        first
          | (have o1 := o1 (short_yes hs c0); have o2 := o2 (short_yes hs c0); clear p6 q6)
          | clear p6 q6 o1 o2
        simp only [hs] at hS
        clear hcut c0 hp p1 q1 p2 q2 p5 q5 hs
        have HI := Lib.hid HI
        have HS := Lib.hid HS
        have HW := Lib.hid HW
        have HE := Lib.hid hE
        have HSh := Lib.hid hS
        clear hE hS
        generalize ptR .f32 s = r at *
        generalize ptI .f32 s = i at *
        generalize ptR .f64 s = R at *
        generalize ptI .f64 s = I at *
        go_wp2_with fail
        refine (HI.out _ hsz).mono ?_
        rintro e W2 ⟨rfl, hb2⟩
        go_wp2_with fail
        refine (HS.out _ hsz).mono ?_
        rintro e W3 ⟨rfl, hb3⟩
        go_wp2_with (go_at_call 26; refine (HE.out _).mono ?_; rintro e w1 ⟨rfl, rfl⟩)
        refine (HW.out _ hsz).mono ?_
        rintro e W4 ⟨rfl, hb4⟩
        go_wp2_with (go_at_call 23; refine (HSh.out _).mono ?_; rintro e w1 ⟨rfl, rfl⟩)
        go_ret
        exact ⟨by first | rfl | simp [*], by (repeat' (first | assumption | exact Below.refl _ _ | apply Blw.alloc | apply Blw.drew | apply Blw.drewN | (refine Blw.after ?_ (by assumption)) | (refine Blw.set ?_ (by first | (dsimp only; omega) | (simp; done) | (simp; omega)) _)))⟩
    · simp only [ptV, hp, pickN, if_false, Bool.false_eq_true] at HI HS
      have hE := fun w => sameSingle_c 0 0 0 0 w (by decide +kernel) (by decide +kernel) (by decide +kernel) (by decide +kernel)
      clear hp
      have HE := Lib.hid hE
      clear hE
      go_wp2_with fail
      refine (HI _ hsz).mono ?_
      rintro e W2 ⟨rfl, hb2⟩
      go_wp2_with fail
      refine (HS _ hsz).mono ?_
      rintro e W3 ⟨rfl, hb3⟩
      go_wp2_with (go_at_call 26; refine (HE.out _).mono ?_; rintro e w1 ⟨rfl, rfl⟩)
      go_ret
      exact ⟨rfl, by (repeat' (first | assumption | exact Below.refl _ _ | apply Blw.alloc | apply Blw.drew | apply Blw.drewN | (refine Blw.after ?_ (by assumption)) | (refine Blw.set ?_ (by first | (dsimp only; omega) | (simp; done) | (simp; omega)) _)))⟩

namespace lawFnPointSingle
set_option maxRecDepth 100000 in
theorem lifted (os : Os) (started : os.Started) (H : Type) (enc : TypeId × Value → H) :
    ReturnsInHanded {} Try.checked os 6 .any (Rows.fnPointSingleSpec.pre6 enc Try.prog Try.f6 Rows.fnPointSingleRow.domain false) (Rows.fnPointSingleSpec.post enc Try.prog Try.f6 false true false false) := by
  refine returnsInHanded_of_change (C := Try.checked) own started (by kernel_rfl) Try.func6
    (ChangeSpec.witness6 (enc := enc) (C := Try.checked) false ⟨#[], #[.slice none 0 0], []⟩ 8 (by kernel_rfl) (by kernel_rfl) (by kernel_rfl) (by kernel_rfl)) ?_
  intro W base args ds gs before hval0 hW _ _
  have hval : ∀ (j : Nat) t v, Try.f6.params[j]? = some t → args[j]? = some v → Value.okWide Try.prog W .any base t v := hval0
  have hW' := hW
  obtain ⟨p, q, hA0, hV, rfl, _, _⟩ := hW
  have hA : DataW.TrodAll enc Try.prog W 0 (fun _ => true) true Try.f6.params.toList args.toList ds p := hA0
  rw [Try.params6] at hA hval
  obtain ⟨v0, vs0, d0, ds0, p0, q0, hargs, rfl, rfl, h0, r0⟩ := trodAll_cons hA
  obtain ⟨rfl, rfl, rfl⟩ := trodAll_nil r0
  obtain rfl : args = #[v0] := by cases args; simp_all
  obtain ⟨rfl, rfl⟩ := trodVars_none hV
  obtain ⟨a, len, cap, rfl⟩ := okWide_slice Try.underlying22 (hval 0 22 v0 rfl rfl)
  clear hA0 hval0
  simp only [List.append_nil] at hW'
  have hlt : ∀ x ∈ p0, x.block < W.heap.size := fun x hx => by simpa using hW'.lt x hx
  refine (lawPoSing_c a len cap W (code_of h0)).mono fun e W' ⟨he, hg⟩ => ?_
  subst he
  have harg := Below.trod laidOut (by kernel_rfl) (of_decide_eq_true (by kernel_rfl)) h0 hg hlt
  refine ⟨_, rfl, _, _, _, [], p0, [], hW', ?_, ?_, ?_, hg.frame _, fun h => by cases h⟩
  · exact trodAll_cons_mk (shut_bool Try.underlying4 _) trodAll_mk0
  · exact trodAll_mk1 harg
  · rfl

theorem proved : Rows.FnPointSingleSaid :=
  OpenClaim.holds_of_wide 6 Try.f6 rfl rfl rfl rfl rfl rfl rfl ⟨rfl, rfl, rfl, rfl, rfl⟩ rfl rfl rfl rfl rfl (by kernel_rfl) Try.func6 (by kernel_rfl)
    (of_decide_eq_true (by kernel_rfl)) (by unfold Func.isWrapper; first | (rw [if_pos (by decide +kernel)]; kernel_rfl) | (rw [if_neg (by decide +kernel)]; exact ⟨rfl, rfl⟩))
    (fun os started H enc _ => lifted os started H enc)
end lawFnPointSingle
end Go.Proofs.Ytlcafjdinjdllab

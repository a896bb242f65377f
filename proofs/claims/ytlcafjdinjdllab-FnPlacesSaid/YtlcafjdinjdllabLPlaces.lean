/- FnPlaces: whatever the code draws, noughts at the end of a number text change no point, in both widths; no condition. -/
import Derived.Test.YtlcafjdinjdllabPy
import Derived.Test.YtlcafjdinjdllabCutL
import Derived.Test.YtlcafjdinjdllabSame
import Derived.Test.YtlcafjdinjdllabDrawQ
import Derived.Test.YtlcafjdinjdllabBaseP
namespace Go.Proofs.Ytlcafjdinjdllab
set_option linter.unusedSimpArgs false
set_option linter.unusedVariables false
open Go.ChangeShapes Go.WideShapes Go.ChangeAt Go.RowKit Go.Joins

theorem sPlacesValid_c (s : ByteArray) (w : World) (hsz : s.size ≤ 2000000) : Calls Try.prog 12 #[.string s] w fun e w' => e = .returned (.bool (cutB s)) ∧ Below w.heap.size w w' := by
  go_enter Try.func12, Try.ntmps12
  go_wp2_with (go_at_call 38; refine (l3Cut_c _ _ hsz).mono ?_; rintro e w1 ⟨rfl, hb⟩; obtain ⟨hc, hf⟩ := bcell hb; have hz := bsize hb; have hs := hb.size; try simp at hs)
  go_ret
  exact ⟨rfl, by (repeat' (first | assumption | exact Below.refl _ _ | apply Blw.alloc | apply Blw.drew | apply Blw.drewN | (refine Blw.after ?_ (by assumption)) | (refine Blw.set ?_ (by first | (dsimp only; omega) | (simp; done) | (simp; omega)) _)))⟩
theorem iPlacesValid_c (s : ByteArray) (w : World) (hsz : s.size ≤ 2000000) : Calls Try.prog 11 #[.string s] w fun e w' => e = .returned (.bool (cutB s)) ∧ Below w.heap.size w w' := by
  go_enter Try.func11, Try.ntmps11
  go_wp2_with (go_at_call 37; refine (cutI_c _ _ hsz).mono ?_; rintro e w1 ⟨rfl, hb⟩; obtain ⟨hc, hf⟩ := bcell hb; have hz := bsize hb; have hs := hb.size; try simp at hs)
  go_ret
  exact ⟨rfl, by (repeat' (first | assumption | exact Below.refl _ _ | apply Blw.alloc | apply Blw.drew | apply Blw.drewN | (refine Blw.after ?_ (by assumption)) | (refine Blw.set ?_ (by first | (dsimp only; omega) | (simp; done) | (simp; omega)) _)))⟩
/-- a nought more -/
theorem more_same {s : ByteArray} (h : cutB s = true) (h2 : cutB (s ++ ⟨#[48]⟩) = true) : ptB (s ++ ⟨#[48]⟩) = ptB s ∧ ∀ k, ptR k (s ++ ⟨#[48]⟩) = ptR k s ∧ ptI k (s ++ ⟨#[48]⟩) = ptI k s := by
  have e1 := split_at (cutB_facts h).1
  have e2 : toL (s ++ ⟨#[48]⟩) = toL (hdS s) ++ 46 :: (toL (tlS s) ++ [48]) := by
    rw [toL_app, e1, List.append_assoc]; rfl
  have hh := hd_same e1 e2 (nodot s)
  have ht := (cut_of e2 (nodot s)).2.2.2
  refine ⟨ptB_same hh h h2, fun k => ?_⟩
  unfold ptR ptI
  rw [hh, ht, pv_snoc0]
  exact ⟨rfl, rfl⟩
theorem pick_self (k : FloatKind) (s : ByteArray) : k.format.order (pickN (ptB s) (ptR k s)) (pickN (ptB s) (ptR k s)) = some .eq ∧ k.format.order (pickN (ptB s) (ptI k s)) (pickN (ptB s) (ptI k s)) = some .eq := by
  cases h : ptB s
  · have : k.format.order 0 0 = some .eq := by cases k <;> decide +kernel
    exact ⟨this, this⟩
  · exact pt_self (pt_fin' k h)
set_option maxHeartbeats 4000000 in
set_option maxRecDepth 10000 in
theorem lawPlaces_c (a : Option Addr) (len cap : Nat) (w : World) (hc : len ≤ 1048576 → Code (.slice a len cap) w) : Calls Try.prog 3 #[.slice a len cap] w fun e w' => e = .returned (.bool true) ∧ Below w.heap.size w w' := by
  by_cases hl : 1048576 < len
  · go_enter Try.func3, Try.ntmps3
    go_wp2_with fail
    go_ret
    exact ⟨rfl, by (repeat' (first | assumption | exact Below.refl _ _ | apply Blw.alloc | apply Blw.drew | apply Blw.drewN | (refine Blw.after ?_ (by assumption)) | (refine Blw.set ?_ (by first | (dsimp only; omega) | (simp; done) | (simp; omega)) _)))⟩
  · have hc' := hc (by omega)
    clear hc
    go_enter Try.func3, Try.ntmps3
    go_wp2_with fail
    refine (drawPlV_c _ w hc').mono ?_
    rintro e W1 ⟨t, rfl, ht, hb1⟩
    clear hc'
    have hsz : t.size ≤ 2000000 := by omega
    have hsz2 : (t ++ ⟨#[48]⟩).size ≤ 2000000 := by rw [ByteArray.size_append]; show t.size + 1 ≤ _; omega
    have hI := fun w => iPlacesValid_c t w hsz
    have hS := fun w => sPlacesValid_c t w hsz
    have hM := fun w => iPlacesValid_c (t ++ ⟨#[48]⟩) w hsz2
    have hsz3 : t.size ≤ 900 := ht
    rcases Bool.eq_false_or_eq_true (cutB t) with h1 | h1
    · rcases Bool.eq_false_or_eq_true (cutB (t ++ ⟨#[48]⟩)) with h2 | h2
      · obtain ⟨mB, mV⟩ := more_same h1 h2
        obtain ⟨o1, o2⟩ := pick_self .f64 t
        obtain ⟨o3, o4⟩ := pick_self .f32 t
        have pW := fun w => iPointWide_c t w hsz
        have pS := fun w => iPointSingle_c t w hsz
        have qW := fun w => iPointWide_c (t ++ ⟨#[48]⟩) w hsz2
        have qS := fun w => iPointSingle_c (t ++ ⟨#[48]⟩) w hsz2
        simp only [ptV, mB, (mV .f64).1, (mV .f64).2] at pW qW
        simp only [ptV, mB, (mV .f32).1, (mV .f32).2] at pS qS
        rw [h1] at hI hS
        rw [h2] at hM
        clear h1 h2 mB mV
        generalize pickN (ptB t) (ptR .f64 t) = x at *
        generalize pickN (ptB t) (ptI .f64 t) = y at *
        generalize pickN (ptB t) (ptR .f32 t) = x' at *
        generalize pickN (ptB t) (ptI .f32 t) = y' at *
        generalize ptB t = b at *
        have HI := Lib.hid hI
        have HS := Lib.hid hS
        have HM := Lib.hid hM
        have PW := Lib.hid pW
        have PS := Lib.hid pS
        have QW := Lib.hid qW
        have QS := Lib.hid qS
        clear hI hS hM pW pS qW qS
        go_wp2_with fail
        refine (HI.out _).mono ?_
        rintro e W2 ⟨rfl, hbW2⟩
        have BW2 := Lib.hid (Blw.after hb1 hbW2)
        clear hbW2
        go_wp2_with fail
        refine (HS.out _).mono ?_
        rintro e W3 ⟨rfl, hbW3⟩
        have BW3 := Lib.hid (Blw.after BW2.out hbW3)
        clear hbW3
        clear BW2
        go_wp2_with fail
        refine (HM.out _).mono ?_
        rintro e W4 ⟨rfl, hbW4⟩
        have BW4 := Lib.hid (Blw.after BW3.out hbW4)
        clear hbW4
        clear BW3
        go_wp2_with fail
        refine (PW.out _).mono ?_
        rintro e W5 ⟨rfl, hbW5⟩
        have BW5 := Lib.hid (Blw.after BW4.out hbW5)
        clear hbW5
        clear BW4
        go_wp2_with fail
        refine (QW.out _).mono ?_
        rintro e W6 ⟨rfl, hbW6⟩
        have BW6 := Lib.hid (Blw.after BW5.out hbW6)
        clear hbW6
        clear BW5
        go_wp2_with fail
        refine (PS.out _).mono ?_
        rintro e W7 ⟨rfl, hbW7⟩
        have BW7 := Lib.hid (Blw.after BW6.out hbW7)
        clear hbW7
        clear BW6
        go_wp2_with fail
        refine (QS.out _).mono ?_
        rintro e W8 ⟨rfl, hbW8⟩
        have BW8 := Lib.hid (Blw.after BW7.out hbW8)
        clear hbW8
        clear BW7
        go_wp2_with fail
        go_ret
        exact ⟨by cases b <;> rfl, BW8.out⟩
      · rw [h1] at hI hS
        rw [h2] at hM
        have HI := Lib.hid hI
        have HS := Lib.hid hS
        have HM := Lib.hid hM
        clear hI hS hM
        go_wp2_with fail
        refine (HI.out _).mono ?_
        rintro e W2 ⟨rfl, hbW2⟩
        have BW2 := Lib.hid (Blw.after hb1 hbW2)
        clear hbW2
        go_wp2_with fail
        refine (HS.out _).mono ?_
        rintro e W3 ⟨rfl, hbW3⟩
        have BW3 := Lib.hid (Blw.after BW2.out hbW3)
        clear hbW3
        go_wp2_with fail
        refine (HM.out _).mono ?_
        rintro e W4 ⟨rfl, hbW4⟩
        have BW4 := Lib.hid (Blw.after BW3.out hbW4)
        clear hbW4
        go_wp2_with fail
        go_ret
        exact ⟨rfl, BW4.out⟩
    · rw [h1] at hI hS
      go_wp2_with (first | (go_at_call 11; refine (hI _).mono ?_; rintro e w1 ⟨rfl, hb⟩; obtain ⟨hc, hf⟩ := bcell hb; have hz := bsize hb; have hs := hb.size; try simp at hs) | (go_at_call 12; refine (hS _).mono ?_; rintro e w1 ⟨rfl, hb⟩; obtain ⟨hc, hf⟩ := bcell hb; have hz := bsize hb; have hs := hb.size; try simp at hs))
      go_ret
      exact ⟨rfl, by (repeat' (first | assumption | exact Below.refl _ _ | apply Blw.alloc | apply Blw.drew | apply Blw.drewN | (refine Blw.after ?_ (by assumption)) | (refine Blw.set ?_ (by first | (dsimp only; omega) | (simp; done) | (simp; omega)) _)))⟩

namespace lawFnPlaces
set_option maxRecDepth 100000 in
theorem lifted (os : Os) (started : os.Started) (H : Type) (enc : TypeId × Value → H) :
    ReturnsInHanded {} Try.checked os 3 .any (Rows.fnPlacesSpec.pre6 enc Try.prog Try.f3 Rows.fnPlacesRow.domain false) (Rows.fnPlacesSpec.post enc Try.prog Try.f3 false true false false) := by
  refine returnsInHanded_of_change (C := Try.checked) own started (by kernel_rfl) Try.func3
    (ChangeSpec.witness6 (enc := enc) (C := Try.checked) false ⟨#[], #[.slice none 0 0], []⟩ 8 (by kernel_rfl) (by kernel_rfl) (by kernel_rfl) (by kernel_rfl)) ?_
  intro W base args ds gs before hval0 hW _ _
  have hval : ∀ (j : Nat) t v, Try.f3.params[j]? = some t → args[j]? = some v → Value.okWide Try.prog W .any base t v := hval0
  have hW' := hW
  obtain ⟨p, q, hA0, hV, rfl, _, _⟩ := hW
  have hA : DataW.TrodAll enc Try.prog W 0 (fun _ => true) true Try.f3.params.toList args.toList ds p := hA0
  rw [Try.params3] at hA hval
  obtain ⟨v0, vs0, d0, ds0, p0, q0, hargs, rfl, rfl, h0, r0⟩ := trodAll_cons hA
  obtain ⟨rfl, rfl, rfl⟩ := trodAll_nil r0
  obtain rfl : args = #[v0] := by cases args; simp_all
  obtain ⟨rfl, rfl⟩ := trodVars_none hV
  obtain ⟨a, len, cap, rfl⟩ := okWide_slice Try.underlying22 (hval 0 22 v0 rfl rfl)
  clear hA0 hval0
  simp only [List.append_nil] at hW'
  have hlt : ∀ x ∈ p0, x.block < W.heap.size := fun x hx => by simpa using hW'.lt x hx
  refine (lawPlaces_c a len cap W (code_of h0)).mono fun e W' ⟨he, hg⟩ => ?_
  subst he
  have harg := Below.trod laidOut (by kernel_rfl) (of_decide_eq_true (by kernel_rfl)) h0 hg hlt
  refine ⟨_, rfl, _, _, _, [], p0, [], hW', ?_, ?_, ?_, hg.frame _, fun h => by cases h⟩
  · exact trodAll_cons_mk (shut_bool Try.underlying4 _) trodAll_mk0
  · exact trodAll_mk1 harg
  · rfl

theorem proved : Rows.FnPlacesSaid :=
  OpenClaim.holds_of_wide 3 Try.f3 rfl rfl rfl rfl rfl rfl rfl ⟨rfl, rfl, rfl, rfl, rfl⟩ rfl rfl rfl rfl rfl (by kernel_rfl) Try.func3 (by kernel_rfl)
    (of_decide_eq_true (by kernel_rfl)) (by unfold Func.isWrapper; first | (rw [if_pos (by decide +kernel)]; kernel_rfl) | (rw [if_neg (by decide +kernel)]; exact ⟨rfl, rfl⟩))
    (fun os started H enc _ => lifted os started H enc)
end lawFnPlaces
end Go.Proofs.Ytlcafjdinjdllab

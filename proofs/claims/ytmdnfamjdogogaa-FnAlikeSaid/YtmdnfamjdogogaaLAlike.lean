/- FnAlike: whatever the code draws, both sides agree, and entries that are alike are so the other way round, and each with itself. -/
import Derived.Test.YtmdnfamjdogogaaZj
import Derived.Test.YtmdnfamjdogogaaZk
import Derived.Test.YtmdnfamjdogogaaBaseP
namespace Go.Proofs.Ytmdnfamjdogogaa
set_option linter.unusedSimpArgs false
set_option linter.unusedVariables false
open Go.ChangeShapes Go.WideShapes Go.ChangeAt Go.RowKit Go.Joins

set_option maxRecDepth 100000 in
set_option maxHeartbeats 8000000 in
theorem lawAlike_c (a : Option Addr) (len cap : Nat) (w : World) (hc : len ≤ 1048576 → Code (.slice a len cap) w) : Calls Try.prog 4 #[.slice a len cap] w fun e w' => e = .returned (.bool true) ∧ Below w.heap.size w w' := by
  by_cases hl : 1048576 < len
  · go_enter Try.func4, Try.ntmps4
    go_wp2_with fail
    go_ret
    exact ⟨rfl, by (first | ((repeat' with_reducible first | assumption | exact Below.refl _ _ | apply Blw.alloc | apply Blw.drew | apply Blw.drewN | (refine Blw.after ?_ (by assumption)) | (refine Blw.set ?_ (by first | (dsimp only; omega) | (simp; omega)) _)); done) | (repeat' (first | assumption | exact Below.refl _ _ | apply Blw.alloc | apply Blw.drew | apply Blw.drewN | (refine Blw.after ?_ (by assumption)) | (refine Blw.set ?_ (by first | (dsimp only; omega) | (simp; done) | (simp; omega)) _))))⟩
  · have hc' := hc (by omega)
    clear hc
    have fst := fun W a x y m => run_store Try.prog W a (.complex .f32 x y) m rfl
    go_enter Try.func4, Try.ntmps4
    go_wp2_with fail
    refine (drawEntryAlike_c _ w hc').mono ?_
    rintro e W1 ⟨s, p, n, s', q, n', rfl, h1, h2, hb1⟩
    have HB1 := Lib.hid hb1
    have HE := Lib.hid h1
    clear hc' hb1 h1 h2
    go_upto_region 4 with fail
    generalize hW : World.alloc (World.alloc _ _) _ = W2
    have z1 : (W1.alloc (.cells #[.string s, encW p, .int .u32 (n : Nat)] 30)).heap.size = W1.heap.size + 1 := alloc_size _ _
    have N0 := Lib.hid (show BxE W1.heap.size s p n W2 by rw [← hW]; exact (BxE.new s p n W1 _).keep ((Below.refl _ _).alloc (Nat.le_refl _) _))
    have N1 := Lib.hid (show BxE (W1.heap.size + 1) s' q n' W2 by rw [← hW, ← z1]; exact BxE.new s' q n' _ _)
    have HB2 := Lib.hid (show Below w.heap.size w W2 by rw [← hW]; exact Blw.alloc (Blw.alloc HB1.out _) _)
    clear hW z1 HB1
    obtain ⟨aa, ab, ac, ad, _⟩ := N0.out
    obtain ⟨ba, bb, bc, bd, _⟩ := N1.out
    go_wp2_with fail
    refine (iEntryAlike_c s s' p q n n' W2).mono ?_
    rintro e W3 ⟨rfl, hb3⟩
    have N0' := Lib.hid (N0.out.keep hb3)
    have N1' := Lib.hid (N1.out.keep hb3)
    have HB3 := Lib.hid (Blw.after HB2.out hb3)
    clear aa ab ac ad ba bb bc bd N0 N1 HB2 hb3
    obtain ⟨aa, ab, ac, ad, _⟩ := N0'.out
    obtain ⟨ba, bb, bc, bd, _⟩ := N1'.out
    go_wp2_with fail
    refine (sEntryAlike_c s s' p q n n' W3).mono ?_
    rintro e W4 ⟨rfl, hb4⟩
    have N0 := Lib.hid (N0'.out.keep hb4)
    have N1 := Lib.hid (N1'.out.keep hb4)
    have HB4 := Lib.hid (Blw.after HB3.out hb4)
    clear aa ab ac ad ba bb bc bd N0' N1' HB3 hb4
    have hcm := eqE_comm s p n s' q n'
    have hsf := eqE_self (s := s) (n := n) HE.out.2.1
    have hpp := eqW_self HE.out.2.1
    rcases Bool.eq_false_or_eq_true (eqE s p n s' q n') with he | he
    · rw [he] at hcm ⊢
      obtain ⟨aa, ab, ac, ad, _⟩ := N0.out
      obtain ⟨ba, bb, bc, bd, _⟩ := N1.out
      have HX := Lib.hid (fun W => iEntryAlike_c s' s q p n' n W)
      have HY := Lib.hid (fun W => iEntryAlike_c s s p p n n W)
      rw [← hcm] at HX
      rw [hsf] at HY
      have f1 := fun w t => run_weq (P := Try.prog) w t p p
      rw [hpp] at f1
      clear he hcm hsf hpp
      go_wp2_with fail
      refine (HX.out W4).mono ?_
      rintro e W5 ⟨rfl, hb5⟩
      have N0' := Lib.hid (N0.out.keep hb5)
      have HB5 := Lib.hid (Blw.after HB4.out hb5)
      clear aa ab ac ad ba bb bc bd N0 N1 HB4 hb5 HX
      obtain ⟨aa, ab, ac, ad, _⟩ := N0'.out
      go_wp2_with fail
      refine (HY.out W5).mono ?_
      rintro e W6 ⟨rfl, hb6⟩
      have N0 := Lib.hid (N0'.out.keep hb6)
      have HB6 := Lib.hid (Blw.after HB5.out hb6)
      clear aa ab ac ad N0' HB5 hb6 HY
      obtain ⟨aa, ab, ac, ad, _⟩ := N0.out
      go_wp2_with fail
      go_ret
      exact ⟨rfl, HB6.out⟩
    · rw [he]
      clear hcm hsf hpp he
      go_wp2_with fail
      go_ret
      exact ⟨rfl, HB4.out⟩
namespace lawFnAlike
set_option maxRecDepth 100000 in
theorem lifted (os : Os) (started : os.Started) (H : Type) (enc : TypeId × Value → H) :
    ReturnsInHanded {} Try.checked os 4 .any (Rows.fnAlikeSpec.pre6 enc Try.prog Try.f4 Rows.fnAlikeRow.domain false) (Rows.fnAlikeSpec.post enc Try.prog Try.f4 false true false false) := by
  refine returnsInHanded_of_change (C := Try.checked) own started (by kernel_rfl) Try.func4
    (ChangeSpec.witness6 (enc := enc) (C := Try.checked) false ⟨#[], #[.slice none 0 0], []⟩ 8 (by kernel_rfl) (by kernel_rfl) (by kernel_rfl) (by kernel_rfl)) ?_
  intro W base args ds gs before hval0 hW _ _
  have hval : ∀ (j : Nat) t v, Try.f4.params[j]? = some t → args[j]? = some v → Value.okWide Try.prog W .any base t v := hval0
  have hW' := hW
  obtain ⟨p, q, hA0, hV, rfl, _, _⟩ := hW
  have hA : DataW.TrodAll enc Try.prog W 0 (fun _ => true) true Try.f4.params.toList args.toList ds p := hA0
  rw [Try.params4] at hA hval
  obtain ⟨v0, vs0, d0, ds0, p0, q0, hargs, rfl, rfl, h0, r0⟩ := trodAll_cons hA
  obtain ⟨rfl, rfl, rfl⟩ := trodAll_nil r0
  obtain rfl : args = #[v0] := by cases args; simp_all
  obtain ⟨rfl, rfl⟩ := trodVars_none hV
  obtain ⟨a, len, cap, rfl⟩ := okWide_slice Try.underlying22 (hval 0 22 v0 rfl rfl)
  clear hA0 hval0
  simp only [List.append_nil] at hW'
  have hlt : ∀ x ∈ p0, x.block < W.heap.size := fun x hx => by simpa using hW'.lt x hx
  refine (lawAlike_c a len cap W (code_of h0)).mono fun e W' ⟨he, hg⟩ => ?_
  subst he
  have harg := Below.trod laidOut (by kernel_rfl) (of_decide_eq_true (by kernel_rfl)) h0 hg hlt
  refine ⟨_, rfl, _, _, _, [], p0, [], hW', ?_, ?_, ?_, hg.frame _, fun h => by cases h⟩
  · exact trodAll_cons_mk (shut_bool Try.underlying4 _) trodAll_mk0
  · exact trodAll_mk1 harg
  · rfl

theorem proved : Rows.FnAlikeSaid :=
  OpenClaim.holds_of_wide 4 Try.f4 rfl rfl rfl rfl rfl rfl rfl ⟨rfl, rfl, rfl, rfl, rfl⟩ rfl rfl rfl rfl rfl (by kernel_rfl) Try.func4 (by kernel_rfl)
    (of_decide_eq_true (by kernel_rfl)) (by unfold Func.isWrapper; first | (rw [if_pos (by decide +kernel)]; kernel_rfl) | (rw [if_neg (by decide +kernel)]; exact ⟨rfl, rfl⟩))
    (fun os started H enc _ => lifted os started H enc)
end lawFnAlike
end Go.Proofs.Ytmdnfamjdogogaa

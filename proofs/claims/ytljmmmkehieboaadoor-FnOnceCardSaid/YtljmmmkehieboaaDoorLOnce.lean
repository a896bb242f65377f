/- FnOnce: whatever the code draws, the curve of a fold goes along no edge twice and visits no corner more than twice; the listed variables are as the library's text lays them. -/
import Derived.Test.YtljmmmkehieboaaDoorDrawC
import Derived.Test.YtljmmmkehieboaaDoorWh
import Derived.Test.YtljmmmkehieboaaDoorFc
import Derived.Test.YtljmmmkehieboaaDoorCp
import Derived.Test.YtljmmmkehieboaaDoorCri
import Derived.Test.YtljmmmkehieboaaDoorOni
import Derived.Test.YtljmmmkehieboaaDoorCa
import Derived.Test.YtljmmmkehieboaaDoorBaseP
import Derived.Test.YtljmmmkehieboaaDoorTie
import Derived.Test.YtljmmmkehieboaaDoorCards
import Derived.OpenShut
import Derived.LaidMore
import Derived.Lay
import Derived.SevenTiedAt
import Derived.Stop.Joined
import Derived.Stop.LaidErr
import Derived.ChangeVars
import Derived.ChangeStays
namespace Go.Proofs.YtljmmmkehieboaaDoor
set_option linter.unusedSimpArgs false
set_option linter.unusedVariables false
open Go.ChangeShapes Go.WideShapes Go.ChangeAt Go.RowKit Go.Joins

theorem fold_cases2 (s : ByteArray) (h127 : s.size ≤ 127) : foldV s = .tuple #[.string ⟨#[]⟩, .bool false] ∨ ∃ (o : ByteArray) (cs : List UInt8), foldV s = .tuple #[.string o, .bool true] ∧ wdB 1023 s = true ∧ turnsL cs = toL s ∧ cs.length ≤ 7 ∧ ∀ c ∈ cs, wdC c = true := by
  rcases Bool.eq_false_or_eq_true (foldOk s) with h | h
  · right
    have h' := h
    unfold foldOk at h'
    rw [Bool.and_eq_true] at h'
    obtain ⟨hw, hs⟩ := h'
    obtain ⟨cs, hcs⟩ := Option.isSome_iff_exists.1 hs
    have ht := foldO_turns hcs
    refine ⟨bs cs, cs, ?_, hw, ht, ?_, turnsL_wd_of cs (by rw [ht]; exact wdB_all hw)⟩
    · rw [show foldV s = _ from strV_t h _]; unfold foldL; rw [hcs]; rfl
    · have hl := turnsL_len cs
      rw [ht, toL_len] at hl
      rcases Nat.lt_or_ge cs.length 8 with h | h
      · omega
      · exfalso
        have : 2 ^ 8 ≤ 2 ^ cs.length := Nat.pow_le_pow_right (by omega) h
        have e : (2 : Nat) ^ 8 = 256 := by decide
        omega
  · exact Or.inl (strV_f h _)
theorem map_canO (Z : List (Int × Int)) : (Z.map canQ).map val = Z := by
  rw [List.map_map]
  conv => rhs; rw [← List.map_id Z]
  apply List.map_congr_left
  intro z _
  exact val_can z
set_option maxRecDepth 100000 in
set_option maxHeartbeats 4000000 in
theorem lawOnce_c (a : Option Addr) (len cap : Nat) (w : World) (hc : len ≤ 1048576 → Code (.slice a len cap) w) (hT : Tz w) : Calls Tryd.prog 4 #[.slice a len cap] w fun e w' => e = .returned (.bool true) ∧ Below w.heap.size w w' := by
  have HT := Lib.hid hT
  have h6 := hT.pos
  clear hT
  by_cases hl : 1048576 < len
  · go_enter Tryd.func4, Tryd.ntmps4
    go_wp2_with fail
    go_ret
    exact ⟨rfl, by (repeat' (first | assumption | exact Below.refl _ _ | apply Blw.alloc | apply Blw.drew | apply Blw.drewN | (refine Blw.after ?_ (by assumption)) | (refine Blw.set ?_ (by first | (dsimp only; omega) | (simp; done) | (simp; omega)) _)))⟩
  · have hc' := hc (by omega)
    clear hc
    go_enter Tryd.func4, Tryd.ntmps4
    go_wp2_with fail
    refine (drawTurnFold_s _ w hc').mono ?_
    rintro e W1 ⟨s, rfl, ht, hb1⟩
    clear hc'
    have HT1 := Lib.hid (HT.out.keep h6 hb1)
    rcases fold_cases2 s ht with H1 | ⟨o, cs, H1, hw, hcs, h7, hcw⟩
    · go_wp2_with fail
      refine (iTurnFold_c s W1 HT1.out).mono ?_
      rintro e W2 ⟨rfl, hb2⟩
      rw [H1]
      go_wp2_with fail
      refine (sTurnFold_c s W2).mono ?_
      rintro e W3 ⟨rfl, hb3⟩
      rw [H1]
      have hB3 := Blw.after (Blw.after hb1 hb2) hb3
      clear H1
      go_wp2_with fail
      go_ret
      exact ⟨rfl, hB3⟩
    · have hsz : (toL s).length ≤ 127 := by rw [toL_len]; exact ht
      have hPP := crv_pathO (l := toL s) (by omega)
      have hON := pathP_crv (by omega) hPP cs hcs h7 hcw
      have hlenZ : (crvL (toL s)).length = s.size + 2 := by rw [crvL_len, toL_len]
      have hin : ∀ z ∈ crvL (toL s), Bp 400 z := fun z hz => by
        have := crvL_in _ z hz
        unfold Bp; omega
      have HA := Lib.hid (crvA_t hw)
      generalize crvL (toL s) = Z at *
      obtain ⟨LB, hLB⟩ : ∃ LB, LB = Z.map canQ := ⟨_, rfl⟩
      have hll : LB.length = Z.length := by rw [hLB, List.length_map]
      have hpz : pathZ LB = true := by rw [hLB]; exact pathZ_t (pathZ_can hPP)
      have hvv : LB.map val = Z := by rw [hLB]; exact map_canO Z
      have hbq : ∀ q ∈ LB, Bq 400 q := by rw [hLB]; exact bq_can hin
      have hce : LB.map encZ = Z.map encP := by rw [hLB]; exact canQ_map Z
      have hov : onB LB = true := by rw [onB_iff hpz, hvv]; exact hON.1
      have hcr := crV_t hpz
      rw [hvv, hll] at hcr
      have p1 := visE_len Z Z.length (Nat.le_refl _)
      have p2 := vis_prod Z
      have p3 := hON.2
      have p4 : Z.length ≤ 2 * (visE Z Z.length).length := by
        have := Nat.mul_le_mul_left (visE Z Z.length).length p3
        omega
      generalize (visE Z Z.length).length = nn at *
      generalize visM Z Z.length = mm at *
      have HC1 := Lib.hid (fun a' c' W (hW : CSl a' (Z.map encP) W) => iCurveCorners_c a' c' LB W (by omega) hbq (by rw [hce]; exact hW))
      have HC2 := Lib.hid (fun a' c' W (hW : CSl a' (Z.map encP) W) => iCurveOnce_c a' c' LB W (by omega) hbq (by rw [hce]; exact hW))
      rw [hcr, hll] at HC1
      rw [hov, hll] at HC2
      have HW := Lib.hid hw
      have zl : Z.length ≤ 129 := by omega
      clear hPP hON hin hLB hpz hvv hbq hce hov hcr p2 hw hcs hcw h7 hsz hll
      go_wp2_with fail
      refine (iTurnFold_c s W1 HT1.out).mono ?_
      rintro e W2 ⟨rfl, hb2⟩
      rw [H1]
      go_wp2_with fail
      refine (sTurnFold_c s W2).mono ?_
      rintro e W3 ⟨rfl, hb3⟩
      rw [H1]
      have HB3 := Lib.hid (Blw.after (Blw.after hb1 hb2) hb3)
      clear H1 hb1 hb2 hb3 HT1 HT
      go_wp2_with fail
      refine (iCurveOf_c s W3).mono ?_
      rintro e W4 ⟨v, rfl, ho, hb4⟩
      rw [HW.out]
      rw [HA.out] at ho
      have HB4 := Lib.hid (Blw.after HB3.out hb4)
      obtain ⟨ac, cc, rfl, hcsl, -⟩ := own_csl ho
      rw [List.length_map]
      have HCS := Lib.hid hcsl
      clear hb4 ho hcsl HW HA HB3 hlenZ
      go_wp2_with fail
      refine (HC1.out _ _ _ HCS.out).mono ?_
      rintro e W5 ⟨rfl, hb5⟩
      have HB5 := Lib.hid (Blw.after HB4.out hb5)
      have HX := Lib.hid (HC2.out ac cc W5 (HCS.out.keep hb5))
      clear hb5 HC1 HC2 HCS HB4
      have m1 : IntKind.i64.wrap (2 * (nn : Int)) = 2 * (nn : Int) := IntWalk.i64_in _ (by omega)
      have i1 : (mm : Int) ≤ 2 := by omega
      have i2 : (nn : Int) ≤ (Z.length : Nat) := by omega
      have i3 : (Z.length : Nat) ≤ 2 * (nn : Int) := by omega
      go_wp2_with fail
      refine HX.out.mono ?_
      rintro e W6 ⟨rfl, hb6⟩
      have HB6 := Lib.hid (Blw.after HB5.out hb6)
      clear hb6 HX HB5
      go_wp2_with fail
      go_ret
      exact ⟨rfl, HB6.out⟩

namespace lawFnOnce
set_option maxRecDepth 100000 in
theorem lifted (os : Os) (started : os.Started) (H : Type) (enc : TypeId × Value → H) :
    ReturnsInHanded {} Tryd.checked os 4 .any (fun w args => (Rows.fnOnceSpec.pre enc Tryd.prog Tryd.f4 Rows.fnOnceRow.domain false w args ∧ laidMetH Tryd.prog Rows.fnOnceRow.laid w) ∧ sizedMet enc Tryd.prog Tryd.f4 (OpenSpec.ofChange Rows.fnOnceSpec) false w args)
      (Rows.fnOnceSpec.post enc Tryd.prog Tryd.f4 false true false false) := by
  refine returnsInHanded_of_change_and (C := Tryd.checked) (X := fun w _ => laidMetH Tryd.prog Rows.fnOnceRow.laid w) (fun _ _ _ hh h => h.of_heap hh) own started (by kernel_rfl) Tryd.func4
    (ChangeSpec.witness_shaped (enc := enc) (C := Tryd.checked) (os := os) (X := fun w _ => laidMetH Tryd.prog Rows.fnOnceRow.laid w) false (World.laidAll Tryd.prog os Rows.fnOnceRow.laid) #[.slice none 0 0] 8 (World.laidAll_os _ _ _)
      (World.shaped_of_ZipB (by kernel_rfl) (by kernel_rfl)) (by kernel_rfl) (by kernel_rfl) (by kernel_rfl)
      (by rw [MakeChecks.laidMetH_plain _ _ _ (by kernel_rfl)]; exact laidMet_laidAll _ (by kernel_rfl) (by kernel_rfl))) ?_
  intro W base args ds gs before hval0 hW hc0 _ hL _
  have hval : ∀ (j : Nat) t v, Tryd.f4.params[j]? = some t → args[j]? = some v → Value.okWide Tryd.prog W .any base t v := hval0
  have hW' := hW
  obtain ⟨p, q, hA0, hV, rfl, _, _⟩ := hW
  have hA : DataW.TrodAll enc Tryd.prog W 0 (fun _ => true) true Tryd.f4.params.toList args.toList ds p := hA0
  rw [Tryd.params4] at hA hval
  obtain ⟨v0, vs0, d0, ds0, p0, q0, hargs, rfl, rfl, h0, r0⟩ := trodAll_cons hA
  obtain ⟨rfl, rfl, rfl⟩ := trodAll_nil r0
  obtain rfl : args = #[v0] := by cases args; simp_all
  obtain ⟨rfl, rfl⟩ := trodVars_none hV
  obtain ⟨a, len, cap, rfl⟩ := okWide_slice Tryd.underlying22 (hval 0 22 v0 rfl rfl)
  clear hA0 hval0
  simp only [List.append_nil] at hW'
  have hlt : ∀ x ∈ p0, x.block < W.heap.size := fun x hx => by simpa using hW'.lt x hx
  refine (lawOnce_c a len cap W (code_of h0) (tz_second hL (fun _ => MakeChecks.laidMetH_plain _ _ _ (by kernel_rfl)))).mono fun e W' ⟨he, hg⟩ => ?_
  subst he
  have harg := Below.trod laidOut (by kernel_rfl) (of_decide_eq_true (by kernel_rfl)) h0 hg hlt
  refine ⟨_, rfl, _, _, _, [], p0, [], hW', ?_, ?_, ?_, hg.frame _, fun h => by cases h⟩
  · exact trodAll_cons_mk (shut_bool Tryd.underlying4 _) trodAll_mk0
  · exact trodAll_mk1 harg
  · rfl

theorem holds : Rows.FnOnceSaid :=
  OpenClaim.holds_of_wide 4 Tryd.f4 rfl rfl rfl rfl rfl rfl rfl ⟨rfl, rfl, rfl, rfl, rfl⟩ rfl rfl rfl rfl rfl (by kernel_rfl) Tryd.func4 (by kernel_rfl)
    (of_decide_eq_true (by kernel_rfl)) (by unfold Func.isWrapper; first | (rw [if_pos (by decide +kernel)]; kernel_rfl) | (rw [if_neg (by decide +kernel)]; exact ⟨rfl, rfl⟩))
    (fun os started H enc _ => lifted os started H enc)
theorem proved : Rows.FnOnceCardSaid :=
  Claim7.holds_tied_plain_at .later [] [.data, .data] true (true, "49e1fb2d53e3548c541c58393502efe328f105099822637a7403a9e99f2ee78b") false holds (fun _ h => by cases h) (by kernel_rfl) (fun _ h => by cases h) fnOnce_row_tie rfl ⟨rfl, rfl⟩ (by kernel_rfl) rfl
    (fun f fn hf hfn => by
      obtain rfl : f = 4 := Option.some.inj ((show Tryd.prog.funcNamed "loop.example/dragonnumbers/laws.FnOnce" = some 4 by kernel_rfl).symm.trans hf) |>.symm
      obtain rfl : fn = Tryd.f4 := (Option.some.inj (Tryd.func4.symm.trans hfn)).symm
      exact ⟨by kernel_rfl, fun j t ht => by
        rw [Tryd.params4] at ht
        have hm : t ∈ [22] := by simpa using Array.mem_of_getElem? ht
        have hall : ([22].all fun u => !Tryd.prog.wantsStandIn u) = true := by kernel_rfl
        exact (show Tryd.prog.wantsStandIn t = false by simpa using List.all_eq_true.1 hall t hm)⟩)
    (by kernel_rfl)
end lawFnOnce
end Go.Proofs.YtljmmmkehieboaaDoor

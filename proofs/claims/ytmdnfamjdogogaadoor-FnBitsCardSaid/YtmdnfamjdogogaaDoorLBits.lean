/- FnBits: whatever the code draws, both sides write the same eight digits, and the opposite number has another first digit and the same others; the listed variables are as the library's text lays them. -/
import Derived.Test.YtmdnfamjdogogaaDoorZx
import Derived.Test.YtmdnfamjdogogaaDoorZd
import Derived.Test.YtmdnfamjdogogaaDoorBq
import Derived.Deep.Cut
import Derived.Test.YtmdnfamjdogogaaDoorBaseP
import Derived.Test.YtmdnfamjdogogaaDoorTie
import Derived.Test.YtmdnfamjdogogaaDoorCards
import Derived.OpenShut
import Derived.LaidMore
import Derived.Lay
import Derived.SevenTiedAt
import Derived.Stop.Joined
import Derived.Stop.LaidErr
import Derived.ChangeVars
import Derived.ChangeStays
namespace Go.Proofs.YtmdnfamjdogogaaDoor
set_option linter.unusedSimpArgs false
set_option linter.unusedVariables false
open Go.ChangeShapes Go.WideShapes Go.ChangeAt Go.RowKit Go.Joins

theorem neg_flip {x : Nat} (h : x < 4294967296) : Op.negFloat .f32 x = flip x := by
  have e31 : (2 : Nat) ^ 31 = 2147483648 := by decide
  show x ^^^ 2 ^ 31 = _
  unfold flip
  rw [xor_top (show x < 2 ^ (31 + 1) from h), e31]
  split <;> omega
theorem drawWordBits_c (v : Value) (w : World) (h : Code v w) : Calls Tryd.prog 9 #[v] w fun e w' => (∃ x, e = .returned (.float .f32 x) ∧ Nn x) ∧ Below w.heap.size w w' := by
  go_enter Tryd.func9, Tryd.ntmps9
  go_wp2_with fail
  refine (l6Open_c v w h).mono ?_
  rintro e W1 ⟨sv, rfl, hr, hs, hz, hb⟩
  go_wp2_with fail
  refine (l92Float_c w.heap.size sv 0 W1 hs hr ⟨by omega, by omega⟩).mono ?_
  rintro e W2 ⟨v', p1, ⟨x, rfl, hx⟩, rfl, q0, q1, h1, hs1, m1⟩
  have HX := Lib.hid hx
  have HB := Lib.hid (m1.2.2.2 w hb (Nat.le_refl _))
  clear hx m1 hs1 h1 hr hs hb
  go_wp2_with fail
  go_ret
  exact ⟨⟨x, rfl, HX.out⟩, HB.out⟩
theorem toL_extractH (s : ByteArray) (i j : Nat) : toL (s.extract i j) = ((toL s).drop i).take (j - i) := by
  rw [show s = bs (toL s) from (bs_toL s).symm]
  show toL ((ByteArray.mk (toL s).toArray).extract i j) = _
  rw [ByteArray.extract_mk]
  simp [toL, bs]
theorem bits_facts {l m : List UInt8} {T M : ByteArray} (hT : T = bs l) (hM : M = bs m) (h1 : l.length = 8) (h2 : m.length = 8) (hd : m.drop 1 = l.drop 1) (hh : m.head? ≠ l.head?) :
    ((M.extract 1 M.size).toList == (T.extract 1 T.size).toList) = true ∧ ∀ (a : 0 < M.size) (b : 0 < T.size), ((M[0].toNat : Int) != (T[0].toNat : Int)) = true := by
  have e1 : M.size = 8 := by rw [hM, hbs_sz, h2]
  have e2 : T.size = 8 := by rw [hT, hbs_sz, h1]
  refine ⟨?_, fun a b => ?_⟩
  · rw [toList_toL, toList_toL, toL_extractH, toL_extractH, e1, e2, hM, hT, toL_bs, toL_bs, hd]; simp
  · have g1 := toL_get M 0 a
    have g2 := toL_get T 0 b
    have k1 : (toL M)[0]? = m[0]? := by rw [hM, toL_bs]
    have k2 : (toL T)[0]? = l[0]? := by rw [hT, toL_bs]
    rw [bne_iff_ne]
    intro e
    apply hh
    rw [List.head?_eq_getElem?, List.head?_eq_getElem?, ← k1, ← k2, g1, g2]
    exact congrArg some (UInt8.toNat_inj.1 (by omega))
set_option maxRecDepth 100000 in
set_option maxHeartbeats 8000000 in
theorem lawBits_c (a : Option Addr) (len cap : Nat) (w : World) (hc : len ≤ 1048576 → Code (.slice a len cap) w) (hT : Tz w) : Calls Tryd.prog 4 #[.slice a len cap] w fun e w' => e = .returned (.bool true) ∧ Below w.heap.size w w' := by
  have h6 := hT.pos
  have HT := Lib.hid hT
  clear hT
  by_cases hlen : 1048576 < len
  · go_enter Tryd.func4, Tryd.ntmps4
    go_wp2_with fail
    go_ret
    exact ⟨rfl, by (first | ((repeat' with_reducible first | assumption | exact Below.refl _ _ | apply Blw.alloc | apply Blw.drew | apply Blw.drewN | (refine Blw.after ?_ (by assumption)) | (refine Blw.set ?_ (by first | (dsimp only; omega) | (simp; omega)) _)); done) | (repeat' (first | assumption | exact Below.refl _ _ | apply Blw.alloc | apply Blw.drew | apply Blw.drewN | (refine Blw.after ?_ (by assumption)) | (refine Blw.set ?_ (by first | (dsimp only; omega) | (simp; done) | (simp; omega)) _))))⟩
  · have hc' := hc (by omega)
    clear hc
    go_enter Tryd.func4, Tryd.ntmps4
    go_wp2_with fail
    refine (drawWordBits_c _ w hc').mono ?_
    rintro e W1 ⟨⟨x, rfl, hx⟩, hb1⟩
    clear hc'
    have HT1 := Lib.hid (HT.out.keep h6 hb1)
    have HB1 := Lib.hid hb1
    have HX := Lib.hid hx
    have ho : FloatKind.f32.format.order x x = some .eq := ord_self hx.2
    have f1 : ∀ w, (Op.unary UnOp.neg (.float .f32 x)).run Tryd.prog w = .ok (.float .f32 (flip x)) w := fun w => by simp [Op.unary, neg_flip hx.1]
    have hfl : flip x < 4294967296 := by have := hx.1; unfold flip; split <;> omega
    obtain ⟨hd, hh⟩ := flip_hex hx.1
    have HD := Lib.hid hd
    have HH := Lib.hid hh
    clear hb1 hx HT hd hh
    go_wp2_with fail
    refine (iWordBits_c x W1 HX.out.1 HT1.out).mono ?_
    rintro e W2 ⟨rfl, hb2⟩
    have hp1 := HT1.out.pos
    have HT2 := Lib.hid (HT1.out.keep hp1 hb2)
    have HB2 := Lib.hid (Blw.after HB1.out hb2)
    clear hb2 hp1 HT1 HB1
    go_wp2_with fail
    refine (sWordBits_c x W2 HX.out.1).mono ?_
    rintro e w1 ⟨rfl, rfl⟩
    have HM := Lib.hid (iWordBits_c (flip x) W2 hfl HT2.out)
    obtain ⟨T, hT⟩ : ∃ T, T = bs (hl 7 x) := ⟨_, rfl⟩
    obtain ⟨M, hM⟩ : ∃ M, M = bs (hl 7 (flip x)) := ⟨_, rfl⟩
    obtain ⟨b1, b2⟩ := bits_facts hT hM (hl_len _ _) (hl_len _ _) HD.out HH.out
    have hz1 : T.size = 8 := by rw [hT, hbs_sz, hl_len]
    have hz2 : M.size = 8 := by rw [hM, hbs_sz, hl_len]
    have z1 : ((T.size : Int) == 8) = true := by rw [hz1]; rfl
    have z2 : (1 : Int) ≤ (T.size : Int) := by omega
    have z3 : (1 : Int) ≤ (M.size : Int) := by omega
    have z4 : T.size ≤ 100 := by omega
    have z5 : M.size ≤ 100 := by omega
    rw [← hT]
    rw [← hM] at HM
    have p1 : 0 < M.size := by omega
    have p2 : 0 < T.size := by omega
    have B2 := b2 p1 p2
    clear hz1 hz2 hT hM HD HH b2
    go_wp2_with fail
    refine HM.out.mono ?_
    rintro e W3 ⟨rfl, hb3⟩
    have HB3 := Lib.hid (Blw.after HB2.out hb3)
    clear hb3 HM HB2 HT2
    go_upto_region 9 with fail
    have hNE : ∀ w, Nonempty (BelowW w) := BelowW.none
    refine wp_region_below (by kernel_rfl) (by kernel_rfl) ?_
    repeat
      (with_reducible refine wpQuiet_step ?_
       intro K hK
       go_simp
       first
         | (refine hK _ ?_; clear hK K)
         | (apply Exists.intro
            refine ⟨fun xW => ?_, hK _ ?_⟩
            (fail)
            clear hK K))
    with_reducible refine wpQuiet_nil ?_
    rintro _ ⟨⟨w2, hb2⟩, rfl⟩
    try dsimp only
    rename_i w2
    go_wp2_with fail
    go_ret
    exact ⟨rfl, Blw.after HB3.out hb2⟩
namespace lawFnBits
set_option maxRecDepth 100000 in
theorem lifted (os : Os) (started : os.Started) (H : Type) (enc : TypeId × Value → H) :
    ReturnsInHanded {} Tryd.checked os 4 .any (fun w args => (Rows.fnBitsSpec.pre enc Tryd.prog Tryd.f4 Rows.fnBitsRow.domain false w args ∧ laidMetH Tryd.prog Rows.fnBitsRow.laid w) ∧ sizedMet enc Tryd.prog Tryd.f4 (OpenSpec.ofChange Rows.fnBitsSpec) false w args)
      (Rows.fnBitsSpec.post enc Tryd.prog Tryd.f4 false true false false) := by
  refine returnsInHanded_of_change_and (C := Tryd.checked) (X := fun w _ => laidMetH Tryd.prog Rows.fnBitsRow.laid w) (fun _ _ _ hh h => h.of_heap hh) own started (by kernel_rfl) Tryd.func4
    (ChangeSpec.witness_shaped (enc := enc) (C := Tryd.checked) (os := os) (X := fun w _ => laidMetH Tryd.prog Rows.fnBitsRow.laid w) false (World.laidAll Tryd.prog os Rows.fnBitsRow.laid) #[.slice none 0 0] 8 (World.laidAll_os _ _ _)
      (World.shaped_of_ZipB (by kernel_rfl) (by kernel_rfl)) (by kernel_rfl) (by kernel_rfl) (by kernel_rfl)
      (by rw [MakeChecks.laidMetH_plain _ _ _ (by kernel_rfl)]; exact laidMet_laidAll _ (by kernel_rfl) (by kernel_rfl))) ?_
  intro W base args ds gs before hval0 hW hc0 _ hL _
  have hval : ∀ (j : Nat) t v, Tryd.f4.params[j]? = some t → args[j]? = some v → Value.okWide Tryd.prog W .any base t v := hval0
  have hW' := hW
  obtain ⟨p, q, hA0, hV, rfl, _, _⟩ := hW
  have hA : DataW.TrodAll enc Tryd.prog W 0 (fun _ => true) true Tryd.f4.params.toList args.toList ds p := hA0
  rw [Tryd.params4] at hA hval
  obtain ⟨v0, vs0, d0, ds0, p0, q0, hargs, rfl, rfl, h0, r0⟩ := trodAll_cons hA
  obtain ⟨rfl, rfl, rfl⟩ := trodAll_nil r0
  obtain rfl : args = #[v0] := by cases args; simp_all
  obtain ⟨rfl, rfl⟩ := trodVars_none hV
  obtain ⟨a, len, cap, rfl⟩ := okWide_slice Tryd.underlying25 (hval 0 25 v0 rfl rfl)
  clear hA0 hval0
  simp only [List.append_nil] at hW'
  have hlt : ∀ x ∈ p0, x.block < W.heap.size := fun x hx => by simpa using hW'.lt x hx
  refine (lawBits_c a len cap W (code_of h0) (tz_second hL (fun _ => MakeChecks.laidMetH_plain _ _ _ (by kernel_rfl)))).mono fun e W' ⟨he, hg⟩ => ?_
  subst he
  have harg := Below.trod laidOut (by kernel_rfl) (of_decide_eq_true (by kernel_rfl)) h0 hg hlt
  refine ⟨_, rfl, _, _, _, [], p0, [], hW', ?_, ?_, ?_, hg.frame _, fun h => by cases h⟩
  · exact trodAll_cons_mk (shut_bool Tryd.underlying4 _) trodAll_mk0
  · exact trodAll_mk1 harg
  · rfl

theorem holds : Rows.FnBitsSaid :=
  OpenClaim.holds_of_wide 4 Tryd.f4 rfl rfl rfl rfl rfl rfl rfl ⟨rfl, rfl, rfl, rfl, rfl⟩ rfl rfl rfl rfl rfl (by kernel_rfl) Tryd.func4 (by kernel_rfl)
    (of_decide_eq_true (by kernel_rfl)) (by unfold Func.isWrapper; first | (rw [if_pos (by decide +kernel)]; kernel_rfl) | (rw [if_neg (by decide +kernel)]; exact ⟨rfl, rfl⟩))
    (fun os started H enc _ => lifted os started H enc)
theorem proved : Rows.FnBitsCardSaid :=
  Claim7.holds_tied_plain_at .later [] [.data, .data, .data] true (true, "37a7ac331116b5fe4b5544570967ab0f56799b0966c5fb0f7d1e3df14251ea73") false holds (fun _ h => by cases h) (by kernel_rfl) (fun _ h => by cases h) fnBits_row_tie rfl ⟨rfl, rfl⟩ (by kernel_rfl) rfl
    (fun f fn hf hfn => by
      obtain rfl : f = 4 := Option.some.inj ((show Tryd.prog.funcNamed "loop.example/dragonnumbers/laws.FnBits" = some 4 by kernel_rfl).symm.trans hf) |>.symm
      obtain rfl : fn = Tryd.f4 := (Option.some.inj (Tryd.func4.symm.trans hfn)).symm
      exact ⟨by kernel_rfl, fun j t ht => by
        rw [Tryd.params4] at ht
        have hm : t ∈ [25] := by simpa using Array.mem_of_getElem? ht
        have hall : ([25].all fun u => !Tryd.prog.wantsStandIn u) = true := by kernel_rfl
        exact (show Tryd.prog.wantsStandIn t = false by simpa using List.all_eq_true.1 hall t hm)⟩)
    (by kernel_rfl)
end lawFnBits
end Go.Proofs.YtmdnfamjdogogaaDoor

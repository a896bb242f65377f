/- FnNear (P50): at every code the law answers true: what the program's TileNear gives is what the model gives; the opposite of each number is in the list, 0 is not, and there are 4 for the level 0 and 6 for each other one; the listed variables are as the program's text lays them. -/
import Derived.Test.YtjjpjjoadphapaaDoorZ4
namespace Go.Proofs.YtjjpjjoadphapaaDoor
set_option linter.unusedSimpArgs false
set_option linter.unusedVariables false
open Go.ChangeShapes Go.WideShapes Go.ChangeAt Go.RowKit Go.Joins

theorem nearS_rel : ∀ n ∈ List.range 9, (∀ q ∈ nearS n, ¬ (q.1 = 0 ∧ q.2 = 0) ∧ (0 - q.1, 0 - q.2) ∈ nearS n) ∧ (nearS n).length = (if n = 0 then 4 else 6) := by decide +kernel
/-- among the first k there is the opposite one -/
def fndN (L : List ZZ) (x y : Int) (k : Nat) : Bool := (L.take k).any fun q => decide (q.1 = 0 - x) && decide (q.2 = 0 - y)
theorem fndN_succ {L : List ZZ} {k : Nat} {u v : Int} (x y : Int) (h : L[k]? = some (u, v)) : fndN L x y (k + 1) = (fndN L x y k || (decide (u = 0 - x) && decide (v = 0 - y))) := by
  obtain ⟨hk, e⟩ := List.getElem?_eq_some_iff.1 h
  unfold fndN
  rw [List.take_add_one, h]
  simp
theorem fndN_all {L : List ZZ} {x y : Int} (h : (0 - x, 0 - y) ∈ L) : fndN L x y L.length = true := by
  unfold fndN
  rw [List.take_length, List.any_eq_true]
  exact ⟨_, h, by simp⟩
def NrwRel (N : Nat) (w : World) (m : Nat) (i : Value) (wr : World) : Prop := ∃ k : Nat, k + m = N ∧ i = .int .i64 k ∧ Below w.heap.size w wr
def NrwIn (L : List ZZ) (x y : Int) (w : World) (m : Nat) (f i : Value) (wr : World) : Prop := ∃ k : Nat, k + m = L.length ∧ f = .bool (fndN L x y k) ∧ i = .int .i64 k ∧ Below w.heap.size w wr
set_option maxRecDepth 100000 in
set_option maxHeartbeats 4000000 in
theorem lawNear_c (a : Option Addr) (len cap : Nat) (w : World) (hc : len ≤ 1048576 → Code (.slice a len cap) w) (hT : Two w) : Calls Tryd.prog 3 #[.slice a len cap] w fun e w' => e = .returned (.bool true) ∧ Below w.heap.size w w' := by
  have HT := Lib.hid hT
  have hpos := hT.pos
  clear hT
  by_cases hl : 1048576 < len
  · go_enter Tryd.func3, Tryd.ntmps3
    go_wp2
    go_ret
    exact ⟨rfl, by (first | ((repeat' with_reducible first | assumption | exact Below.refl _ _ | apply Blw.alloc | apply Blw.drew | apply Blw.drewN | (refine Blw.after ?_ (by assumption)) | (refine Blw.set ?_ (by first | (dsimp only; omega) | (simp; omega)) _)); done) | (repeat' (first | assumption | exact Below.refl _ _ | apply Blw.alloc | apply Blw.drew | apply Blw.drewN | (refine Blw.after ?_ (by assumption)) | (refine Blw.set ?_ (by first | (dsimp only; omega) | (simp; done) | (simp; omega)) _))))⟩
  · go_enter Tryd.func3, Tryd.ntmps3
    go_wp2_with fail
    refine (drawTileNear_c _ w (hc (by omega))).mono ?_
    rintro e W1 ⟨k, rfl, hk, hB⟩
    clear hc
    have HB1 := Lib.hid hB
    have HT1 := Lib.hid (HT.out.keep hpos hB)
    have hpos1 : 2 < W1.heap.size := Nat.lt_of_lt_of_le hpos hB.size
    have hN := nearT_len k
    clear hB
    go_wp2_with fail
    refine (iNear_c k W1 HT1.out hpos1).mono ?_
    rintro e w1 ⟨v0, rfl, ⟨a0, c0, rfl, hg0, -⟩, hb1⟩
    have HG0 := Lib.hid hg0
    have HB2 := Lib.hid (Blw.after HB1.out hb1)
    clear hg0 hb1
    go_wp2_with fail
    refine (sNear_c k w1).mono ?_
    rintro e w2 ⟨v1, rfl, ⟨a1, c1, rfl, hg1, -⟩, hb2⟩
    have HG1 := Lib.hid hg1
    have HG02 := Lib.hid (HG0.out.keep hb2)
    have HB3 := Lib.hid (Blw.after HB2.out hb2)
    clear hg1 hb2
    rcases Bool.eq_false_or_eq_true (inR 0 8 k) with hr | hr
    · have H1 := inR_le hr
      obtain ⟨n, rfl⟩ : ∃ n : Nat, k = (n : Int) := ⟨k.toNat, by omega⟩
      have hn : n ∈ List.range 9 := by simp; omega
      have HL := Lib.hid (show nearT (n : Int) = nearS n by unfold nearT; rw [if_pos hr, Int.toNat_natCast])
      have HR := Lib.hid (nearS_rel n hn)
      rw [← HL.out] at HR
      have HM := Lib.hid (show ∀ q ∈ nearT (n : Int), q.1.natAbs ≤ 200 ∧ q.2.natAbs ≤ 200 by rw [HL.out]; exact (nearS_len n hn).2.2)
      rw [hr]
      clear hr HL
      generalize nearT (n : Int) = L at *
      go_wp2_with fail
      refine (sameGauss_c a0 a1 c0 c1 L w2 hN HG02.out HG1.out).mono ?_
      rintro e w3 ⟨rfl, hb3⟩
      have HG03 := Lib.hid (HG02.out.keep hb3)
      have HB4 := Lib.hid (Blw.after HB3.out hb3)
      clear hb3
      go_wp2_with fail
      go_loopg [8] L.length (fun m i wr => NrwRel L.length w3 m i wr)
      case atStart => exact ⟨0, by omega, rfl, Below.refl _ _⟩
      case round =>
        obtain ⟨j, hj, rfl, hBr⟩ := hrel
        obtain ⟨g0, hg0⟩ : ∃ g0, g0 = gk := ⟨_, rfl⟩
        have HG := Lib.hid hg0
        clear hg0
        by_cases hlt : j < L.length
        · obtain ⟨⟨x, y⟩, hxy⟩ : ∃ q, L[j]? = some q := ⟨_, List.getElem?_eq_getElem hlt⟩
          have hmem : (x, y) ∈ L := List.mem_of_getElem? hxy
          obtain ⟨hne, hop⟩ := HR.out.1 _ hmem
          have HF := Lib.hid (fndN_all hop)
          have hxyb := HM.out _ hmem
          have HNE := Lib.hid hne
          have HBr := Lib.hid hBr
          have HJ := Lib.hid hj
          rcases HG03.out.keep hBr with h0 | ⟨g, rfl, hg⟩
          · subst h0; simp at hlt
          have HGc := Lib.hid hg
          obtain ⟨d0, d1⟩ := hg j _ _ hxy
          have Lg : g < wr.heap.size := World.block_lt_of_cell? wr _ d0
          have HD0 := Lib.hid d0
          have HD1 := Lib.hid d1
          have HXY := Lib.hid hxy
          dsimp only at hxyb
          have s0 : IntKind.i64.wrap (0 - x) = 0 - x := IntWalk.i64_in _ (by omega)
          have s1 : IntKind.i64.wrap (0 - y) = 0 - y := IntWalk.i64_in _ (by omega)
          have t0 : IntKind.i64.wrap (-x) = -x := IntWalk.i64_in _ (by omega)
          have t1 : IntKind.i64.wrap (-y) = -y := IntWalk.i64_in _ (by omega)
          clear hg hxy hop hne d0 d1 hBr hj hmem
          go_wp2_with fail
          go_loopg [9, 10] L.length (fun m f i wq => NrwIn L x y wr m f i wq)
          case atStart => exact ⟨0, by omega, by simp [fndN], rfl, Below.refl _ _⟩
          case round =>
            obtain ⟨k, hk, rfl, rfl, hBq⟩ := hrel
            have HK := Lib.hid hk
            have HBq := Lib.hid hBq
            clear hk
            by_cases hlk : k < L.length
            · obtain ⟨⟨u, v⟩, huv⟩ : ∃ q, L[k]? = some q := ⟨_, List.getElem?_eq_getElem hlk⟩
              have hS := fndN_succ x y huv
              have HS := Lib.hid hS
              obtain ⟨f0, f1⟩ := HGc.out k _ _ huv
              have c0 := keepcell hBq f0
              have c1 := keepcell hBq f1
              have e0 := keepcell hBq HD0.out
              have e1 := keepcell hBq HD1.out
              have Lq : g < wr.heap.size := World.block_lt_of_cell? wr _ c0
              have xc0 := fun z : BelowW wr => keepcell z.kept c0
              have xc1 := fun z : BelowW wr => keepcell z.kept c1
              have xe0 := fun z : BelowW wr => keepcell z.kept e0
              have xe1 := fun z : BelowW wr => keepcell z.kept e1
              clear huv f0 f1 c0 c1 e0 e1 hBq hS
              generalize fndN L x y k = F at *
              rcases Bool.eq_false_or_eq_true (decide (u = 0 - x)) with hu | hu <;> rcases Bool.eq_false_or_eq_true (decide (v = 0 - y)) with hv | hv <;> cases F
              all_goals
                have hF' := HS.out
                rw [hu, hv] at hF'
                simp only [Bool.and_true, Bool.and_false, Bool.true_and, Bool.false_and, Bool.or_true, Bool.or_false, Bool.true_or, Bool.false_or] at hF'
                have HS' := Lib.hid hF'
                clear hF' HS
                simp only [Int.zero_sub] at hu hv
                have hu1 : (u == -x) = decide (u = -x) := rfl
                have hv1 : (v == -y) = decide (v = -y) := rfl
                rw [hu] at hu1
                rw [hv] at hv1
                go_wp2_with fail
                have hNE : ∀ w, Nonempty (BelowW w) := BelowW.none
                refine wp_region_below (by kernel_rfl) (by kernel_rfl) ?_
                repeat
                  (with_reducible refine wpQuiet_step ?_
                   intro K hK
                   go_simp
                   first
                     | (refine hK _ ?_; clear hK K)
                     | (apply Exists.intro
                        refine ⟨fun xW => ?_, hK _ ?_⟩
                        (fail)
                        clear hK K))
                with_reducible refine wpQuiet_nil ?_
                rintro _ ⟨⟨w2, hb2⟩, rfl⟩
                try dsimp only
                go_wp2_with fail
                go_roundg (gk - 1)
                case measure => have := HK.out; omega
                case rel => exact ⟨k + 1, by have := HK.out; omega, by rw [HS'.out], by go_num, Blw.after HBq.out hb2⟩
            · have hkL : k = L.length := by have := HK.out; omega
              subst hkL
              rw [HF.out]
              have c0 := keepcell hBq HD0.out
              have c1 := keepcell hBq HD1.out
              have HBX := Lib.hid (Blw.after HBr.out hBq)
              clear hBq
              go_wp2_with fail
              all_goals try (exfalso; exact HNE.out ⟨by assumption, by assumption⟩)
              all_goals
                go_roundg (g0 - 1)
                case measure => have := HJ.out; have := HG.out; omega
                case rel => exact ⟨j + 1, by have := HJ.out; have := HG.out; omega, by go_num, HBX.out⟩
        · have HBr := Lib.hid (Blw.after HB4.out hBr)
          have HL2 := Lib.hid HR.out.2
          clear hBr
          have hl2 := HL2.out
          by_cases hn0 : n = 0
          · subst hn0
            rw [if_pos rfl] at hl2
            rw [hl2] at hlt
            go_wp2_with fail
            go_ret
            exact ⟨rfl, HBr.out⟩
          · rw [if_neg hn0] at hl2
            rw [hl2] at hlt
            have h1 : ((n : Int) == 0) = false := by simp; omega
            have h2 : (0 : Int) < (n : Int) := by omega
            go_wp2_with fail
            go_ret
            exact ⟨by simp [show 0 < n by omega], HBr.out⟩
    · rw [hr]
      clear hr
      generalize nearT k = L at *
      go_wp2_with fail
      refine (sameGauss_c a0 a1 c0 c1 L w2 hN HG02.out HG1.out).mono ?_
      rintro e w3 ⟨rfl, hb3⟩
      have HB4 := Lib.hid (Blw.after HB3.out hb3)
      have HG03 := Lib.hid (HG02.out.keep hb3)
      have HG13 := Lib.hid (HG1.out.keep hb3)
      clear hb3
      go_wp2_with fail
      refine (sameGauss_c a0 a1 c0 c1 L w3 hN HG03.out HG13.out).mono ?_
      rintro e w4 ⟨rfl, hb4⟩
      have HB5 := Lib.hid (Blw.after HB4.out hb4)
      clear hb4
      go_wp2_with fail
      go_ret
      exact ⟨rfl, HB5.out⟩

namespace lawFnNear
set_option maxRecDepth 100000 in
theorem lifted (os : Os) (started : os.Started) (H : Type) (enc : TypeId × Value → H) :
    ReturnsInHanded {} Tryd.checked os 3 .any (fun w args => (Rows.fnNearSpec.pre enc Tryd.prog Tryd.f3 Rows.fnNearRow.domain false w args ∧ laidMetH Tryd.prog Rows.fnNearRow.laid w) ∧ sizedMet enc Tryd.prog Tryd.f3 (OpenSpec.ofChange Rows.fnNearSpec) false w args)
      (Rows.fnNearSpec.post enc Tryd.prog Tryd.f3 false true false false) := by
  refine returnsInHanded_of_change_and (C := Tryd.checked) (X := fun w _ => laidMetH Tryd.prog Rows.fnNearRow.laid w) (fun _ _ _ hh h => h.of_heap hh) own started (by kernel_rfl) Tryd.func3
    (ChangeSpec.witness_shaped (enc := enc) (C := Tryd.checked) (os := os) (X := fun w _ => laidMetH Tryd.prog Rows.fnNearRow.laid w) false (World.laidAll Tryd.prog os Rows.fnNearRow.laid) #[.slice none 0 0] 8 (World.laidAll_os _ _ _)
      (World.shaped_of_ZipB (by kernel_rfl) (by kernel_rfl)) (by kernel_rfl) (by kernel_rfl) (by kernel_rfl)
      (by rw [MakeChecks.laidMetH_plain _ _ _ (by kernel_rfl)]; exact laidMet_laidAll _ (by kernel_rfl) (by kernel_rfl))) ?_
  intro W base args ds gs before hval0 hW hc0 _ hL _
  have hval : ∀ (j : Nat) t v, Tryd.f3.params[j]? = some t → args[j]? = some v → Value.okWide Tryd.prog W .any base t v := hval0
  have hW' := hW
  obtain ⟨p, q, hA0, hV, rfl, _, _⟩ := hW
  have hA : DataW.TrodAll enc Tryd.prog W 0 (fun _ => true) true Tryd.f3.params.toList args.toList ds p := hA0
  rw [Tryd.params3] at hA hval
  obtain ⟨v0, vs0, d0, ds0, p0, q0, hargs, rfl, rfl, h0, r0⟩ := trodAll_cons hA
  obtain ⟨rfl, rfl, rfl⟩ := trodAll_nil r0
  obtain rfl : args = #[v0] := by cases args; simp_all
  obtain ⟨rfl, rfl⟩ := trodVars_none hV
  obtain ⟨a, len, cap, rfl⟩ := okWide_slice Tryd.underlying22 (hval 0 22 v0 rfl rfl)
  clear hA0 hval0
  simp only [List.append_nil] at hW'
  have hlt : ∀ x ∈ p0, x.block < W.heap.size := fun x hx => by simpa using hW'.lt x hx
  refine (lawNear_c a len cap W (code_of h0) (two_second hL (fun _ => MakeChecks.laidMetH_plain _ _ _ (by kernel_rfl)))).mono fun e W' ⟨he, hg⟩ => ?_
  subst he
  have harg := Below.trod laidOut (by kernel_rfl) (of_decide_eq_true (by kernel_rfl)) h0 hg hlt
  refine ⟨_, rfl, _, _, _, [], p0, [], hW', ?_, ?_, ?_, hg.frame _, fun h => by cases h⟩
  · exact trodAll_cons_mk (shut_bool Tryd.underlying4 _) trodAll_mk0
  · exact trodAll_mk1 harg
  · rfl

theorem holds : Rows.FnNearSaid :=
  OpenClaim.holds_of_wide 3 Tryd.f3 rfl rfl rfl rfl rfl rfl rfl ⟨rfl, rfl, rfl, rfl, rfl⟩ rfl rfl rfl rfl rfl (by kernel_rfl) Tryd.func3 (by kernel_rfl)
    (of_decide_eq_true (by kernel_rfl)) (by unfold Func.isWrapper; first | (rw [if_pos (by decide +kernel)]; kernel_rfl) | (rw [if_neg (by decide +kernel)]; exact ⟨rfl, rfl⟩))
    (fun os started H enc _ => lifted os started H enc)
theorem proved : Rows.FnNearCardSaid :=
  Claim7.holds_tied_plain_at .later [] [.data, .data, .data, .data, .pinned] true (true, "679ed1eb336b2e4c65d08dc95b43faca4937d6eaf6294d9589f28525d4b10908") true holds (fun _ h => by cases h) (by kernel_rfl) (fun _ h => by cases h) fnNear_row_tie rfl ⟨rfl, rfl⟩ (by kernel_rfl) rfl
    (fun f fn hf hfn => by
      obtain rfl : f = 3 := Option.some.inj ((show Tryd.prog.funcNamed "loop.example/dragonnumbers/laws.FnNear" = some 3 by kernel_rfl).symm.trans hf) |>.symm
      obtain rfl : fn = Tryd.f3 := (Option.some.inj (Tryd.func3.symm.trans hfn)).symm
      exact ⟨by kernel_rfl, fun j t ht => by
        rw [Tryd.params3] at ht
        have hm : t ∈ [22] := by simpa using Array.mem_of_getElem? ht
        have hall : ([22].all fun u => !Tryd.prog.wantsStandIn u) = true := by kernel_rfl
        exact (show Tryd.prog.wantsStandIn t = false by simpa using List.all_eq_true.1 hall t hm)⟩)
    (by kernel_rfl)
end lawFnNear
end Go.Proofs.YtjjpjjoadphapaaDoor

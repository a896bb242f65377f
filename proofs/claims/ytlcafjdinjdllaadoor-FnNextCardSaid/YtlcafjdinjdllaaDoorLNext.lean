/- FnNext: whatever the code draws, the next expansion of both sides is the same, it is no shorter, and its binary number is the next one. -/
import Derived.Test.YtlcafjdinjdllaaDoorTwo
import Derived.Test.YtlcafjdinjdllaaDoorDrawN
import Derived.Test.YtlcafjdinjdllaaDoorBaseP
import Derived.Test.YtlcafjdinjdllaaDoorTie
import Derived.Test.YtlcafjdinjdllaaDoorCards
import Derived.OpenShut
import Derived.LaidMore
import Derived.Lay
import Derived.SevenTiedAt
import Derived.Stop.Joined
import Derived.Stop.LaidErr
import Derived.ChangeVars
import Derived.ChangeStays
namespace Go.Proofs.YtlcafjdinjdllaaDoor
set_option linter.unusedSimpArgs false
set_option linter.unusedVariables false
open Go.ChangeShapes Go.WideShapes Go.ChangeAt Go.RowKit Go.Joins

theorem idx_low : ∀ (l : List UInt8), (∀ c ∈ l, bitC c = true) → l.head? = some 49 → ((2 ^ l.length : Nat) : Int) ≤ 2 * idxF l := by
  intro l
  induction l using rev_ind with
  | h0 => intro _ h; simp at h
  | h1 l c ih =>
    intro hb hh
    have hc := dg_bit (hb c (by simp))
    rw [idxF_snoc, List.length_append, List.length_singleton, Nat.pow_succ]
    cases l with
    | nil =>
      simp at hh
      subst hh
      decide
    | cons a r =>
      have := ih (fun c hc => hb c (by simp at hc ⊢; rcases hc with h | h; exact Or.inl h; exact Or.inr (Or.inl h))) (by simpa using hh)
      push_cast at this ⊢
      omega
/-- the next one is no shorter -/
theorem next_long {s : ByteArray} {l : List UInt8} (hv : vldB s = true) (h : Good l (idxF (toL s) + 1)) : s.size ≤ l.length := by
  obtain ⟨l1, l2, l3, l4⟩ := (vldL_iff (toL s)).1 hv
  obtain ⟨b, i, g⟩ := h
  have hl1 : 1 ≤ l.length := by cases l with | nil => simp at g | cons a r => simp
  by_cases hz : toL s = [48]
  · have : s.size = 1 := by rw [← toL_len, hz]; rfl
    omega
  · have hh : (toL s).head? = some 49 := by
      have h3 := l3.resolve_left hz
      cases hL : toL s with
      | nil => rw [hL] at l1; simp at l1
      | cons c r =>
        rw [hL] at h3
        have hc := l4 c (by rw [hL]; simp)
        rw [bitC_iff] at hc
        rcases hc with hc | hc
        · exfalso; apply h3; simp; exact UInt8.toNat_inj.1 (by rw [hc]; rfl)
        · simp; exact UInt8.toNat_inj.1 (by rw [hc]; rfl)
    have h1 := idx_low (toL s) l4 hh
    have h2 := (idx_le l b).2
    rw [i] at h2
    rw [toL_len] at h1
    apply Nat.le_of_not_lt
    intro hlt
    have h3 : 2 ^ (l.length + 1) ≤ 2 ^ s.size := Nat.pow_le_pow_right (by decide) (by omega)
    rw [Nat.pow_succ] at h3
    have h4 : ((2 ^ l.length * 2 : Nat) : Int) ≤ ((2 ^ s.size : Nat) : Int) := Int.ofNat_le.2 h3
    push_cast at h1 h2 h4
    omega
/-- what the next expansion's law reads -/
theorem next_facts {s : ByteArray} {l : List UInt8} (hv : vldB s = true) (h : Good l (idxF (toL s) + 1)) (hl : l.length ≤ 50) :
    s.size ≤ (bs l).size ∧ (idxV (bs l) = .tuple #[.int .i64 0, .bool false] ∨ idxV s = .tuple #[.int .i64 (idxF (toL s)), .bool true] ∧ idxV (bs l) = .tuple #[.int .i64 (idxF (toL s) + 1), .bool true]) := by
  have h1 := next_long hv h
  refine ⟨by rw [bs_sz]; exact h1, ?_⟩
  by_cases h40 : l.length ≤ 40
  · right
    obtain ⟨b, i, g⟩ := h
    have hvl : vldB (bs l) = true := by
      show vldL (toL (bs l)) = true
      rw [toL_bs, vldL_iff]
      cases l with
      | nil => simp at g
      | cons a r => refine ⟨by simp, hl, Or.inr ?_, b⟩; simp at g ⊢; rw [g]; decide
    refine ⟨idxV_yes (by simp [idxB, hv]; omega), ?_⟩
    rw [idxV_yes (by simp [idxB, hvl, bs_sz]; omega), toL_bs, i]
  · exact Or.inl (idxV_no (by simp [idxB, bs_sz]; omega))

set_option maxHeartbeats 4000000 in
set_option maxRecDepth 10000 in
theorem lawNext_c (a : Option Addr) (len cap : Nat) (w : World) (hc : len ≤ 1048576 → Code (.slice a len cap) w) (hT : Two w) : Calls Tryd.prog 10 #[.slice a len cap] w fun e w' => e = .returned (.bool true) ∧ Below w.heap.size w w' := by
  have HT := Lib.hid hT
  have h6 := hT.pos
  clear hT
  by_cases hl : 1048576 < len
  · go_enter Tryd.func10, Tryd.ntmps10
    go_wp2_with fail
    go_ret
    exact ⟨rfl, by (repeat' (first | assumption | exact Below.refl _ _ | apply Blw.alloc | apply Blw.drew | apply Blw.drewN | (refine Blw.after ?_ (by assumption)) | (refine Blw.set ?_ (by first | (dsimp only; omega) | (simp; done) | (simp; omega)) _)))⟩
  · have hc' := hc (by omega)
    clear hc
    go_enter Tryd.func10, Tryd.ntmps10
    go_wp2_with fail
    refine (drawNext_c _ w hc').mono ?_
    rintro e W1 ⟨t, rfl, ht, hb1⟩
    clear hc'
    have HT1 := Lib.hid (HT.out.keep h6 hb1)
    have h61 : 6 < W1.heap.size := Nat.lt_of_lt_of_le h6 hb1.size
    go_wp2_with fail
    refine (iDigitsNext_c t W1 HT1.out h61).mono ?_
    rintro e W2 ⟨l, rfl, g1, g0, hb2⟩
    rcases Bool.eq_false_or_eq_true (vldB t) with hv | hv
    · have G := g1 hv
      by_cases h50 : l.length ≤ 50
      · obtain ⟨hlen, hI⟩ := next_facts hv G h50
        have hi := idx_at hv t.size
        rw [take_allB t t.size (Nat.le_refl _)] at hi
        rw [resD_yes G h50]
        have C2 : ∀ w, Calls Tryd.prog 35 #[.string t] w fun e w' => e = .returned (.tuple #[.string (bs l), .bool true]) ∧ Below w.heap.size w w' := fun w => by
          refine (sDigitsNext_c t w).mono ?_
          rintro e w' ⟨m, rfl, k1, k0, hb⟩
          obtain rfl := good_unique _ _ _ G (k1 hv)
          exact ⟨by rw [resD_yes G h50], hb⟩
        have C3 := fun w => iDigitsIndex_c (bs l) w
        have C4 := fun w => iDigitsIndex_c t w
        have hb50 : (bs l).size ≤ 50 := by rw [bs_sz]; exact h50
        generalize bs l = o at *
        clear G g1 g0 h50 hv
        go_wp2_with fail
        refine (C2 W2).mono ?_
        rintro e W3 ⟨rfl, hb3⟩
        rcases hI with hI | ⟨hI1, hI2⟩
        · obtain ⟨y, q, hy⟩ : ∃ y q, idxV t = .tuple #[.int .i64 y, .bool q] := ⟨_, _, rfl⟩
          rw [hI] at C3
          rw [hy] at C4
          go_wp2_with fail
          refine (C3 W3).mono ?_
          rintro e W4 ⟨rfl, hb4⟩
          go_wp2_with fail
          refine (C4 W4).mono ?_
          rintro e W5 ⟨rfl, hb5⟩
          have hB : Below w.heap.size w W5 := Blw.after (Blw.after (Blw.after (Blw.after hb1 hb2) hb3) hb4) hb5
          go_wp2_with fail
          go_ret
          exact ⟨rfl, hB⟩
        · rw [hI2] at C3
          rw [hI1] at C4
          generalize idxF (toL t) = I at *
          obtain ⟨i1, i2⟩ := hi
          go_wp2_with fail
          refine (C3 W3).mono ?_
          rintro e W4 ⟨rfl, hb4⟩
          go_wp2_with fail
          refine (C4 W4).mono ?_
          rintro e W5 ⟨rfl, hb5⟩
          have hB : Below w.heap.size w W5 := Blw.after (Blw.after (Blw.after (Blw.after hb1 hb2) hb3) hb4) hb5
          go_wp2_with fail
          go_ret
          exact ⟨rfl, hB⟩
      · rw [resD_over G (by omega)]
        go_wp2_with fail
        refine (sDigitsNext_c t W2).mono ?_
        rintro e W3 ⟨m, rfl, k1, k0, hb3⟩
        obtain rfl := good_unique _ _ _ G (k1 hv)
        rw [resD_over G (by omega)]
        have hB : Below w.heap.size w W3 := Blw.after (Blw.after hb1 hb2) hb3
        go_wp2_with fail
        go_ret
        exact ⟨rfl, hB⟩
    · rw [g0 hv, resD_nil]
      go_wp2_with fail
      refine (sDigitsNext_c t W2).mono ?_
      rintro e W3 ⟨m, rfl, k1, k0, hb3⟩
      rw [k0 hv, resD_nil]
      have hB : Below w.heap.size w W3 := Blw.after (Blw.after hb1 hb2) hb3
      go_wp2_with fail
      go_ret
      exact ⟨rfl, hB⟩

namespace lawFnNext
set_option maxRecDepth 100000 in
theorem lifted (os : Os) (started : os.Started) (H : Type) (enc : TypeId × Value → H) :
    ReturnsInHanded {} Tryd.checked os 10 .any (fun w args => (Rows.fnNextSpec.pre enc Tryd.prog Tryd.f10 Rows.fnNextRow.domain false w args ∧ laidMetH Tryd.prog Rows.fnNextRow.laid w) ∧ sizedMet enc Tryd.prog Tryd.f10 (OpenSpec.ofChange Rows.fnNextSpec) false w args)
      (Rows.fnNextSpec.post enc Tryd.prog Tryd.f10 false true false false) := by
  refine returnsInHanded_of_change_and (C := Tryd.checked) (X := fun w _ => laidMetH Tryd.prog Rows.fnNextRow.laid w) (fun _ _ _ hh h => h.of_heap hh) own started (by kernel_rfl) Tryd.func10
    (ChangeSpec.witness_shaped (enc := enc) (C := Tryd.checked) (os := os) (X := fun w _ => laidMetH Tryd.prog Rows.fnNextRow.laid w) false (World.laidAll Tryd.prog os Rows.fnNextRow.laid) #[.slice none 0 0] 8 (World.laidAll_os _ _ _)
      (World.shaped_of_ZipB (by kernel_rfl) (by kernel_rfl)) (by kernel_rfl) (by kernel_rfl) (by kernel_rfl)
      (by rw [MakeChecks.laidMetH_plain _ _ _ (by kernel_rfl)]; exact laidMet_laidAll _ (by kernel_rfl) (by kernel_rfl))) ?_
  intro W base args ds gs before hval0 hW hc0 _ hL _
  have hval : ∀ (j : Nat) t v, Tryd.f10.params[j]? = some t → args[j]? = some v → Value.okWide Tryd.prog W .any base t v := hval0
  have hW' := hW
  obtain ⟨p, q, hA0, hV, rfl, _, _⟩ := hW
  have hA : DataW.TrodAll enc Tryd.prog W 0 (fun _ => true) true Tryd.f10.params.toList args.toList ds p := hA0
  rw [Tryd.params10] at hA hval
  obtain ⟨v0, vs0, d0, ds0, p0, q0, hargs, rfl, rfl, h0, r0⟩ := trodAll_cons hA
  obtain ⟨rfl, rfl, rfl⟩ := trodAll_nil r0
  obtain rfl : args = #[v0] := by cases args; simp_all
  obtain ⟨rfl, rfl⟩ := trodVars_none hV
  obtain ⟨a, len, cap, rfl⟩ := okWide_slice Tryd.underlying22 (hval 0 22 v0 rfl rfl)
  clear hA0 hval0
  simp only [List.append_nil] at hW'
  have hlt : ∀ x ∈ p0, x.block < W.heap.size := fun x hx => by simpa using hW'.lt x hx
  refine (lawNext_c a len cap W (code_of h0) (two_second hL (fun _ => MakeChecks.laidMetH_plain _ _ _ (by kernel_rfl)))).mono fun e W' ⟨he, hg⟩ => ?_
  subst he
  have harg := Below.trod laidOut (by kernel_rfl) (of_decide_eq_true (by kernel_rfl)) h0 hg hlt
  refine ⟨_, rfl, _, _, _, [], p0, [], hW', ?_, ?_, ?_, hg.frame _, fun h => by cases h⟩
  · exact trodAll_cons_mk (shut_bool Tryd.underlying4 _) trodAll_mk0
  · exact trodAll_mk1 harg
  · rfl

theorem holds : Rows.FnNextSaid :=
  OpenClaim.holds_of_wide 10 Tryd.f10 rfl rfl rfl rfl rfl rfl rfl ⟨rfl, rfl, rfl, rfl, rfl⟩ rfl rfl rfl rfl rfl (by kernel_rfl) Tryd.func10 (by kernel_rfl)
    (of_decide_eq_true (by kernel_rfl)) (by unfold Func.isWrapper; first | (rw [if_pos (by decide +kernel)]; kernel_rfl) | (rw [if_neg (by decide +kernel)]; exact ⟨rfl, rfl⟩))
    (fun os started H enc _ => lifted os started H enc)
theorem proved : Rows.FnNextCardSaid :=
  Claim7.holds_tied_plain_at .later [] [.data, .data, .data] true (true, "ae5a7e1e5273026bef1a235bdfcbe898f8817563e717396bf1d72361ce9333b6") false holds (fun _ h => by cases h) (by kernel_rfl) (fun _ h => by cases h) fnNext_row_tie rfl ⟨rfl, rfl⟩ (by kernel_rfl) rfl
    (fun f fn hf hfn => by
      obtain rfl : f = 10 := Option.some.inj ((show Tryd.prog.funcNamed "loop.example/dragonnumbers/laws.FnNext" = some 10 by kernel_rfl).symm.trans hf) |>.symm
      obtain rfl : fn = Tryd.f10 := (Option.some.inj (Tryd.func10.symm.trans hfn)).symm
      exact ⟨by kernel_rfl, fun j t ht => by
        rw [Tryd.params10] at ht
        have hm : t ∈ [22] := by simpa using Array.mem_of_getElem? ht
        have hall : ([22].all fun u => !Tryd.prog.wantsStandIn u) = true := by kernel_rfl
        exact (show Tryd.prog.wantsStandIn t = false by simpa using List.all_eq_true.1 hall t hm)⟩)
    (by kernel_rfl)
end lawFnNext
end Go.Proofs.YtlcafjdinjdllaaDoor

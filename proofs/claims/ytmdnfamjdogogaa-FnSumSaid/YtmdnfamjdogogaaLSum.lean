/- FnSum: whatever the code draws, both checksums agree, a 0 behind the list is told from a 1, and an empty list has the first one. -/
import Derived.Test.YtmdnfamjdogogaaDrawM
import Derived.Test.YtmdnfamjdogogaaZb
import Derived.Test.YtmdnfamjdogogaaBaseP
import Derived.Laws.AppendOwnNone
namespace Go.Proofs.Ytmdnfamjdogogaa
set_option linter.unusedSimpArgs false
set_option linter.unusedVariables false
open Go.ChangeShapes Go.WideShapes Go.ChangeAt Go.RowKit Go.Joins

theorem wpList_append_row {P : Program} {w : World} {ops : Array Oper} {rest : List Oper} {o : Oper} {a : Act} {Q : Exit → Act → World → Prop} (hgd : o.guard = none) (s x : Operand) (t : TypeId)
    (ho : o.op = .call { callee := .builtin .append, args := #[s, x], argTypes := #[t, t] })
    (base : Nat) (e : TypeId) (i : TypeInfo) (z : Value) (bytes : Nat) (ht : P.underlying t = some (.slice e)) (hi : P.info? e = some i) (hz : i.zero = some z)
    (hsize : i.size = 1) (hby : i.bytes = bytes) (hzs : z.cells.size = 1)
    (v : Value) (n : Nat) (xs : List Value) (hs : a.eval s = v) (hown : w.ownsRow base e 1 v n xs)
    (vx : Value) (B m : Nat) (news : List Value) (hx : a.eval x = vx) (hrow : w.ownsRow B e 1 vx m news) (h1 : ∀ u ∈ news, u.oneCell' = true)
    (h63 : n + m ≤ maxLen) (hbytes : (n + m) * bytes ≤ 140737488355328) (hbase : base ≤ w.heap.size)
    (h : ∀ v' w', w'.ownsRow base e 1 v' (n + m) (xs ++ news) → w.grownBy w' v.ownBlock → wpList P ops Q rest (a.put o.dst v') w') : wpList P ops Q (o :: rest) a w := by
  have hl := hrow.1
  rcases hrow.2 with ⟨rfl, h0⟩ | ⟨g, cap, cur, rfl, _⟩
  · subst h0
    have hn : news = [] := List.eq_nil_of_length_eq_zero (by omega)
    subst hn
    refine wpList_append_own_none hgd s x t ho base e i 1 ht hi v n xs hs hown hx (h v w (by simpa using hown) ⟨rfl, rfl, rfl, Nat.le_refl _, fun _ _ _ => rfl⟩)
  · exact wpList_append_own w hgd s x t ho base e i z 1 bytes ht hi hz hsize hby hzs (by decide) v n xs hs hown ⟨g, 0, none⟩ m cap news hx hl (hrow.cells (g := g) rfl) h1 h63 hbytes hbase fun v' w' a b _ => h v' w' a b
def wq (q : SZ) : Nat × Nat := (xr q, xi q)
theorem wq_enc (L : List SZ) : L.map encZ = (L.map wq).map encW := by rw [List.map_map]; rfl
theorem wq_w (L : List SZ) : ∀ q ∈ L.map wq, W32 q := by
  intro q hq
  obtain ⟨z, -, rfl⟩ := List.mem_map.1 hq
  exact ⟨(nn_nearest _ _ _).1, (nn_nearest _ _ _).1⟩
theorem w32_app {L : List (Nat × Nat)} {p : Nat × Nat} (h : ∀ q ∈ L, W32 q) (hp : W32 p) : ∀ q ∈ L ++ [p], W32 q := by
  intro q hq
  rcases List.mem_append.1 hq with hq | hq
  · exact h q hq
  · rw [List.mem_singleton] at hq; subst hq; exact hp
theorem oneL (L : List (Nat × Nat)) : ∀ u ∈ L.map encW, u.oneCell' = true := by
  intro u hu
  obtain ⟨q, -, rfl⟩ := List.mem_map.1 hu
  rfl
theorem drawSumPoints_c (v : Value) (w : World) (h : Code v w) : Calls Try.prog 5 #[v] w (PathOf w) := by
  go_enter Try.func5, Try.ntmps5
  go_wp2_with fail
  refine (l6Open_c v w h).mono ?_
  rintro e W1 ⟨sv, rfl, hr, hs, hz, hb⟩
  go_wp2_with fail
  refine (l92Path_c w.heap.size sv 0 W1 hs hr ⟨by omega, by omega⟩).mono ?_
  intro e W2 hp
  obtain ⟨v', L, rfl, h1, h2, h3, h4⟩ := pathOf_of hb hp
  go_wp2_with fail
  go_ret
  exact ⟨v', L, rfl, h1, h2, h3, h4⟩
set_option maxRecDepth 100000 in
set_option maxHeartbeats 8000000 in
theorem lawSum_c (a : Option Addr) (len cap : Nat) (w : World) (hc : len ≤ 1048576 → Code (.slice a len cap) w) : Calls Try.prog 3 #[.slice a len cap] w fun e w' => e = .returned (.bool true) ∧ Below w.heap.size w w' := by
  obtain ⟨i0, hi, hz0, hz1, hz2⟩ := info_parts infoC
  by_cases hl : 1048576 < len
  · go_enter Try.func3, Try.ntmps3
    go_wp2_with fail
    go_ret
    exact ⟨rfl, by (first | ((repeat' with_reducible first | assumption | exact Below.refl _ _ | apply Blw.alloc | apply Blw.drew | apply Blw.drewN | (refine Blw.after ?_ (by assumption)) | (refine Blw.set ?_ (by first | (dsimp only; omega) | (simp; omega)) _)); done) | (repeat' (first | assumption | exact Below.refl _ _ | apply Blw.alloc | apply Blw.drew | apply Blw.drewN | (refine Blw.after ?_ (by assumption)) | (refine Blw.set ?_ (by first | (dsimp only; omega) | (simp; done) | (simp; omega)) _))))⟩
  · have hc' := hc (by omega)
    clear hc
    go_enter Try.func3, Try.ntmps3
    go_wp2_with fail
    refine (drawSumPoints_c _ w hc').mono ?_
    rintro e W1 ⟨v, L0, rfl, ho, hL, -, hb1⟩
    clear hc'
    have hW := wq_w L0
    rw [wq_enc, ← List.length_map (f := wq)] at ho
    rw [← List.length_map (f := wq)] at hL
    generalize L0.map wq = L at *
    have ho0 := ho
    obtain ⟨a1, c1, rfl, hcs, -⟩ := own_csl ho0
    rw [List.length_map] at *
    have HW := Lib.hid hW
    have HC := Lib.hid hcs
    have HO := Lib.hid ho
    have HB1 := Lib.hid hb1
    have HS0 := Lib.hid (sum_sees L)
    have HN := Lib.hid (fun h : L = [] => (show sumN L = 2166136261 by rw [h, sumN_nil]))
    have HA := Lib.hid (fun p (hp : W32 p) => w32_app hW hp)
    clear ho ho0 hcs hb1 hW
    go_wp2_with fail
    refine (iSumPoints_c a1 c1 L W1 (by omega) HW.out HC.out).mono ?_
    rintro e w1 ⟨rfl, rfl⟩
    go_wp2_with fail
    refine (sSumPoints_c a1 c1 L W1 (by omega) HW.out HC.out).mono ?_
    rintro e w1 ⟨rfl, rfl⟩
    have hnz : L = [] ∨ 0 < L.length := by cases L with
      | nil => exact Or.inl rfl
      | cons x l => exact Or.inr (by simp)
    have HNZ := Lib.hid hnz
    clear hnz
    generalize hsn : sumN L = n at *
    have HLen := Lib.hid (Nat.le_refl L.length)
    go_wp2_with (at_builtin; refine wpList_append_row rfl _ _ 23 rfl W1.heap.size 27 i0 (.complex .f32 0 0) 8 Try.underlying23 hi hz0 hz1 hz2 rfl _ 0 [] rfl (World.ownsRow_lit W1 #[] 0 (Nat.le_refl _) (by unfold maxLen; omega) rfl) _ w.heap.size L.length (L.map encW) rfl (HO.out.alloc _) (oneL L) (by unfold maxLen; omega) (by omega) (by simp) ?_)
    intro v2 X2 ho2 hg2
    have hb2 : Below W1.heap.size W1 X2 := Below.grown (by (first | ((repeat' with_reducible first | assumption | exact Below.refl _ _ | apply Blw.alloc | apply Blw.drew | apply Blw.drewN | (refine Blw.after ?_ (by assumption)) | (refine Blw.set ?_ (by first | (dsimp only; omega) | (simp; omega)) _)); done) | (repeat' (first | assumption | exact Below.refl _ _ | apply Blw.alloc | apply Blw.drew | apply Blw.drewN | (refine Blw.after ?_ (by assumption)) | (refine Blw.set ?_ (by first | (dsimp only; omega) | (simp; done) | (simp; omega)) _))))) hg2 (by simp) (fun k hk => by cases hk; exact Nat.le_refl _)
    have HO2 := Lib.hid ho2
    have hzz2 := hb2.size
    clear ho2 hg2
    go_wp2_with (at_builtin; refine wpList_append_own _ rfl _ _ 23 rfl W1.heap.size 27 i0 (.complex .f32 0 0) 1 8 Try.underlying23 hi hz0 hz1 hz2 rfl (by decide) _ _ _ rfl (HO2.out.alloc _) ⟨X2.heap.size, 0, none⟩ 1 1 [encW (0, 0)] rfl rfl (cells1 _ _ _) (one1 _ rfl) (by unfold maxLen; omega) (by omega) (by simp; omega) ?_)
    intro u2 Y2 ho2 hg2 _
    have hc2 : Below W1.heap.size W1 Y2 := Below.grown (by (first | ((repeat' with_reducible first | assumption | exact Below.refl _ _ | apply Blw.alloc | apply Blw.drew | apply Blw.drewN | (refine Blw.after ?_ (by assumption)) | (refine Blw.set ?_ (by first | (dsimp only; omega) | (simp; omega)) _)); done) | (repeat' (first | assumption | exact Below.refl _ _ | apply Blw.alloc | apply Blw.drew | apply Blw.drewN | (refine Blw.after ?_ (by assumption)) | (refine Blw.set ?_ (by first | (dsimp only; omega) | (simp; done) | (simp; omega)) _))))) hg2 (by simp; omega) (fun k hk => (HO2.out.lt k hk).1)
    have hr2 : Y2.ownsRow W1.heap.size 27 1 u2 (L ++ [(0, 0)]).length ((L ++ [(0, 0)]).map encW) := by
      rw [List.length_append, List.length_singleton, List.map_append]; exact ho2
    obtain ⟨a2, c2, rfl, hs2, -⟩ := own_csl hr2
    rw [List.length_map]
    have HX2 := Lib.hid (iSumPoints_c a2 c2 (L ++ [(0, 0)]) Y2 (by rw [List.length_append, List.length_singleton]; omega) (HA.out _ ⟨by decide, by decide⟩) hs2)
    have HK2 := Lib.hid hc2
    clear ho2 hg2 hr2 hs2 HO2 hb2 hzz2 hc2
    generalize hm2 : sumN (L ++ [(0, 0)]) = m2 at *
    generalize hq2 : (L ++ [(0, 0)]).length = q2 at *
    clear hq2
    go_wp2_with fail
    refine HX2.out.mono ?_
    rintro e w1 ⟨rfl, rfl⟩
    clear HX2
    have HP2 := Lib.hid (own_below HO.out (show Below W1.heap.size W1 Y2 from HK2.out))
    go_wp2_with (at_builtin; refine wpList_append_row rfl _ _ 23 rfl Y2.heap.size 27 i0 (.complex .f32 0 0) 8 Try.underlying23 hi hz0 hz1 hz2 rfl _ 0 [] rfl (World.ownsRow_lit Y2 #[] 0 (Nat.le_refl _) (by unfold maxLen; omega) rfl) _ w.heap.size L.length (L.map encW) rfl (HP2.out.alloc _) (oneL L) (by unfold maxLen; omega) (by omega) (by simp) ?_)
    intro v3 X3 ho3 hg3
    have hb3 : Below Y2.heap.size Y2 X3 := Below.grown (by (first | ((repeat' with_reducible first | assumption | exact Below.refl _ _ | apply Blw.alloc | apply Blw.drew | apply Blw.drewN | (refine Blw.after ?_ (by assumption)) | (refine Blw.set ?_ (by first | (dsimp only; omega) | (simp; omega)) _)); done) | (repeat' (first | assumption | exact Below.refl _ _ | apply Blw.alloc | apply Blw.drew | apply Blw.drewN | (refine Blw.after ?_ (by assumption)) | (refine Blw.set ?_ (by first | (dsimp only; omega) | (simp; done) | (simp; omega)) _))))) hg3 (by simp) (fun k hk => by cases hk; exact Nat.le_refl _)
    have HO3 := Lib.hid ho3
    have hzz3 := hb3.size
    clear ho3 hg3
    go_wp2_with (at_builtin; refine wpList_append_own _ rfl _ _ 23 rfl Y2.heap.size 27 i0 (.complex .f32 0 0) 1 8 Try.underlying23 hi hz0 hz1 hz2 rfl (by decide) _ _ _ rfl (HO3.out.alloc _) ⟨X3.heap.size, 0, none⟩ 1 1 [encW (1065353216, 0)] rfl rfl (cells1 _ _ _) (one1 _ rfl) (by unfold maxLen; omega) (by omega) (by simp; omega) ?_)
    intro u3 Y3 ho3 hg3 _
    have hc3 : Below Y2.heap.size Y2 Y3 := Below.grown (by (first | ((repeat' with_reducible first | assumption | exact Below.refl _ _ | apply Blw.alloc | apply Blw.drew | apply Blw.drewN | (refine Blw.after ?_ (by assumption)) | (refine Blw.set ?_ (by first | (dsimp only; omega) | (simp; omega)) _)); done) | (repeat' (first | assumption | exact Below.refl _ _ | apply Blw.alloc | apply Blw.drew | apply Blw.drewN | (refine Blw.after ?_ (by assumption)) | (refine Blw.set ?_ (by first | (dsimp only; omega) | (simp; done) | (simp; omega)) _))))) hg3 (by simp; omega) (fun k hk => (HO3.out.lt k hk).1)
    have hr3 : Y3.ownsRow Y2.heap.size 27 1 u3 (L ++ [(1065353216, 0)]).length ((L ++ [(1065353216, 0)]).map encW) := by
      rw [List.length_append, List.length_singleton, List.map_append]; exact ho3
    obtain ⟨a3, c3, rfl, hs3, -⟩ := own_csl hr3
    rw [List.length_map]
    have HX3 := Lib.hid (iSumPoints_c a3 c3 (L ++ [(1065353216, 0)]) Y3 (by rw [List.length_append, List.length_singleton]; omega) (HA.out _ ⟨by decide, by decide⟩) hs3)
    have HK3 := Lib.hid hc3
    clear ho3 hg3 hr3 hs3 HO3 hb3 hzz3 hc3
    generalize hm3 : sumN (L ++ [(1065353216, 0)]) = m3 at *
    generalize hq3 : (L ++ [(1065353216, 0)]).length = q3 at *
    clear hq3
    go_wp2_with fail
    refine HX3.out.mono ?_
    rintro e w1 ⟨rfl, rfl⟩
    clear HX3
    have HP3 := Lib.hid (own_below HP2.out (show Below Y2.heap.size Y2 Y3 from HK3.out))
    have HB := Lib.hid (show Below w.heap.size w Y3 from Blw.after HB1.out (Blw.after HK2.out HK3.out))
    clear HB1 HK2 HK3 HP2 HP3 HO
    have hne := HS0.out
    have b1 : ((m2 : Int) != (m3 : Int)) = true := by simp; omega
    rcases HNZ.out with h0 | h0
    · have hn := HN.out h0
      subst hn
      rw [h0]
      clear h0 hne
      go_wp2
      go_ret
      exact ⟨rfl, HB.out⟩
    · clear hne
      go_wp2
      go_ret
      exact ⟨rfl, HB.out⟩
namespace lawFnSum
set_option maxRecDepth 100000 in
theorem lifted (os : Os) (started : os.Started) (H : Type) (enc : TypeId × Value → H) :
    ReturnsInHanded {} Try.checked os 3 .any (Rows.fnSumSpec.pre6 enc Try.prog Try.f3 Rows.fnSumRow.domain false) (Rows.fnSumSpec.post enc Try.prog Try.f3 false true false false) := by
  refine returnsInHanded_of_change (C := Try.checked) own started (by kernel_rfl) Try.func3
    (ChangeSpec.witness6 (enc := enc) (C := Try.checked) false ⟨#[], #[.slice none 0 0], []⟩ 8 (by kernel_rfl) (by kernel_rfl) (by kernel_rfl) (by kernel_rfl)) ?_
  intro W base args ds gs before hval0 hW _ _
  have hval : ∀ (j : Nat) t v, Try.f3.params[j]? = some t → args[j]? = some v → Value.okWide Try.prog W .any base t v := hval0
  have hW' := hW
  obtain ⟨p, q, hA0, hV, rfl, _, _⟩ := hW
  have hA : DataW.TrodAll enc Try.prog W 0 (fun _ => true) true Try.f3.params.toList args.toList ds p := hA0
  rw [Try.params3] at hA hval
  obtain ⟨v0, vs0, d0, ds0, p0, q0, hargs, rfl, rfl, h0, r0⟩ := trodAll_cons hA
  obtain ⟨rfl, rfl, rfl⟩ := trodAll_nil r0
  obtain rfl : args = #[v0] := by cases args; simp_all
  obtain ⟨rfl, rfl⟩ := trodVars_none hV
  obtain ⟨a, len, cap, rfl⟩ := okWide_slice Try.underlying22 (hval 0 22 v0 rfl rfl)
  clear hA0 hval0
  simp only [List.append_nil] at hW'
  have hlt : ∀ x ∈ p0, x.block < W.heap.size := fun x hx => by simpa using hW'.lt x hx
  refine (lawSum_c a len cap W (code_of h0)).mono fun e W' ⟨he, hg⟩ => ?_
  subst he
  have harg := Below.trod laidOut (by kernel_rfl) (of_decide_eq_true (by kernel_rfl)) h0 hg hlt
  refine ⟨_, rfl, _, _, _, [], p0, [], hW', ?_, ?_, ?_, hg.frame _, fun h => by cases h⟩
  · exact trodAll_cons_mk (shut_bool Try.underlying4 _) trodAll_mk0
  · exact trodAll_mk1 harg
  · rfl

theorem proved : Rows.FnSumSaid :=
  OpenClaim.holds_of_wide 3 Try.f3 rfl rfl rfl rfl rfl rfl rfl ⟨rfl, rfl, rfl, rfl, rfl⟩ rfl rfl rfl rfl rfl (by kernel_rfl) Try.func3 (by kernel_rfl)
    (of_decide_eq_true (by kernel_rfl)) (by unfold Func.isWrapper; first | (rw [if_pos (by decide +kernel)]; kernel_rfl) | (rw [if_neg (by decide +kernel)]; exact ⟨rfl, rfl⟩))
    (fun os started H enc _ => lifted os started H enc)
end lawFnSum
end Go.Proofs.Ytmdnfamjdogogaa

/- FnDigitsOf: whatever the code draws, the expansion of both sides is the same, it is valid, and its value is the number. -/
import Derived.Test.YtlcafjdinjdllaaDoorDh
import Derived.Test.YtlcafjdinjdllaaDoorDe3
import Derived.Test.YtlcafjdinjdllaaDoorDc
import Derived.Test.YtlcafjdinjdllaaDoorDrawB
import Derived.Test.YtlcafjdinjdllaaDoorBaseP
import Derived.Test.YtlcafjdinjdllaaDoorTie
import Derived.Test.YtlcafjdinjdllaaDoorCards
import Derived.OpenShut
import Derived.LaidMore
import Derived.Lay
import Derived.SevenTiedAt
import Derived.Stop.Joined
import Derived.Stop.LaidErr
import Derived.ChangeVars
import Derived.ChangeStays
namespace Go.Proofs.YtlcafjdinjdllaaDoor
set_option linter.unusedSimpArgs false
set_option linter.unusedVariables false
open Go.ChangeShapes Go.WideShapes Go.ChangeAt Go.RowKit Go.Joins

theorem valF_lead (r : List UInt8) : valF (48 :: r) = valF r := by
  induction r using rev_ind with
  | h0 => rfl
  | h1 l c ih =>
    have e : (48 : UInt8) :: (l ++ [c]) = (48 :: l) ++ [c] := rfl
    rw [e]
    apply Prod.ext
    · show valX _ = valX _
      rw [valX_snoc, valX_snoc]; unfold valX valY; rw [ih]
    · show valY _ = valY _
      rw [valY_snoc, valY_snoc]; unfold valX valY; rw [ih]
theorem valF_strip : ∀ l : List UInt8, valF (strip l) = valF l
  | [] => rfl
  | [c] => rfl
  | c :: d :: r => by
    unfold strip
    split
    · rename_i h; subst h; rw [valF_strip (d :: r), valF_lead]
    · rfl
theorem val_dgs : ∀ (n : Nat) (x y : Int), ms x y = n → valX (dgs x y).reverse = x ∧ valY (dgs x y).reverse = y := by
  intro n
  induction n using Nat.strongRecOn with
  | ind n ih =>
    intro x y hn
    by_cases hz : x = 0 ∧ y = 0
    · obtain ⟨rfl, rfl⟩ := hz
      rw [dgs_zero]; exact ⟨rfl, rfl⟩
    · have hl := ms_less hz
      obtain ⟨h1, h2⟩ := ih (ms (nX x y) (nY x y)) (by omega) _ _ rfl
      have hd := dg_bitc (d := lastD x y) (lastD_01 x y)
      rw [dgs_step hz, List.reverse_cons, valX_snoc, valY_snoc, h1, h2, hd]
      exact ⟨(back_x x y).symm, (back_y x y).symm⟩
theorem val_dgs1 (x y : Int) : valX (dgs1 x y).reverse = x ∧ valY (dgs1 x y).reverse = y := by
  unfold dgs1
  split
  · rename_i h; obtain ⟨rfl, rfl⟩ := h; decide
  · exact val_dgs _ x y rfl
/-- what the expansion of a number is: none, or a valid text whose value the number is -/
theorem ofV_cases (x y : Int) : ofV x y = .tuple #[.string ⟨#[]⟩, .bool false] ∨ ∃ t : ByteArray, ofV x y = .tuple #[.string t, .bool true] ∧ vldB t = true ∧ valV t = .tuple #[pr x y, .bool true] := by
  unfold ofV
  split
  · rename_i hi
    rcases Bool.eq_false_or_eq_true (vldL (strip (dgs1 x y).reverse)) with hv | hv
    · right
      have hs : strip (dgs1 x y).reverse = toL (bs (strip (dgs1 x y).reverse)) := by rw [toL_bs]
      have hvB : vldB (bs (strip (dgs1 x y).reverse)) = true := by show vldL (toL _) = true; rw [toL_bs]; exact hv
      refine ⟨bs (strip (dgs1 x y).reverse), resD_t hs hvB, hvB, ?_⟩
      rw [valV_yes hvB, toL_bs]
      obtain ⟨h1, h2⟩ := val_dgs1 x y
      have e1 : valX (strip (dgs1 x y).reverse) = x := by unfold valX at *; rw [valF_strip]; exact h1
      have e2 : valY (strip (dgs1 x y).reverse) = y := by unfold valY at *; rw [valF_strip]; exact h2
      rw [e1, e2, hi]; rfl
    · left
      have hs : strip (dgs1 x y).reverse = toL (bs (strip (dgs1 x y).reverse)) := by rw [toL_bs]
      exact resD_f hs (by show vldL (toL _) = false; rw [toL_bs]; exact hv)
  · exact Or.inl rfl

theorem drawOf_c (v : Value) (w : World) (h : Code v w) : Calls Tryd.prog 16 #[v] w (One w) := by
  go_enter Tryd.func16, Tryd.ntmps16
  go_wp2_with fail
  generalize hW : World.alloc _ _ = W0
  have c0 : W0.cell? ⟨w.heap.size, 0, none⟩ = some (.int .i64 0) := by rw [← hW]; clear hW; go_simp
  have c1 : W0.cell? ⟨w.heap.size, 1, none⟩ = some (.int .i64 0) := by rw [← hW]; clear hW; go_simp
  have f0 : W0.frozen? ⟨w.heap.size, 0, none⟩ = false := by rw [← hW]; clear hW; go_simp
  have f1 : W0.frozen? ⟨w.heap.size, 1, none⟩ = false := by rw [← hW]; clear hW; go_simp
  have hB : Below w.heap.size w W0 := by rw [← hW]; (repeat' (first | assumption | exact Below.refl _ _ | apply Blw.alloc | apply Blw.drew | apply Blw.drewN | (refine Blw.after ?_ (by assumption)) | (refine Blw.set ?_ (by first | (dsimp only; omega) | (simp; done) | (simp; omega)) _)))
  have h0 : Code v W0 := by rw [← hW]; exact h.keep ((Below.refl _ _).alloc (Nat.le_refl _) _)
  have z0 : w.heap.size < W0.heap.size := World.block_lt_of_cell? W0 _ c0
  clear hW
  go_wp2_with fail
  refine (l6Open_c v W0 h0).mono ?_
  rintro e W1 ⟨sv, rfl, hr, hs, hz, hb⟩
  go_wp2_with fail
  refine (l91Gauss_c W0.heap.size sv 0 W1 hs hr ⟨by omega, by omega⟩).mono ?_
  rintro e W2 ⟨v', p', ⟨x, y, rfl, hx, hy⟩, rfl, -, -, -, -, m⟩
  have d0 := m.cell (by omega) (by omega) (keepcell hb c0)
  have d1 := m.cell (by omega) (by omega) (keepcell hb c1)
  have e0 := m.froz (by omega) (by omega) (((bcell hb).2 _ _ z0).trans f0)
  have e1 := m.froz (by omega) (by omega) (((bcell hb).2 _ _ z0).trans f1)
  have hB2 : Below w.heap.size w W2 := m.2.2.2 w (Blw.after hB hb) (by omega)
  go_wp2_with fail
  exact bodyPost_ret (v := .agg #[.int .i64 x, .int .i64 y]) (by simp [results, Tryd.results16, go_sem, *]) rfl ⟨x, y, rfl, hx, hy, by (repeat' (first | assumption | exact Below.refl _ _ | apply Blw.alloc | apply Blw.drew | apply Blw.drewN | (refine Blw.after ?_ (by assumption)) | (refine Blw.set ?_ (by first | (dsimp only; omega) | (simp; done) | (simp; omega)) _)))⟩

set_option maxHeartbeats 4000000 in
set_option maxRecDepth 10000 in
theorem lawDigitsOfP_c (a : Option Addr) (len cap : Nat) (w : World) (hc : len ≤ 1048576 → Code (.slice a len cap) w) : Calls Tryd.prog 4 #[.slice a len cap] w fun e w' => e = .returned (.bool true) ∧ Below w.heap.size w w' := by
  by_cases hl : 1048576 < len
  · go_enter Tryd.func4, Tryd.ntmps4
    go_wp2_with fail
    go_ret
    exact ⟨rfl, by (repeat' (first | assumption | exact Below.refl _ _ | apply Blw.alloc | apply Blw.drew | apply Blw.drewN | (refine Blw.after ?_ (by assumption)) | (refine Blw.set ?_ (by first | (dsimp only; omega) | (simp; done) | (simp; omega)) _)))⟩
  · have hc' := hc (by omega)
    clear hc
    go_enter Tryd.func4, Tryd.ntmps4
    go_wp2_with fail
    refine (drawOf_c _ w hc').mono ?_
    rintro e W1 ⟨x, y, rfl, ⟨x0, x1⟩, ⟨y0, y1⟩, hb1⟩
    clear hc'
    go_wp2_with fail
    generalize hW : World.alloc _ _ = W0
    have kW0_31 : W0.cell? ⟨W1.heap.size, 0, none⟩ = some (.int .i64 (x)) := by rw [← hW]; clear hW; first | (go_simp; done) | ((repeat refine keepcell ((Below.refl _ _).alloc (Nat.le_refl _) _) ?_); go_simp; done) | (simp only [frozen?_alloc_cells]; go_simp; done)
    have kW0_32 : W0.cell? ⟨W1.heap.size, 1, none⟩ = some (.int .i64 (y)) := by rw [← hW]; clear hW; first | (go_simp; done) | ((repeat refine keepcell ((Below.refl _ _).alloc (Nat.le_refl _) _) ?_); go_simp; done) | (simp only [frozen?_alloc_cells]; go_simp; done)
    have : W1.heap.size < W0.heap.size := World.block_lt_of_cell? W0 ⟨W1.heap.size, 0, none⟩ (by assumption)
    have hBW0 : Below w.heap.size w W0 := by rw [← hW]; (repeat' (first | assumption | exact Below.refl _ _ | apply Blw.alloc | apply Blw.drew | apply Blw.drewN | (refine Blw.after ?_ (by assumption)) | (refine Blw.set ?_ (by first | (dsimp only; omega) | (simp; done) | (simp; omega)) _)))
    have hsW0 := hBW0.size
    clear hW
    rcases ofV_cases x y with hV | ⟨t, hV, hv, hval⟩
    · have C1 : ∀ w, Calls Tryd.prog 17 #[pr x y] w fun e w' => e = .returned (.tuple #[.string ⟨#[]⟩, .bool false]) ∧ Below w.heap.size w w' := fun w => by
        have h := iDigitsOf_c x y w; rwa [hV] at h
      have C2 : ∀ w, Calls Tryd.prog 18 #[pr x y] w fun e w' => e = .returned (.tuple #[.string ⟨#[]⟩, .bool false]) ∧ Below w.heap.size w w' := fun w => by
        have h := sDigitsOf_c x y w; rwa [hV] at h
      clear hV
      go_wp2_with (first | (go_at_call 17; refine (C1 _).mono ?_; rintro e w1 ⟨rfl, hb⟩; have hk : Hld W0 w1 := heldM (by (repeat' (first | assumption | exact Below.refl _ _ | apply Blw.alloc | apply Blw.drew | apply Blw.drewN | (refine Blw.after ?_ (by assumption)) | (refine Blw.set ?_ (by first | (dsimp only; omega) | (simp; done) | (simp; omega)) _)))); have hk1 := hk.1) | (go_at_call 18; refine (C2 _).mono ?_; rintro e w1 ⟨rfl, hb⟩; have hk : Hld W0 w1 := heldM (by (repeat' (first | assumption | exact Below.refl _ _ | apply Blw.alloc | apply Blw.drew | apply Blw.drewN | (refine Blw.after ?_ (by assumption)) | (refine Blw.set ?_ (by first | (dsimp only; omega) | (simp; done) | (simp; omega)) _)))); have hk1 := hk.1))
      go_ret
      exact ⟨rfl, by (repeat' (first | assumption | exact Below.refl _ _ | apply Blw.alloc | apply Blw.drew | apply Blw.drewN | (refine Blw.after ?_ (by assumption)) | (refine Blw.set ?_ (by first | (dsimp only; omega) | (simp; done) | (simp; omega)) _)))⟩
    · have C1 : ∀ w, Calls Tryd.prog 17 #[pr x y] w fun e w' => e = .returned (.tuple #[.string t, .bool true]) ∧ Below w.heap.size w w' := fun w => by
        have h := iDigitsOf_c x y w; rwa [hV] at h
      have C2 : ∀ w, Calls Tryd.prog 18 #[pr x y] w fun e w' => e = .returned (.tuple #[.string t, .bool true]) ∧ Below w.heap.size w w' := fun w => by
        have h := sDigitsOf_c x y w; rwa [hV] at h
      have C3 : ∀ w, Calls Tryd.prog 19 #[.string t] w fun e w' => e = .returned (.tuple #[pr x y, .bool true]) ∧ Below w.heap.size w w' := fun w => by
        have h := iDigitsValue_c t w; rwa [hval] at h
      have C4 : ∀ w, Calls Tryd.prog 12 #[.string t] w fun e w' => e = .returned (.bool true) ∧ Below w.heap.size w w' := fun w => by
        have h := iDigitsValid_c t w; rwa [hv] at h
      have ht := (vldB_len hv).2
      clear hV hv hval
      go_wp2_with (first | (go_at_call 17; refine (C1 _).mono ?_; rintro e w1 ⟨rfl, hb⟩; have hk : Hld W0 w1 := heldM (by (repeat' (first | assumption | exact Below.refl _ _ | apply Blw.alloc | apply Blw.drew | apply Blw.drewN | (refine Blw.after ?_ (by assumption)) | (refine Blw.set ?_ (by first | (dsimp only; omega) | (simp; done) | (simp; omega)) _)))); have hk1 := hk.1) | (go_at_call 18; refine (C2 _).mono ?_; rintro e w1 ⟨rfl, hb⟩; have hk : Hld W0 w1 := heldM (by (repeat' (first | assumption | exact Below.refl _ _ | apply Blw.alloc | apply Blw.drew | apply Blw.drewN | (refine Blw.after ?_ (by assumption)) | (refine Blw.set ?_ (by first | (dsimp only; omega) | (simp; done) | (simp; omega)) _)))); have hk1 := hk.1))
      go_wp2_with (fail)
      refine (C3 _).mono ?_
      rintro e wC ⟨rfl, hbwC⟩
      have hkwC : Hld W0 wC := heldM (by (repeat' (first | assumption | exact Below.refl _ _ | apply Blw.alloc | apply Blw.drew | apply Blw.drewN | (refine Blw.after ?_ (by assumption)) | (refine Blw.set ?_ (by first | (dsimp only; omega) | (simp; done) | (simp; omega)) _))))
      have hlwC := hkwC.1
      have hswC := hkwC.2.2.2
      try (have : W1.heap.size < wC.heap.size := by omega)
      go_wp2_with fail
      generalize hW : World.alloc _ _ = W2
      have kW2_33 : W2.cell? ⟨W1.heap.size, 0, none⟩ = some (.int .i64 (x)) := by rw [← hW]; clear hW; first | (go_simp; done) | ((repeat refine keepcell ((Below.refl _ _).alloc (Nat.le_refl _) _) ?_); go_simp; done) | (simp only [frozen?_alloc_cells]; go_simp; done)
      have kW2_34 : W2.cell? ⟨W1.heap.size, 1, none⟩ = some (.int .i64 (y)) := by rw [← hW]; clear hW; first | (go_simp; done) | ((repeat refine keepcell ((Below.refl _ _).alloc (Nat.le_refl _) _) ?_); go_simp; done) | (simp only [frozen?_alloc_cells]; go_simp; done)
      have : W1.heap.size < W2.heap.size := World.block_lt_of_cell? W2 ⟨W1.heap.size, 0, none⟩ (by assumption)
      have kW2_35 : W2.cell? ⟨wC.heap.size, 0, none⟩ = some (.int .i64 (x)) := by rw [← hW]; clear hW; first | (go_simp; done) | ((repeat refine keepcell ((Below.refl _ _).alloc (Nat.le_refl _) _) ?_); go_simp; done) | (simp only [frozen?_alloc_cells]; go_simp; done)
      have kW2_36 : W2.cell? ⟨wC.heap.size, 1, none⟩ = some (.int .i64 (y)) := by rw [← hW]; clear hW; first | (go_simp; done) | ((repeat refine keepcell ((Below.refl _ _).alloc (Nat.le_refl _) _) ?_); go_simp; done) | (simp only [frozen?_alloc_cells]; go_simp; done)
      have : wC.heap.size < W2.heap.size := World.block_lt_of_cell? W2 ⟨wC.heap.size, 0, none⟩ (by assumption)
      have hBW2 : Below w.heap.size w W2 := by rw [← hW]; (repeat' (first | assumption | exact Below.refl _ _ | apply Blw.alloc | apply Blw.drew | apply Blw.drewN | (refine Blw.after ?_ (by assumption)) | (refine Blw.set ?_ (by first | (dsimp only; omega) | (simp; done) | (simp; omega)) _)))
      have hsW2 := hBW2.size
      clear hW
      try clear kW0_31; try clear kW0_32; try clear hbwC; try clear hkwC; try clear hlwC
      go_wp2_with (first | (go_at_call 12; refine (C4 _).mono ?_; rintro e w1 ⟨rfl, hb⟩; have hk : Hld W2 w1 := heldM (by (repeat' (first | assumption | exact Below.refl _ _ | apply Blw.alloc | apply Blw.drew | apply Blw.drewN | (refine Blw.after ?_ (by assumption)) | (refine Blw.set ?_ (by first | (dsimp only; omega) | (simp; done) | (simp; omega)) _)))); have hk1 := hk.1))
      go_ret
      exact ⟨rfl, by (repeat' (first | assumption | exact Below.refl _ _ | apply Blw.alloc | apply Blw.drew | apply Blw.drewN | (refine Blw.after ?_ (by assumption)) | (refine Blw.set ?_ (by first | (dsimp only; omega) | (simp; done) | (simp; omega)) _)))⟩

namespace lawFnDigitsOf
set_option maxRecDepth 100000 in
theorem lifted (os : Os) (started : os.Started) (H : Type) (enc : TypeId × Value → H) :
    ReturnsInHanded {} Tryd.checked os 4 .any (fun w args => (Rows.fnDigitsOfSpec.pre enc Tryd.prog Tryd.f4 Rows.fnDigitsOfRow.domain false w args ∧ laidMetH Tryd.prog Rows.fnDigitsOfRow.laid w) ∧ sizedMet enc Tryd.prog Tryd.f4 (OpenSpec.ofChange Rows.fnDigitsOfSpec) false w args)
      (Rows.fnDigitsOfSpec.post enc Tryd.prog Tryd.f4 false true false false) := by
  refine returnsInHanded_of_change_and (C := Tryd.checked) (X := fun w _ => laidMetH Tryd.prog Rows.fnDigitsOfRow.laid w) (fun _ _ _ hh h => h.of_heap hh) own started (by kernel_rfl) Tryd.func4
    (ChangeSpec.witness_shaped (enc := enc) (C := Tryd.checked) (os := os) (X := fun w _ => laidMetH Tryd.prog Rows.fnDigitsOfRow.laid w) false (World.laidAll Tryd.prog os Rows.fnDigitsOfRow.laid) #[.slice none 0 0] 8 (World.laidAll_os _ _ _)
      (World.shaped_of_ZipB (by kernel_rfl) (by kernel_rfl)) (by kernel_rfl) (by kernel_rfl) (by kernel_rfl)
      (by rw [MakeChecks.laidMetH_plain _ _ _ (by kernel_rfl)]; exact laidMet_laidAll _ (by kernel_rfl) (by kernel_rfl))) ?_
  intro W base args ds gs before hval0 hW hc0 _ hL _
  have hval : ∀ (j : Nat) t v, Tryd.f4.params[j]? = some t → args[j]? = some v → Value.okWide Tryd.prog W .any base t v := hval0
  have hW' := hW
  obtain ⟨p, q, hA0, hV, rfl, _, _⟩ := hW
  have hA : DataW.TrodAll enc Tryd.prog W 0 (fun _ => true) true Tryd.f4.params.toList args.toList ds p := hA0
  rw [Tryd.params4] at hA hval
  obtain ⟨v0, vs0, d0, ds0, p0, q0, hargs, rfl, rfl, h0, r0⟩ := trodAll_cons hA
  obtain ⟨rfl, rfl, rfl⟩ := trodAll_nil r0
  obtain rfl : args = #[v0] := by cases args; simp_all
  obtain ⟨rfl, rfl⟩ := trodVars_none hV
  obtain ⟨a, len, cap, rfl⟩ := okWide_slice Tryd.underlying22 (hval 0 22 v0 rfl rfl)
  clear hA0 hval0
  simp only [List.append_nil] at hW'
  have hlt : ∀ x ∈ p0, x.block < W.heap.size := fun x hx => by simpa using hW'.lt x hx
  refine (lawDigitsOfP_c a len cap W (code_of h0)).mono fun e W' ⟨he, hg⟩ => ?_
  subst he
  have harg := Below.trod laidOut (by kernel_rfl) (of_decide_eq_true (by kernel_rfl)) h0 hg hlt
  refine ⟨_, rfl, _, _, _, [], p0, [], hW', ?_, ?_, ?_, hg.frame _, fun h => by cases h⟩
  · exact trodAll_cons_mk (shut_bool Tryd.underlying4 _) trodAll_mk0
  · exact trodAll_mk1 harg
  · rfl

theorem holds : Rows.FnDigitsOfSaid :=
  OpenClaim.holds_of_wide 4 Tryd.f4 rfl rfl rfl rfl rfl rfl rfl ⟨rfl, rfl, rfl, rfl, rfl⟩ rfl rfl rfl rfl rfl (by kernel_rfl) Tryd.func4 (by kernel_rfl)
    (of_decide_eq_true (by kernel_rfl)) (by unfold Func.isWrapper; first | (rw [if_pos (by decide +kernel)]; kernel_rfl) | (rw [if_neg (by decide +kernel)]; exact ⟨rfl, rfl⟩))
    (fun os started H enc _ => lifted os started H enc)
theorem proved : Rows.FnDigitsOfCardSaid :=
  Claim7.holds_tied_plain_at .later [] [.data, .pinned] true (true, "ae5a7e1e5273026bef1a235bdfcbe898f8817563e717396bf1d72361ce9333b6") false holds (fun _ h => by cases h) (by kernel_rfl) (fun _ h => by cases h) fnDigitsOf_row_tie rfl ⟨rfl, rfl⟩ (by kernel_rfl) rfl
    (fun f fn hf hfn => by
      obtain rfl : f = 4 := Option.some.inj ((show Tryd.prog.funcNamed "loop.example/dragonnumbers/laws.FnDigitsOf" = some 4 by kernel_rfl).symm.trans hf) |>.symm
      obtain rfl : fn = Tryd.f4 := (Option.some.inj (Tryd.func4.symm.trans hfn)).symm
      exact ⟨by kernel_rfl, fun j t ht => by
        rw [Tryd.params4] at ht
        have hm : t ∈ [22] := by simpa using Array.mem_of_getElem? ht
        have hall : ([22].all fun u => !Tryd.prog.wantsStandIn u) = true := by kernel_rfl
        exact (show Tryd.prog.wantsStandIn t = false by simpa using List.all_eq_true.1 hall t hm)⟩)
    (by kernel_rfl)
end lawFnDigitsOf
end Go.Proofs.YtlcafjdinjdllaaDoor

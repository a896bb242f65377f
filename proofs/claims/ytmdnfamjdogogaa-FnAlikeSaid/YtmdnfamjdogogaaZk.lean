/- Chapter 7: two entries drawn. No law is stated here. -/
import Derived.Test.YtmdnfamjdogogaaZg
namespace Go.Proofs.Ytmdnfamjdogogaa
set_option linter.unusedSimpArgs false
set_option linter.unusedVariables false
open Go.RowKit Ieee

theorem BxE.set {b g o : Nat} {s : ByteArray} {p : Nat × Nat} {n : Nat} {w : World} (h : BxE b s p n w) (hne : b ≠ g) (v : Value) : BxE b s p n (w.setCell ⟨g, o, none⟩ v) := by
  obtain ⟨h0, h1, h2, h3, h4, h5, h6⟩ := h
  have hb : (w.setCell ⟨g, o, none⟩ v).heap[b]? = w.heap[b]? := Below.heap_setCell _ _ _ _ hne
  exact ⟨by simpa [World.setCell] using h0, (World.cell?_of_block (w := w) (a := ⟨b, 0, none⟩) hb).trans h1, (World.cell?_of_block (w := w) (a := ⟨b, 1, none⟩) hb).trans h2, (World.cell?_of_block (w := w) (a := ⟨b, 2, none⟩) hb).trans h3,
    (World.frozen?_of_block (w := w) (a := ⟨b, 0, none⟩) hb).trans h4, (World.frozen?_of_block (w := w) (a := ⟨b, 1, none⟩) hb).trans h5, (World.frozen?_of_block (w := w) (a := ⟨b, 2, none⟩) hb).trans h6⟩
/-- an entry stored whole in its box -/
theorem BxE.put {b : Nat} {s s' : ByteArray} {p p' : Nat × Nat} {n n' : Nat} {w : World} (h : BxE b s p n w) : BxE b s' p' n' (((w.setCell ⟨b, 0, none⟩ (.string s')).setCell ⟨b, 1, none⟩ (encW p')).setCell ⟨b, 2, none⟩ (.int .u32 (n' : Nat))) := by
  obtain ⟨h0, h1, h2, h3, h4, h5, h6⟩ := h
  exact ⟨by simpa [World.setCell] using h0, by go_simp, by go_simp, by go_simp, by go_simp, by go_simp, by go_simp⟩
def EnIn (s : ByteArray) (p : Nat × Nat) (n : Nat) : Prop := s.size ≤ 5 ∧ Nn2 p ∧ n < 4294967296
def TwoE (w : World) (e : Ending) (w' : World) : Prop :=
  ∃ (s : ByteArray) (p : Nat × Nat) (n : Nat) (s' : ByteArray) (p' : Nat × Nat) (n' : Nat), e = .returned (.tuple #[encE s p n, encE s' p' n']) ∧ EnIn s p n ∧ EnIn s' p' n' ∧ Below w.heap.size w w'
set_option maxRecDepth 100000 in
set_option maxHeartbeats 8000000 in
theorem drawEntryAlike_c (v : Value) (w : World) (h : Code v w) : Calls Try.prog 8 #[v] w (TwoE w) := by
  have fst := fun W a x y m => run_store Try.prog W a (.complex .f32 x y) m rfl
  go_enter Try.func8, Try.ntmps8
  go_wp2_with fail
  generalize hW : World.alloc (World.alloc _ _) _ = W0
  have z1 : (w.alloc (.cells #[.string ⟨#[]⟩, .complex .f32 0 0, .int .u32 0] 30)).heap.size = w.heap.size + 1 := alloc_size _ _
  have N0 : BxE w.heap.size ⟨#[]⟩ (0, 0) 0 W0 := by rw [← hW]; exact (BxE.new ⟨#[]⟩ (0, 0) 0 w _).keep ((Below.refl _ _).alloc (Nat.le_refl _) _)
  have N1 : BxE (w.heap.size + 1) ⟨#[]⟩ (0, 0) 0 W0 := by rw [← hW, ← z1]; exact BxE.new ⟨#[]⟩ (0, 0) 0 _ _
  have hB : Below w.heap.size w W0 := by rw [← hW]; (first | ((repeat' with_reducible first | assumption | exact Below.refl _ _ | apply Blw.alloc | apply Blw.drew | apply Blw.drewN | (refine Blw.after ?_ (by assumption)) | (refine Blw.set ?_ (by first | (dsimp only; omega) | (simp; omega)) _)); done) | (repeat' (first | assumption | exact Below.refl _ _ | apply Blw.alloc | apply Blw.drew | apply Blw.drewN | (refine Blw.after ?_ (by assumption)) | (refine Blw.set ?_ (by first | (dsimp only; omega) | (simp; done) | (simp; omega)) _))))
  have h0 : Code v W0 := h.keep (by rw [← hW]; exact ((Below.refl _ _).alloc (Nat.le_refl _) _).alloc (by rw [alloc_size]; omega) _)
  clear hW z1 h
  have HB := Lib.hid hB
  clear hB
  go_wp2_with fail
  refine (l6Open_c v W0 h0).mono ?_
  rintro e W1 ⟨sv, rfl, hr, hs, hz, hb⟩
  have l0 := N0.1
  have l1 := N1.1
  have N0' := Lib.hid (N0.keep hb)
  have N1' := Lib.hid (N1.keep hb)
  have HB1 := Lib.hid (Blw.after HB.out hb)
  clear N0 N1 h0 HB hb
  go_wp2_with fail
  refine (l92Entry_c W0.heap.size sv 0 W1 hs hr ⟨by omega, by omega⟩).mono ?_
  rintro e W2 ⟨v', p1, ⟨s, p, n, rfl, e1, e2, e3⟩, rfl, q0, q1, h1, hs1, m1⟩
  have N0 := Lib.hid (N0'.out.moved m1 (by omega))
  have N1 := Lib.hid (N1'.out.moved m1 (by omega))
  have HB2 := Lib.hid (m1.2.2.2 w HB1.out (by omega))
  have HE := Lib.hid (show EnIn s p n from ⟨e1, e2, e3⟩)
  have z2 : W0.heap.size < W2.heap.size := by have := m1.1; omega
  clear N0' N1' HB1 e1 e2 e3 hs hr m1
  go_wp2_with fail
  generalize hW : World.alloc _ _ = W3
  have hk := (Below.refl W2.heap.size W2).alloc (Nat.le_refl _) (.cells #[.string s, encW p, .int .u32 (n : Nat)] 30)
  have N0' := Lib.hid (show BxE w.heap.size ⟨#[]⟩ (0, 0) 0 W3 by rw [← hW]; exact N0.out.keep hk)
  have N1' := Lib.hid (show BxE (w.heap.size + 1) ⟨#[]⟩ (0, 0) 0 W3 by rw [← hW]; exact N1.out.keep hk)
  have h3 : Rd W0.heap.size sv p1 W3 := by rw [← hW]; exact h1.keep hk
  have hs3 : Src sv W0.heap.size W3 := by rw [← hW]; exact hs1.keep hk
  have E3 := Lib.hid (show BxE W2.heap.size s p n W3 by rw [← hW]; exact BxE.new _ _ _ _ _)
  have HB3 := Lib.hid (show Below w.heap.size w W3 by rw [← hW]; exact Blw.alloc HB2.out _)
  clear hW hk N0 N1 HB2 h1 hs1
  go_wp2_with fail
  refine (pick_d W0.heap.size sv p1 2 W3 hs3 h3 ⟨by omega, by omega⟩ ⟨by omega, by omega⟩).mono ?_
  rintro e W4 ⟨v, p2, ⟨k, rfl, k0, k1⟩, rfl, r0, r1, h4, hs4, m4⟩
  have N0 := Lib.hid (N0'.out.moved m4 (by omega))
  have N1 := Lib.hid (N1'.out.moved m4 (by omega))
  have E4 := Lib.hid (E3.out.moved m4 (by omega))
  have HB4 := Lib.hid (m4.2.2.2 w HB3.out (by omega))
  have z4 := m4.1
  clear N0' N1' E3 HB3 m4 h3 hs3
  have ne01 : w.heap.size ≠ w.heap.size + 1 := by omega
  have ne20 : W2.heap.size ≠ w.heap.size := by omega
  have ne21 : W2.heap.size ≠ w.heap.size + 1 := by omega
  by_cases e0 : k = 0
  · subst e0
    go_upto_region 4 with fail
    have hd : Below W4.heap.size W4 W4.drew := (Below.refl _ _).drew
    refine wp_region_held_drew (S := fun w' => BxE W2.heap.size s p n w') (by kernel_rfl) (E4.out.keep hd) ?_
    intro hS0
    have N0' := Lib.hid (N0.out.keep hd)
    have N1' := Lib.hid (N1.out.keep hd)
    have HB5 := Lib.hid (Blw.after HB4.out hd)
    generalize W4.drew = V0 at *
    clear hd N0 N1 E4 HB4 h4 hs4
    refine wpAnyH_take (i := 0) (v := ?_) rfl (by kernel_rfl) (by kernel_rfl) (by kernel_rfl) (fun _ _ _ h => h) (Or.inl ⟨by rfl, ?_⟩) hS0 ?_
    case refine_1 => exact encE s p n
    · rintro wq ⟨_, d0, d1, d2, _⟩; go_simp
    refine wpAnyH_take (i := 1) (v := ?_) rfl (by kernel_rfl) (by kernel_rfl) (by kernel_rfl) (fun _ _ _ h => h) (Or.inl ⟨by rfl, ?_⟩) hS0 ?_
    case refine_1 => exact encE s p n
    · rintro wq ⟨_, d0, d1, d2, _⟩; go_simp
    obtain ⟨na, nb, nc, nd, ne, nf, ng⟩ := N0'.out
    refine wpAnyH_ready (rs := [2]) (by kernel_rfl) (by simp) ?_
    refine AllReadyH.cons rfl (fun K hK => ?_) AllReadyH.nil
    rw [if_pos ?hw]
    case hw => kernel_rfl
    go_wp2_with fail
    refine hK.out _ _ (((hS0.set ne20 _).set ne20 _).set ne20 _) ?_
    clear hK K
    intro _
    have P0 := Lib.hid (BxE.put (s' := s) (p' := p) (n' := n) N0'.out)
    have P1 := Lib.hid (show BxE (w.heap.size + 1) ⟨#[]⟩ (0, 0) 0 (((V0.setCell ⟨w.heap.size, 0, none⟩ (.string s)).setCell ⟨w.heap.size, 1, none⟩ (encW p)).setCell ⟨w.heap.size, 2, none⟩ (.int .u32 (n : Nat))) from ((N1'.out.set (Ne.symm ne01) _).set (Ne.symm ne01) _).set (Ne.symm ne01) _)
    have S1 := Lib.hid (show BxE W2.heap.size s p n (((V0.setCell ⟨w.heap.size, 0, none⟩ (.string s)).setCell ⟨w.heap.size, 1, none⟩ (encW p)).setCell ⟨w.heap.size, 2, none⟩ (.int .u32 (n : Nat))) from ((hS0.set ne20 _).set ne20 _).set ne20 _)
    have HB6 := Lib.hid (show Below w.heap.size w (((V0.setCell ⟨w.heap.size, 0, none⟩ (.string s)).setCell ⟨w.heap.size, 1, none⟩ (encW p)).setCell ⟨w.heap.size, 2, none⟩ (.int .u32 (n : Nat))) from Blw.set (Blw.set (Blw.set HB5.out (Nat.le_refl _) _) (Nat.le_refl _) _) (Nat.le_refl _) _)
    clear na nb nc nd ne nf ng N0' N1' hS0 HB5
    generalize World.setCell (World.setCell (World.setCell V0 _ _) _ _) _ _ = V1 at *
    obtain ⟨na, nb, nc, nd, ne, nf, ng⟩ := P1.out
    refine wpAnyH_ready (rs := [3]) (by kernel_rfl) (by simp) ?_
    refine AllReadyH.cons rfl (fun K hK => ?_) AllReadyH.nil
    rw [if_pos ?hw]
    case hw => kernel_rfl
    go_wp2_with fail
    refine hK.out _ _ (((S1.out.set ne21 _).set ne21 _).set ne21 _) ?_
    clear hK K
    intro _
    refine wpAnyH_done (by kernel_rfl) ?_ _
    have Q0 := ((P0.out.set (o := 0) ne01 (.string s)).set (o := 1) ne01 (encW p)).set (o := 2) ne01 (.int .u32 (n : Nat))
    have Q1 := BxE.put (s' := s) (p' := p) (n' := n) P1.out
    have HB7 := Lib.hid (show Below w.heap.size w (((V1.setCell ⟨w.heap.size + 1, 0, none⟩ (.string s)).setCell ⟨w.heap.size + 1, 1, none⟩ (encW p)).setCell ⟨w.heap.size + 1, 2, none⟩ (.int .u32 (n : Nat))) from Blw.set (Blw.set (Blw.set HB6.out (Nat.le_succ _) _) (Nat.le_succ _) _) (Nat.le_succ _) _)
    clear na nb nc nd ne nf ng P0 P1 S1 HB6
    generalize World.setCell (World.setCell (World.setCell V1 _ _) _ _) _ _ = V2 at *
    obtain ⟨aa, ab, ac, ad, _⟩ := Q0
    obtain ⟨ba, bb, bc, bd, _⟩ := Q1
    go_wp2_with fail
    exact bodyPost_ret (v := .tuple #[encE s p n, encE s p n]) (by simp [results, Try.results8, go_sem, *]) rfl ⟨s, p, n, s, p, n, rfl, HE.out, HE.out, HB7.out⟩
  · have x0 : (k == 0) = false := by simp [e0]
    clear e0
    go_upto_region 5 with fail
    have hd : Below W4.heap.size W4 W4.drew := (Below.refl _ _).drew
    refine wp_region_held_drew (S := fun w' => BxE W2.heap.size s p n w') (by kernel_rfl) (E4.out.keep hd) ?_
    intro hS0
    have N0' := Lib.hid (N0.out.keep hd)
    have N1' := Lib.hid (N1.out.keep hd)
    have HB5 := Lib.hid (Blw.after HB4.out hd)
    have h5 := h4.keep hd
    have hs5 := hs4.keep hd
    have z5 : W4.heap.size ≤ W4.drew.heap.size := hd.size
    generalize W4.drew = V0 at *
    clear hd N0 N1 E4 HB4 h4 hs4
    refine wpAnyH_take (i := 0) (v := ?_) rfl (by kernel_rfl) (by kernel_rfl) (by kernel_rfl) (fun _ _ _ h => h) (Or.inl ⟨by rfl, ?_⟩) hS0 ?_
    case refine_1 => exact encE s p n
    · rintro wq ⟨_, d0, d1, d2, _⟩; go_simp
    refine wpAnyH_take (i := 1) (v := ?_) rfl (by kernel_rfl) (by kernel_rfl) (by kernel_rfl) (fun _ _ _ h => h) (Or.inl ⟨by rfl, ?_⟩) hS0 ?_
    case refine_1 => exact .pointer (some ⟨W0.heap.size, 0, none⟩)
    · intro wq hSw; go_simp
    refine wpAnyH_ready (rs := [2]) (by kernel_rfl) (by simp) ?_
    refine AllReadyH.cons rfl (fun K hK => ?_) AllReadyH.nil
    rw [if_pos ?hw]
    case hw => kernel_rfl
    go_wp2_with fail
    refine (l92Entry_c W0.heap.size sv p2 V0 hs5 h5 ⟨by omega, by omega⟩).mono ?_
    rintro e W6 ⟨v', p3, ⟨s', q, n', rfl, e1, e2, e3⟩, rfl, t0, t1, h6, hs6, m6⟩
    have HE' := Lib.hid (show EnIn s' q n' from ⟨e1, e2, e3⟩)
    have hS6 := hS0.moved m6 (by omega)
    have N0 := Lib.hid (N0'.out.moved m6 (by omega))
    have N1 := Lib.hid (N1'.out.moved m6 (by omega))
    have HB6 := Lib.hid (m6.2.2.2 w HB5.out (by omega))
    clear e1 e2 e3 hS0 N0' N1' HB5 h5 hs5 h6 hs6 m6
    refine hK.out _ _ hS6 ?_
    clear hK K
    intro _
    obtain ⟨na, nb, nc, nd, ne, nf, ng⟩ := N0.out
    refine wpAnyH_ready (rs := [3]) (by kernel_rfl) (by simp) ?_
    refine AllReadyH.cons rfl (fun K hK => ?_) AllReadyH.nil
    rw [if_pos ?hw]
    case hw => kernel_rfl
    go_wp2_with fail
    refine hK.out _ _ (((hS6.set ne20 _).set ne20 _).set ne20 _) ?_
    clear hK K
    intro _
    have P0 := Lib.hid (BxE.put (s' := s) (p' := p) (n' := n) N0.out)
    have P1 := Lib.hid (show BxE (w.heap.size + 1) ⟨#[]⟩ (0, 0) 0 (((W6.setCell ⟨w.heap.size, 0, none⟩ (.string s)).setCell ⟨w.heap.size, 1, none⟩ (encW p)).setCell ⟨w.heap.size, 2, none⟩ (.int .u32 (n : Nat))) from ((N1.out.set (Ne.symm ne01) _).set (Ne.symm ne01) _).set (Ne.symm ne01) _)
    have S1 := Lib.hid (show BxE W2.heap.size s p n (((W6.setCell ⟨w.heap.size, 0, none⟩ (.string s)).setCell ⟨w.heap.size, 1, none⟩ (encW p)).setCell ⟨w.heap.size, 2, none⟩ (.int .u32 (n : Nat))) from ((hS6.set ne20 _).set ne20 _).set ne20 _)
    have HB7 := Lib.hid (show Below w.heap.size w (((W6.setCell ⟨w.heap.size, 0, none⟩ (.string s)).setCell ⟨w.heap.size, 1, none⟩ (encW p)).setCell ⟨w.heap.size, 2, none⟩ (.int .u32 (n : Nat))) from Blw.set (Blw.set (Blw.set HB6.out (Nat.le_refl _) _) (Nat.le_refl _) _) (Nat.le_refl _) _)
    clear na nb nc nd ne nf ng N0 N1 hS6 HB6
    generalize World.setCell (World.setCell (World.setCell W6 _ _) _ _) _ _ = V1 at *
    obtain ⟨na, nb, nc, nd, ne, nf, ng⟩ := P1.out
    refine wpAnyH_ready (rs := [4]) (by kernel_rfl) (by simp) ?_
    refine AllReadyH.cons rfl (fun K hK => ?_) AllReadyH.nil
    rw [if_pos ?hw]
    case hw => kernel_rfl
    go_wp2_with fail
    refine hK.out _ _ (((S1.out.set ne21 _).set ne21 _).set ne21 _) ?_
    clear hK K
    intro _
    refine wpAnyH_done (by kernel_rfl) ?_ _
    have Q0 := ((P0.out.set (o := 0) ne01 (.string s')).set (o := 1) ne01 (encW q)).set (o := 2) ne01 (.int .u32 (n' : Nat))
    have Q1 := BxE.put (s' := s') (p' := q) (n' := n') P1.out
    have HB8 := Lib.hid (show Below w.heap.size w (((V1.setCell ⟨w.heap.size + 1, 0, none⟩ (.string s')).setCell ⟨w.heap.size + 1, 1, none⟩ (encW q)).setCell ⟨w.heap.size + 1, 2, none⟩ (.int .u32 (n' : Nat))) from Blw.set (Blw.set (Blw.set HB7.out (Nat.le_succ _) _) (Nat.le_succ _) _) (Nat.le_succ _) _)
    clear na nb nc nd ne nf ng P0 P1 S1 HB7
    generalize World.setCell (World.setCell (World.setCell V1 _ _) _ _) _ _ = V2 at *
    obtain ⟨aa, ab, ac, ad, _⟩ := Q0
    obtain ⟨ba, bb, bc, bd, _⟩ := Q1
    go_wp2_with fail
    exact bodyPost_ret (v := .tuple #[encE s p n, encE s' q n']) (by simp [results, Try.results8, go_sem, *]) rfl ⟨s, p, n, s', q, n', rfl, HE.out, HE'.out, HB8.out⟩
end Go.Proofs.Ytmdnfamjdogogaa

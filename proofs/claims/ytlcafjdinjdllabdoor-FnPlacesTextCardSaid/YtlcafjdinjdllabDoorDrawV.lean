/- What the law of texts with places draws: a Gauss and a number of places. No law is stated here. -/
import Derived.Test.YtlcafjdinjdllabDoorDrawB
import Derived.Test.YtlcafjdinjdllabDoorGa
import Derived.StillTailTactics
import Derived.Deep.DeepCutAuto
import Derived.Deep.Cut
import Derived.RegionCalls
import Derived.Deep.RegionHeld
namespace Go.Proofs.YtlcafjdinjdllabDoor
set_option linter.unusedSimpArgs false
set_option linter.unusedVariables false
open Go.RowKit

/-- what the draw leaves -/
def GK (w : World) (e : Ending) (w' : World) : Prop :=
  ∃ x y k : Int, e = .returned (.tuple #[.agg #[.int .i64 x, .int .i64 y], .int .i64 k]) ∧ Below w.heap.size w w'
/-- a box of two numbers -/
def BoxV (b : Nat) (x y : Int) (w : World) : Prop := b < w.heap.size ∧ w.cell? ⟨b, 0, none⟩ = some (.int .i64 x) ∧ w.cell? ⟨b, 1, none⟩ = some (.int .i64 y)
theorem BoxV.keep {b : Nat} {x y : Int} {w w' : World} (h : BoxV b x y w) (hb : Below w.heap.size w w') : BoxV b x y w' :=
  ⟨Nat.lt_of_lt_of_le h.1 hb.size, keepcell hb h.2.1, keepcell hb h.2.2⟩
theorem BoxV.moved {b rb : Nat} {x y : Int} {w w' : World} (h : BoxV b x y w) (m : Moved rb w w') (h1 : b ≠ rb) : BoxV b x y w' :=
  ⟨Nat.lt_of_lt_of_le h.1 m.1, m.cell h.1 h1 h.2.1, m.cell h.1 h1 h.2.2⟩
theorem BoxV.new (x y : Int) (w : World) (t : TypeId) : BoxV w.heap.size x y (w.alloc (.cells #[.int .i64 x, .int .i64 y] t)) := by
  have c0 : (w.alloc (.cells #[.int .i64 x, .int .i64 y] t)).cell? ⟨w.heap.size, 0, none⟩ = some (.int .i64 x) := by go_simp
  exact ⟨World.block_lt_of_cell? _ _ c0, c0, by go_simp⟩
/-- .. that may be written -/
def ResV (b : Nat) (w : World) : Prop := BoxV b 0 0 w ∧ w.frozen? ⟨b, 0, none⟩ = false ∧ w.frozen? ⟨b, 1, none⟩ = false
theorem ResV.keep {b : Nat} {w w' : World} (h : ResV b w) (hb : Below w.heap.size w w') : ResV b w' :=
  ⟨h.1.keep hb, ((bcell hb).2 _ _ h.1.1).trans h.2.1, ((bcell hb).2 _ _ h.1.1).trans h.2.2⟩
theorem ResV.moved {b rb : Nat} {w w' : World} (h : ResV b w) (m : Moved rb w w') (h1 : b ≠ rb) : ResV b w' :=
  ⟨h.1.moved m h1, m.froz h.1.1 h1 h.2.1, m.froz h.1.1 h1 h.2.2⟩
set_option maxHeartbeats 4000000 in
set_option maxRecDepth 20000 in
theorem drawPT_c (v : Value) (w : World) (h : Code v w) : Calls Tryd.prog 8 #[v] w (GK w) := by
  go_enter Tryd.func8, Tryd.ntmps8
  go_wp2_with fail
  generalize hW : World.alloc _ _ = W0
  have hB : Below w.heap.size w W0 := by rw [← hW]; (repeat' (first | assumption | exact Below.refl _ _ | apply Blw.alloc | apply Blw.drew | apply Blw.drewN | (refine Blw.after ?_ (by assumption)) | (refine Blw.set ?_ (by first | (dsimp only; omega) | (simp; done) | (simp; omega)) _)))
  have h0 : Code v W0 := by rw [← hW]; exact h.keep ((Below.refl _ _).alloc (Nat.le_refl _) _)
  have N0 : ResV w.heap.size W0 := ⟨by rw [← hW]; exact BoxV.new _ _ _ _, by rw [← hW]; clear hW; go_simp, by rw [← hW]; clear hW; go_simp⟩
  have HB := Lib.hid hB
  clear hW hB
  go_wp2_with fail
  refine (l6Open_c v W0 h0).mono ?_
  rintro e W1 ⟨sv, rfl, hr, hs, hz, hb⟩
  go_wp2_with fail
  refine (l91Gauss_c W0.heap.size sv 0 W1 hs hr ⟨by omega, by omega⟩).mono ?_
  rintro e W2 ⟨v', p1, ⟨x, y, rfl, hx, hy⟩, rfl, q0, q1, h1, hs1, m1⟩
  have l0 := N0.1.1
  have N2 := Lib.hid ((N0.keep hb).moved m1 (by omega))
  have M1 := Lib.hid m1
  have H1 := Lib.hid h1
  have HS := Lib.hid hs1
  have HB1 := Lib.hid hb
  have z2 : W0.heap.size < W2.heap.size := by have := m1.1; omega
  clear m1 h1 hs1 hb N0 hr hs h0
  go_upto_region 3 with fail
  generalize hW : World.alloc _ _ = W3
  have hk := (Below.refl W2.heap.size W2).alloc (Nat.le_refl _) (.cells #[.int .i64 x, .int .i64 y] 24)
  have N3 := Lib.hid (show ResV w.heap.size W3 by rw [← hW]; exact N2.out.keep hk)
  have H3 := Lib.hid (show Rd W0.heap.size sv p1 W3 by rw [← hW]; exact H1.out.keep hk)
  have S3 := Lib.hid (show Src sv W0.heap.size W3 by rw [← hW]; exact HS.out.keep hk)
  have B3 := Lib.hid (show Moved W0.heap.size W1 W3 by rw [← hW]; exact M1.out.below hk)
  have X3 := Lib.hid (show BoxV W2.heap.size x y W3 by rw [← hW]; exact BoxV.new _ _ _ _)
  clear hW hk
  have hd : Below W3.heap.size W3 W3.drew := (Below.refl _ _).drew
  refine wp_region_held_drew (S := fun w' => BoxV W2.heap.size x y w') (by kernel_rfl) (X3.out.keep hd) ?_
  intro hS0
  generalize hW4 : W3.drew = V0 at *
  have N := Lib.hid (N3.out.keep hd)
  have H := Lib.hid (H3.out.keep hd)
  have S := Lib.hid (S3.out.keep hd)
  have B := Lib.hid (B3.out.below hd)
  have X := Lib.hid (X3.out.keep hd)
  clear hW4 hd N3 H3 S3 B3 X3 N2 M1 H1 HS hS0
  refine wpAnyH_take (i := 1) (v := ?_) rfl (by kernel_rfl) (by kernel_rfl) (by kernel_rfl) (fun _ _ _ h => h) (Or.inl ⟨by rfl, ?_⟩) X.out ?_
  case refine_1 => exact .pointer (some ⟨W0.heap.size, 0, none⟩)
  · intro w _; go_simp
  refine wpAnyH_take (i := 3) (v := ?_) rfl (by kernel_rfl) (by kernel_rfl) (by kernel_rfl) (fun _ _ _ h => h) (Or.inl ⟨by rfl, ?_⟩) X.out ?_
  case refine_1 => exact .pointer (some ⟨W0.heap.size, 0, none⟩)
  · intro w _; go_simp
  refine wpAnyH_take (i := 8) (v := ?_) rfl (by kernel_rfl) (by kernel_rfl) (by kernel_rfl) (fun _ _ _ h => h) (Or.inl ⟨by rfl, ?_⟩) X.out ?_
  case refine_1 => exact .pointer (some ⟨W0.heap.size, 0, none⟩)
  · intro w _; go_simp
  refine wpAnyH_take (i := 0) (v := ?_) rfl (by kernel_rfl) (by kernel_rfl) (by kernel_rfl) (fun _ _ _ h => h) (Or.inl ⟨by rfl, ?_⟩) X.out ?_
  case refine_1 => exact .agg #[.int .i64 x, .int .i64 y]
  · rintro w ⟨_, d0, d1⟩; go_simp
  refine wpAnyH_ready (rs := [2]) (by kernel_rfl) (by simp) ?_
  refine AllReadyH.cons rfl (fun K hK => ?_) AllReadyH.nil
  rw [if_pos ?hw]
  case hw => kernel_rfl
  go_wp2_with fail
  refine (pick_d W0.heap.size sv p1 16 V0 S.out H.out ⟨by omega, by omega⟩ ⟨by omega, by omega⟩).mono ?_
  rintro e V1 ⟨v, p2, ⟨k0, rfl, u0, t0⟩, rfl, a0, b0, h, hs, m⟩
  have N := Lib.hid (N.out.moved m (by omega))
  have X := Lib.hid (X.out.moved m (by omega))
  have B := Lib.hid (B.out.trans m)
  have H := Lib.hid h
  have S := Lib.hid hs
  clear m h hs
  refine hK.out _ _ X.out ?_; clear hK K
  intro _
  have e0 : k0 ≤ 15 := by omega
  refine wpAnyH_ready (rs := [4]) (by kernel_rfl) (by simp) ?_
  refine AllReadyH.cons rfl (fun K hK => ?_) AllReadyH.nil
  rw [if_pos ?hw]
  case hw => kernel_rfl
  go_wp2_with fail
  refine (pick_d W0.heap.size sv p2 20 V1 S.out H.out ⟨by omega, by omega⟩ ⟨by omega, by omega⟩).mono ?_
  rintro e V2 ⟨v, p3, ⟨k1, rfl, u1, t1⟩, rfl, a1, b1, h, hs, m⟩
  have N := Lib.hid (N.out.moved m (by omega))
  have X := Lib.hid (X.out.moved m (by omega))
  have B := Lib.hid (B.out.trans m)
  have H := Lib.hid h
  have S := Lib.hid hs
  clear m h hs
  refine hK.out _ _ X.out ?_; clear hK K
  intro _
  obtain ⟨q, hq, q0, q1⟩ : ∃ q, k1 / 19 = q ∧ 0 ≤ q ∧ q ≤ 1 := ⟨_, rfl, by omega, by omega⟩
  have g1 : IntKind.i64.wrap (k1.tdiv 19) = q := by rw [Int.tdiv_eq_ediv_of_nonneg u1, hq]; exact IntWalk.i64_in _ (by omega)
  refine wpAnyH_take (i := 5) (v := ?_) rfl (by kernel_rfl) (by kernel_rfl) (by kernel_rfl) (fun _ _ _ h => h) (Or.inl ⟨by rfl, ?_⟩) X.out ?_
  case refine_1 => exact .int .i64 q
  · intro w _; go_simp
  refine wpAnyH_take (i := 6) (v := ?_) rfl (by kernel_rfl) (by kernel_rfl) (by kernel_rfl) (fun _ _ _ h => h) (Or.inl ⟨by rfl, ?_⟩) X.out ?_
  case refine_1 => exact .int .i64 (q * 17)
  · intro w _; go_simp; exact IntWalk.i64_in _ (by omega)
  refine wpAnyH_take (i := 7) (v := ?_) rfl (by kernel_rfl) (by kernel_rfl) (by kernel_rfl) (fun _ _ _ h => h) (Or.inl ⟨by rfl, ?_⟩) X.out ?_
  case refine_1 => exact .int .i64 (k0 - q * 17)
  · intro w _; go_simp; exact IntWalk.i64_in _ (by omega)
  refine wpAnyH_ready (rs := [9]) (by kernel_rfl) (by simp) ?_
  refine AllReadyH.cons rfl (fun K hK => ?_) AllReadyH.nil
  rw [if_pos ?hw]
  case hw => kernel_rfl
  go_wp2_with fail
  refine (pick_d W0.heap.size sv p3 20 V2 S.out H.out ⟨by omega, by omega⟩ ⟨by omega, by omega⟩).mono ?_
  rintro e V3 ⟨v, p4, ⟨k2, rfl, u2, t2⟩, rfl, a2, b2, h, hs, m⟩
  have N := Lib.hid (N.out.moved m (by omega))
  have X := Lib.hid (X.out.moved m (by omega))
  have B := Lib.hid (B.out.trans m)
  have H := Lib.hid h
  have S := Lib.hid hs
  clear m h hs
  refine hK.out _ _ X.out ?_; clear hK K
  intro _
  obtain ⟨r, hr, r0, r1⟩ : ∃ r, k2 / 19 = r ∧ 0 ≤ r ∧ r ≤ 1 := ⟨_, rfl, by omega, by omega⟩
  have g2 : IntKind.i64.wrap (k2.tdiv 19) = r := by rw [Int.tdiv_eq_ediv_of_nonneg u2, hr]; exact IntWalk.i64_in _ (by omega)
  refine wpAnyH_take (i := 10) (v := ?_) rfl (by kernel_rfl) (by kernel_rfl) (by kernel_rfl) (fun _ _ _ h => h) (Or.inl ⟨by rfl, ?_⟩) X.out ?_
  case refine_1 => exact .int .i64 r
  · intro w _; go_simp
  refine wpAnyH_take (i := 11) (v := ?_) rfl (by kernel_rfl) (by kernel_rfl) (by kernel_rfl) (fun _ _ _ h => h) (Or.inl ⟨by rfl, ?_⟩) X.out ?_
  case refine_1 => exact .int .i64 (r * 30)
  · intro w _; go_simp; exact IntWalk.i64_in _ (by omega)
  refine wpAnyH_take (i := 12) (v := ?_) rfl (by kernel_rfl) (by kernel_rfl) (by kernel_rfl) (fun _ _ _ h => h) (Or.inl ⟨by rfl, ?_⟩) X.out ?_
  case refine_1 => exact .int .i64 (k0 - q * 17 + r * 30)
  · intro w _; go_simp; exact IntWalk.i64_in _ (by omega)
  obtain ⟨⟨ln, n0, n1⟩, f0, f1⟩ := N.out
  have B9 : Below w.heap.size w V3 := B.out.2.2.2 w (Blw.after HB.out HB1.out) (by omega)
  refine wpAnyH_ready (rs := [13]) (by kernel_rfl) (by simp) ?_
  refine AllReadyH.cons rfl (fun K hK => ?_) AllReadyH.nil
  rw [if_pos ?hw]
  case hw => kernel_rfl
  go_simp
  refine hK.out _ _ ?_ ?_; clear hK K
  · obtain ⟨lx, d0, d1⟩ := X.out; exact ⟨by simpa [World.setCell] using lx, by go_simp, by go_simp⟩
  intro _
  refine wpAnyH_ready (rs := [14]) (by kernel_rfl) (by simp) ?_
  refine AllReadyH.cons rfl (fun K hK => ?_) AllReadyH.nil
  rw [if_pos ?hw]
  case hw => kernel_rfl
  go_simp
  refine hK.out _ _ ?_ ?_; clear hK K
  · obtain ⟨lx, d0, d1⟩ := X.out; exact ⟨by simpa [World.setCell] using lx, by go_simp, by go_simp⟩
  intro _
  refine wpAnyH_done (by kernel_rfl) ?_ _
  go_wp2_with fail
  exact bodyPost_ret (v := .tuple #[.agg #[.int .i64 x, .int .i64 y], .int .i64 (k0 - q * 17 + r * 30)]) (by simp [results, Tryd.results8, go_sem, *]) rfl ⟨_, _, _, rfl, by (repeat' (first | assumption | exact Below.refl _ _ | apply Blw.alloc | apply Blw.drew | apply Blw.drewN | (refine Blw.after ?_ (by assumption)) | (refine Blw.set ?_ (by first | (dsimp only; omega) | (simp; done) | (simp; omega)) _)))⟩
end Go.Proofs.YtlcafjdinjdllabDoor

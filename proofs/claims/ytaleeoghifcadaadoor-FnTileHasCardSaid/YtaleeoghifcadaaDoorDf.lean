/- Chapter 2, the program's side: the digits of a number. -/
import Derived.Test.YtaleeoghifcadaaDoorDe3
import Derived.Test.YtaleeoghifcadaaDoorEq
import Derived.Test.YtaleeoghifcadaaDoorBy
import Derived.Laws.Bits128
namespace Go.Proofs.YtaleeoghifcadaaDoor
set_option linter.unusedSimpArgs false
set_option linter.unusedVariables false
open Go.RowKit

theorem i64_and1 (n : Int) : bits .and .i64 n 1 = n % 2 := by
  have h1 : (BitVec.ofInt 64 1).toNat = 2 ^ 1 - 1 := by decide
  have key : (BitVec.ofInt 64 n &&& BitVec.ofInt 64 1).toNat = (n % ((2 ^ 64 : Nat) : Int)).toNat % 2 ^ 1 := by
    rw [BitVec.toNat_and, BitVec.toNat_ofInt, h1, Nat.and_two_pow_sub_one_eq_mod]
  show IntKind.i64.wrap ((BitVec.ofInt 64 n &&& BitVec.ofInt 64 1).toNat : Nat) = n % 2
  rw [key, IntKind.wrap_i64]
  omega

theorem overBase_c (x y a b : Int) (w : World) (hx : -4000000 ≤ x ∧ x ≤ 4000000) (hy : -4000000 ≤ y ∧ y ≤ 4000000) (ha : 2 * a = y - x) (hb : 2 * b = -x - y) : Calls Tryd.prog 75 #[pr x y] w fun e w' => e = .returned (pr a b) ∧ Below w.heap.size w w' := by
  have q1 : (y - x).tdiv 2 = a := tdiv2 ha.symm
  have q2 : (-x - y).tdiv 2 = b := tdiv2 hb.symm
  obtain ⟨h1, h2⟩ := hx
  obtain ⟨h3, h4⟩ := hy
  have a1 : -4000000 ≤ a := by omega
  have a2 : a ≤ 4000000 := by omega
  have b1 : -4000000 ≤ b := by omega
  have b2 : b ≤ 4000000 := by omega
  clear ha hb
  go_enter Tryd.func75, Tryd.ntmps75
  go_wp2
  exact bodyPost_ret (v := pr a b) (by simp [results, Tryd.results75, go_sem, *]) rfl ⟨rfl, by (repeat' (first | assumption | exact Below.refl _ _ | apply Blw.alloc | apply Blw.drew | apply Blw.drewN | (refine Blw.after ?_ (by assumption)) | (refine Blw.set ?_ (by first | (dsimp only; omega) | (simp; done) | (simp; omega)) _)))⟩
theorem minusD_c (x y d : Int) (w : World) (hx : -4000000 ≤ x ∧ x ≤ 4000000) (hy : -4000000 ≤ y ∧ y ≤ 4000000) (hd : 0 ≤ d ∧ d ≤ 1) : Calls Tryd.prog 74 #[pr x y, pr d 0] w fun e w' => e = .returned (pr (x - d) y) ∧ Below w.heap.size w w' := by
  obtain ⟨h1, h2⟩ := hx
  obtain ⟨h3, h4⟩ := hy
  obtain ⟨h5, h6⟩ := hd
  go_enter Tryd.func74, Tryd.ntmps74
  go_wp2
  exact bodyPost_ret (v := pr (x - d) y) (by simp [results, Tryd.results74, go_sem, *]) rfl ⟨rfl, by (repeat' (first | assumption | exact Below.refl _ _ | apply Blw.alloc | apply Blw.drew | apply Blw.drewN | (refine Blw.after ?_ (by assumption)) | (refine Blw.set ?_ (by first | (dsimp only; omega) | (simp; done) | (simp; omega)) _)))⟩

theorem minus0_c (x y : Int) (w : World) (hx : -4000000 ≤ x ∧ x ≤ 4000000) (hy : -4000000 ≤ y ∧ y ≤ 4000000) : Calls Tryd.prog 74 #[pr x y, pr 0 0] w fun e w' => e = .returned (pr x y) ∧ Below w.heap.size w w' := by
  have h := minusD_c x y 0 w hx hy (by omega)
  rwa [Int.sub_zero] at h
theorem minus1_c (x y : Int) (w : World) (hx : -4000000 ≤ x ∧ x ≤ 4000000) (hy : -4000000 ≤ y ∧ y ≤ 4000000) : Calls Tryd.prog 74 #[pr x y, pr 1 0] w fun e w' => e = .returned (pr (x - 1) y) ∧ Below w.heap.size w w' := minusD_c x y 1 w hx hy (by omega)
def DgRel (x0 y0 : Int) (w : World) (m : Nat) (v : Value) (wr : World) : Prop :=
  ∃ (x y : Int) (pre : List UInt8), wr.ownsRow (w.heap.size + 1) 5 1 v pre.length (pre.map encB) ∧ (-1000000 ≤ x ∧ x ≤ 1000000) ∧ (-1000000 ≤ y ∧ y ≤ 1000000) ∧ pre ++ dgs x y = dgs x0 y0 ∧ pre.length + ms x y ≤ 3000000000001 ∧ m = ms x y ∧
    Below w.heap.size w wr ∧ wr.cell? ⟨w.heap.size, 0, none⟩ = some (.int .i64 x) ∧ wr.cell? ⟨w.heap.size, 1, none⟩ = some (.int .i64 y) ∧ wr.frozen? ⟨w.heap.size, 0, none⟩ = false ∧ wr.frozen? ⟨w.heap.size, 1, none⟩ = false
/-- what the digits leave: a row of bytes of the call's own -/
def DgPost (x0 y0 : Int) (w : World) (e : Ending) (w' : World) : Prop :=
  ∃ v, e = .returned v ∧ w'.ownsRow w.heap.size 5 1 v (dgs x0 y0).length ((dgs x0 y0).map encB) ∧ Below w.heap.size w w'
set_option maxHeartbeats 2000000 in
theorem iDigits_c (x0 y0 : Int) (w : World) (hx : -1000000 ≤ x0 ∧ x0 ≤ 1000000) (hy : -1000000 ≤ y0 ∧ y0 ≤ 1000000) : Calls Tryd.prog 54 #[pr x0 y0] w (DgPost x0 y0 w) := by
  obtain ⟨i0, hi, hz0, hz1, hz2⟩ := info_parts infoB
  obtain ⟨x1, x2⟩ := hx
  obtain ⟨y1, y2⟩ := hy
  go_enter Tryd.func54, Tryd.ntmps54
  go_wp2_with fail
  have S0 := Lib.hid (show DgRel x0 y0 w (ms x0 y0) (.slice none 0 0) (w.alloc (.cells #[.int .i64 x0, .int .i64 y0] 63)) from
    ⟨x0, y0, [], World.ownsRow_nil _ _ _ _, ⟨x1, x2⟩, ⟨y1, y2⟩, rfl, by have := ms_le (x := x0) (y := y0) ⟨by omega, by omega⟩ ⟨by omega, by omega⟩; simp; omega, rfl, by (repeat' (first | assumption | exact Below.refl _ _ | apply Blw.alloc | apply Blw.drew | apply Blw.drewN | (refine Blw.after ?_ (by assumption)) | (refine Blw.set ?_ (by first | (dsimp only; omega) | (simp; done) | (simp; omega)) _))), by go_simp, by go_simp, by go_simp, by go_simp⟩)
  clear x1 x2 y1 y2
  go_loopg [3] (ms x0 y0) (fun m v wr => DgRel x0 y0 w m v wr)
  case atStart => exact S0.out
  case round =>
    clear S0
    obtain ⟨x, y, pre, hown, ⟨x1, x2⟩, ⟨y1, y2⟩, hc, hl, hm, hB, c0, c1, f0, f1⟩ := hrel
    have L0 : w.heap.size < wr.heap.size := World.block_lt_of_cell? wr _ c0
    have HC := Lib.hid hc
    have HM := Lib.hid hm
    have HO := Lib.hid hown
    clear hc hm
    by_cases hz : x = 0 ∧ y = 0
    · obtain ⟨rfl, rfl⟩ := hz
      have HE := Lib.hid (show pre = dgs x0 y0 by rw [← HC.out, dgs_zero, List.append_nil])
      clear hown
      go_wp2
      go_ret
      exact ⟨_, rfl, by rw [← HE.out]; exact ownsRow_low (by omega) HO.out, by (repeat' (first | assumption | exact Below.refl _ _ | apply Blw.alloc | apply Blw.drew | apply Blw.drewN | (refine Blw.after ?_ (by assumption)) | (refine Blw.set ?_ (by first | (dsimp only; omega) | (simp; done) | (simp; omega)) _)))⟩
    · have HS := Lib.hid (dgs_step hz)
      have HQ := Lib.hid (ms_less hz)
      obtain ⟨⟨i1, i2⟩, i3, i4⟩ := next_in (x := x) (y := y) ⟨x1, x2⟩ ⟨y1, y2⟩
      have P1 := two_nX x y
      have P2 := two_nY x y
      have T : ¬ x = 0 ∨ (x = 0 ∧ ¬ y = 0) := by omega
      have HZ := Lib.hid hz
      clear hz
      have HP1 := Lib.hid P1
      have HP2 := Lib.hid P2
      clear P1 P2
      rcases T with T | ⟨rfl, T⟩
      · rcases lastD_01 x y with hd | hd
        · have ha : bits .and .i64 (x + y) 1 = 0 := by rw [i64_and1]; exact hd
          have HD := Lib.hid hd
          clear hd
          go_wp2_with (first
            | (at_builtin; refine wpList_append_own _ rfl _ _ 22 rfl (w.heap.size + 1) 5 i0 (.int .u8 0) 1 1 Tryd.underlying22 hi hz0 hz1 hz2 rfl (by decide) _ _ _ rfl (HO.out.alloc _) ⟨wr.heap.size, 0, none⟩ 1 1 [.int .u8 48] rfl rfl (cells1 _ _ _) (one1 _ rfl) (by unfold maxLen; omega) (by omega) (by simp; omega) ?_))
          intro v' W1 hown' hgrow _
          have hne := own_ne HO.out (b := w.heap.size) (by omega)
          have k0 : W1.cell? ⟨w.heap.size, 0, none⟩ = some (.int .i64 x) := hgrow.cell (by go_simp) hne
          have k1 : W1.cell? ⟨w.heap.size, 1, none⟩ = some (.int .i64 y) := hgrow.cell (by go_simp) hne
          have g0 : W1.frozen? ⟨w.heap.size, 0, none⟩ = false := (World.frozen?_of_block (hgrow.block w.heap.size (by simp; omega) hne)).trans (by go_simp)
          have g1 : W1.frozen? ⟨w.heap.size, 1, none⟩ = false := (World.frozen?_of_block (hgrow.block w.heap.size (by simp; omega) hne)).trans (by go_simp)
          have hB1 : Below w.heap.size w W1 := Below.grown (by (repeat' (first | assumption | exact Below.refl _ _ | apply Blw.alloc | apply Blw.drew | apply Blw.drewN | (refine Blw.after ?_ (by assumption)) | (refine Blw.set ?_ (by first | (dsimp only; omega) | (simp; done) | (simp; omega)) _)))) hgrow (by simp; omega) (fun k hk => by have := (HO.out.lt k hk).1; omega)
          have L1 : w.heap.size < W1.heap.size := World.block_lt_of_cell? W1 _ k0
          have HO1 := Lib.hid hown'
          clear hgrow hown' hne HO hown
          go_wp2_with (first | (go_at_call 74; refine (minus0_c x y _ (by omega) (by omega)).mono ?_; rintro e w1 ⟨rfl, hb⟩; have hk : Hld W1 w1 := heldM (by (repeat' (first | assumption | exact Below.refl _ _ | apply Blw.alloc | apply Blw.drew | apply Blw.drewN | (refine Blw.after ?_ (by assumption)) | (refine Blw.set ?_ (by first | (dsimp only; omega) | (simp; done) | (simp; omega)) _)))); have hk1 := hk.1) | (go_at_call 75; refine (overBase_c x y (nX x y) (nY x y) _ (by omega) (by omega) (by have := HP1.out; have := HD.out; omega) (by have := HP2.out; have := HD.out; omega)).mono ?_; rintro e w1 ⟨rfl, hb⟩; have hk : Hld W1 w1 := heldM (by (repeat' (first | assumption | exact Below.refl _ _ | apply Blw.alloc | apply Blw.drew | apply Blw.drewN | (refine Blw.after ?_ (by assumption)) | (refine Blw.set ?_ (by first | (dsimp only; omega) | (simp; done) | (simp; omega)) _)))); have hk1 := hk.1))
          go_roundg (ms (nX x y) (nY x y))
          case measure => rw [HM.out]; exact HQ.out
          case rel =>
            refine ⟨nX x y, nY x y, pre ++ [bitc (lastD x y)], ?_, ⟨i1, i2⟩, ⟨i3, i4⟩, by rw [← HC.out, HS.out]; simp, by have := HQ.out; simp; omega, rfl, by (repeat' (first | assumption | exact Below.refl _ _ | apply Blw.alloc | apply Blw.drew | apply Blw.drewN | (refine Blw.after ?_ (by assumption)) | (refine Blw.set ?_ (by first | (dsimp only; omega) | (simp; done) | (simp; omega)) _))), by go_simp, by go_simp, by go_simp, by go_simp⟩
            rw [HD.out, List.length_append, List.map_append]
            exact own_set (own_set (own_below HO1.out (by assumption)) (by simp) _) (by simp) _
        · have ha : bits .and .i64 (x + y) 1 = 1 := by rw [i64_and1]; exact hd
          have HD := Lib.hid hd
          clear hd
          go_wp2_with (first
            | (at_builtin; refine wpList_append_own _ rfl _ _ 22 rfl (w.heap.size + 1) 5 i0 (.int .u8 0) 1 1 Tryd.underlying22 hi hz0 hz1 hz2 rfl (by decide) _ _ _ rfl (HO.out.alloc _) ⟨wr.heap.size, 0, none⟩ 1 1 [.int .u8 49] rfl rfl (cells1 _ _ _) (one1 _ rfl) (by unfold maxLen; omega) (by omega) (by simp; omega) ?_))
          intro v' W1 hown' hgrow _
          have hne := own_ne HO.out (b := w.heap.size) (by omega)
          have k0 : W1.cell? ⟨w.heap.size, 0, none⟩ = some (.int .i64 x) := hgrow.cell (by go_simp) hne
          have k1 : W1.cell? ⟨w.heap.size, 1, none⟩ = some (.int .i64 y) := hgrow.cell (by go_simp) hne
          have g0 : W1.frozen? ⟨w.heap.size, 0, none⟩ = false := (World.frozen?_of_block (hgrow.block w.heap.size (by simp; omega) hne)).trans (by go_simp)
          have g1 : W1.frozen? ⟨w.heap.size, 1, none⟩ = false := (World.frozen?_of_block (hgrow.block w.heap.size (by simp; omega) hne)).trans (by go_simp)
          have hB1 : Below w.heap.size w W1 := Below.grown (by (repeat' (first | assumption | exact Below.refl _ _ | apply Blw.alloc | apply Blw.drew | apply Blw.drewN | (refine Blw.after ?_ (by assumption)) | (refine Blw.set ?_ (by first | (dsimp only; omega) | (simp; done) | (simp; omega)) _)))) hgrow (by simp; omega) (fun k hk => by have := (HO.out.lt k hk).1; omega)
          have L1 : w.heap.size < W1.heap.size := World.block_lt_of_cell? W1 _ k0
          have HO1 := Lib.hid hown'
          clear hgrow hown' hne HO hown
          go_wp2_with (first | (go_at_call 74; refine (minus1_c x y _ (by omega) (by omega)).mono ?_; rintro e w1 ⟨rfl, hb⟩; have hk : Hld W1 w1 := heldM (by (repeat' (first | assumption | exact Below.refl _ _ | apply Blw.alloc | apply Blw.drew | apply Blw.drewN | (refine Blw.after ?_ (by assumption)) | (refine Blw.set ?_ (by first | (dsimp only; omega) | (simp; done) | (simp; omega)) _)))); have hk1 := hk.1) | (go_at_call 75; refine (overBase_c (x - 1) y (nX x y) (nY x y) _ (by omega) (by omega) (by have := HP1.out; have := HD.out; omega) (by have := HP2.out; have := HD.out; omega)).mono ?_; rintro e w1 ⟨rfl, hb⟩; have hk : Hld W1 w1 := heldM (by (repeat' (first | assumption | exact Below.refl _ _ | apply Blw.alloc | apply Blw.drew | apply Blw.drewN | (refine Blw.after ?_ (by assumption)) | (refine Blw.set ?_ (by first | (dsimp only; omega) | (simp; done) | (simp; omega)) _)))); have hk1 := hk.1))
          go_roundg (ms (nX x y) (nY x y))
          case measure => rw [HM.out]; exact HQ.out
          case rel =>
            refine ⟨nX x y, nY x y, pre ++ [bitc (lastD x y)], ?_, ⟨i1, i2⟩, ⟨i3, i4⟩, by rw [← HC.out, HS.out]; simp, by have := HQ.out; simp; omega, rfl, by (repeat' (first | assumption | exact Below.refl _ _ | apply Blw.alloc | apply Blw.drew | apply Blw.drewN | (refine Blw.after ?_ (by assumption)) | (refine Blw.set ?_ (by first | (dsimp only; omega) | (simp; done) | (simp; omega)) _))), by go_simp, by go_simp, by go_simp, by go_simp⟩
            rw [HD.out, List.length_append, List.map_append]
            exact own_set (own_set (own_below HO1.out (by assumption)) (by simp) _) (by simp) _
      · rcases lastD_01 0 y with hd | hd
        · have ha : bits .and .i64 (y) 1 = 0 := by rw [i64_and1]; simpa [lastD] using hd
          have HD := Lib.hid hd
          clear hd
          go_wp2_with (first
            | (at_builtin; refine wpList_append_own _ rfl _ _ 22 rfl (w.heap.size + 1) 5 i0 (.int .u8 0) 1 1 Tryd.underlying22 hi hz0 hz1 hz2 rfl (by decide) _ _ _ rfl (HO.out.alloc _) ⟨wr.heap.size, 0, none⟩ 1 1 [.int .u8 48] rfl rfl (cells1 _ _ _) (one1 _ rfl) (by unfold maxLen; omega) (by omega) (by simp; omega) ?_))
          intro v' W1 hown' hgrow _
          have hne := own_ne HO.out (b := w.heap.size) (by omega)
          have k0 : W1.cell? ⟨w.heap.size, 0, none⟩ = some (.int .i64 0) := hgrow.cell (by go_simp) hne
          have k1 : W1.cell? ⟨w.heap.size, 1, none⟩ = some (.int .i64 y) := hgrow.cell (by go_simp) hne
          have g0 : W1.frozen? ⟨w.heap.size, 0, none⟩ = false := (World.frozen?_of_block (hgrow.block w.heap.size (by simp; omega) hne)).trans (by go_simp)
          have g1 : W1.frozen? ⟨w.heap.size, 1, none⟩ = false := (World.frozen?_of_block (hgrow.block w.heap.size (by simp; omega) hne)).trans (by go_simp)
          have hB1 : Below w.heap.size w W1 := Below.grown (by (repeat' (first | assumption | exact Below.refl _ _ | apply Blw.alloc | apply Blw.drew | apply Blw.drewN | (refine Blw.after ?_ (by assumption)) | (refine Blw.set ?_ (by first | (dsimp only; omega) | (simp; done) | (simp; omega)) _)))) hgrow (by simp; omega) (fun k hk => by have := (HO.out.lt k hk).1; omega)
          have L1 : w.heap.size < W1.heap.size := World.block_lt_of_cell? W1 _ k0
          have HO1 := Lib.hid hown'
          clear hgrow hown' hne HO hown
          go_wp2_with (first | (go_at_call 74; refine (minus0_c 0 y _ (by omega) (by omega)).mono ?_; rintro e w1 ⟨rfl, hb⟩; have hk : Hld W1 w1 := heldM (by (repeat' (first | assumption | exact Below.refl _ _ | apply Blw.alloc | apply Blw.drew | apply Blw.drewN | (refine Blw.after ?_ (by assumption)) | (refine Blw.set ?_ (by first | (dsimp only; omega) | (simp; done) | (simp; omega)) _)))); have hk1 := hk.1) | (go_at_call 75; refine (overBase_c 0 y (nX 0 y) (nY 0 y) _ (by omega) (by omega) (by have := HP1.out; have := HD.out; omega) (by have := HP2.out; have := HD.out; omega)).mono ?_; rintro e w1 ⟨rfl, hb⟩; have hk : Hld W1 w1 := heldM (by (repeat' (first | assumption | exact Below.refl _ _ | apply Blw.alloc | apply Blw.drew | apply Blw.drewN | (refine Blw.after ?_ (by assumption)) | (refine Blw.set ?_ (by first | (dsimp only; omega) | (simp; done) | (simp; omega)) _)))); have hk1 := hk.1))
          go_roundg (ms (nX 0 y) (nY 0 y))
          case measure => rw [HM.out]; exact HQ.out
          case rel =>
            refine ⟨nX 0 y, nY 0 y, pre ++ [bitc (lastD 0 y)], ?_, ⟨i1, i2⟩, ⟨i3, i4⟩, by rw [← HC.out, HS.out]; simp, by have := HQ.out; simp; omega, rfl, by (repeat' (first | assumption | exact Below.refl _ _ | apply Blw.alloc | apply Blw.drew | apply Blw.drewN | (refine Blw.after ?_ (by assumption)) | (refine Blw.set ?_ (by first | (dsimp only; omega) | (simp; done) | (simp; omega)) _))), by go_simp, by go_simp, by go_simp, by go_simp⟩
            rw [HD.out, List.length_append, List.map_append]
            exact own_set (own_set (own_below HO1.out (by assumption)) (by simp) _) (by simp) _
        · have ha : bits .and .i64 (y) 1 = 1 := by rw [i64_and1]; simpa [lastD] using hd
          have HD := Lib.hid hd
          clear hd
          go_wp2_with (first
            | (at_builtin; refine wpList_append_own _ rfl _ _ 22 rfl (w.heap.size + 1) 5 i0 (.int .u8 0) 1 1 Tryd.underlying22 hi hz0 hz1 hz2 rfl (by decide) _ _ _ rfl (HO.out.alloc _) ⟨wr.heap.size, 0, none⟩ 1 1 [.int .u8 49] rfl rfl (cells1 _ _ _) (one1 _ rfl) (by unfold maxLen; omega) (by omega) (by simp; omega) ?_))
          intro v' W1 hown' hgrow _
          have hne := own_ne HO.out (b := w.heap.size) (by omega)
          have k0 : W1.cell? ⟨w.heap.size, 0, none⟩ = some (.int .i64 0) := hgrow.cell (by go_simp) hne
          have k1 : W1.cell? ⟨w.heap.size, 1, none⟩ = some (.int .i64 y) := hgrow.cell (by go_simp) hne
          have g0 : W1.frozen? ⟨w.heap.size, 0, none⟩ = false := (World.frozen?_of_block (hgrow.block w.heap.size (by simp; omega) hne)).trans (by go_simp)
          have g1 : W1.frozen? ⟨w.heap.size, 1, none⟩ = false := (World.frozen?_of_block (hgrow.block w.heap.size (by simp; omega) hne)).trans (by go_simp)
          have hB1 : Below w.heap.size w W1 := Below.grown (by (repeat' (first | assumption | exact Below.refl _ _ | apply Blw.alloc | apply Blw.drew | apply Blw.drewN | (refine Blw.after ?_ (by assumption)) | (refine Blw.set ?_ (by first | (dsimp only; omega) | (simp; done) | (simp; omega)) _)))) hgrow (by simp; omega) (fun k hk => by have := (HO.out.lt k hk).1; omega)
          have L1 : w.heap.size < W1.heap.size := World.block_lt_of_cell? W1 _ k0
          have HO1 := Lib.hid hown'
          clear hgrow hown' hne HO hown
          go_wp2_with (first | (go_at_call 74; refine (minus1_c 0 y _ (by omega) (by omega)).mono ?_; rintro e w1 ⟨rfl, hb⟩; have hk : Hld W1 w1 := heldM (by (repeat' (first | assumption | exact Below.refl _ _ | apply Blw.alloc | apply Blw.drew | apply Blw.drewN | (refine Blw.after ?_ (by assumption)) | (refine Blw.set ?_ (by first | (dsimp only; omega) | (simp; done) | (simp; omega)) _)))); have hk1 := hk.1) | (go_at_call 75; refine (overBase_c (-1) y (nX 0 y) (nY 0 y) _ (by omega) (by omega) (by have := HP1.out; have := HD.out; omega) (by have := HP2.out; have := HD.out; omega)).mono ?_; rintro e w1 ⟨rfl, hb⟩; have hk : Hld W1 w1 := heldM (by (repeat' (first | assumption | exact Below.refl _ _ | apply Blw.alloc | apply Blw.drew | apply Blw.drewN | (refine Blw.after ?_ (by assumption)) | (refine Blw.set ?_ (by first | (dsimp only; omega) | (simp; done) | (simp; omega)) _)))); have hk1 := hk.1))
          go_roundg (ms (nX 0 y) (nY 0 y))
          case measure => rw [HM.out]; exact HQ.out
          case rel =>
            refine ⟨nX 0 y, nY 0 y, pre ++ [bitc (lastD 0 y)], ?_, ⟨i1, i2⟩, ⟨i3, i4⟩, by rw [← HC.out, HS.out]; simp, by have := HQ.out; simp; omega, rfl, by (repeat' (first | assumption | exact Below.refl _ _ | apply Blw.alloc | apply Blw.drew | apply Blw.drewN | (refine Blw.after ?_ (by assumption)) | (refine Blw.set ?_ (by first | (dsimp only; omega) | (simp; done) | (simp; omega)) _))), by go_simp, by go_simp, by go_simp, by go_simp⟩
            rw [HD.out, List.length_append, List.map_append]
            exact own_set (own_set (own_below HO1.out (by assumption)) (by simp) _) (by simp) _
end Go.Proofs.YtaleeoghifcadaaDoor

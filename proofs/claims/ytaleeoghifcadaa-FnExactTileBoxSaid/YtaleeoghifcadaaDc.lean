/- Chapter 2: the value of an expansion, of both sides. -/
import Derived.Test.YtaleeoghifcadaaDb
import Derived.Test.YtaleeoghifcadaaGc
import Derived.Test.YtaleeoghifcadaaGd
import Derived.Test.YtaleeoghifcadaaDit
import Derived.StillTailTactics
namespace Go.Proofs.Ytaleeoghifcadaa
set_option linter.unusedSimpArgs false
set_option linter.unusedVariables false
open Go.RowKit

theorem valX_step {s : ByteArray} {k : Nat} (hk : k < s.size) : valX ((toL s).take (k + 1)) = -valX ((toL s).take k) - valY ((toL s).take k) + ((s[k].toNat : Int) - 48) := by
  rw [take_snocB s k hk, valX_snoc]; rfl
theorem valY_step {s : ByteArray} {k : Nat} (hk : k < s.size) : valY ((toL s).take (k + 1)) = valX ((toL s).take k) - valY ((toL s).take k) := by
  rw [take_snocB s k hk, valY_snoc]
theorem val_at {s : ByteArray} (h : vldB s = true) (k : Nat) : (-1125899906842624 ≤ valX ((toL s).take k) ∧ valX ((toL s).take k) ≤ 1125899906842624) ∧ (-1125899906842624 ≤ valY ((toL s).take k) ∧ valY ((toL s).take k) ≤ 1125899906842624) :=
  val_in (take_bits h k) (Nat.le_trans (List.length_take_le' _ _) (by rw [toL_len]; exact (vldB_len h).2))
def valB (s : ByteArray) : Bool := vldB s && inB 1000000 (valX (toL s)) (valY (toL s))
abbrev valV (s : ByteArray) : Value := res2 (valB s) (valX (toL s)) (valY (toL s))
theorem valV_no {s : ByteArray} (h : vldB s = false) : valV s = .tuple #[pr 0 0, .bool false] := by
  have : valB s = false := by unfold valB; rw [h]; rfl
  unfold valV; rw [this]; rfl
theorem valV_yes {s : ByteArray} (h : vldB s = true) : valV s = res2 (inB 1000000 (valX (toL s)) (valY (toL s))) (valX (toL s)) (valY (toL s)) := by
  have : valB s = inB 1000000 (valX (toL s)) (valY (toL s)) := by unfold valB; rw [h]; rfl
  unfold valV; rw [this]

/-- the model's number in its block -/
def ValRel (s : ByteArray) (w : World) (rb zb : Nat) (m : Nat) (i : Value) (wr : World) : Prop :=
  ∃ k : Nat, k + m = s.size ∧ i = .int .i64 k ∧ Below w.heap.size w wr ∧ wr.cell? ⟨zb, 0, none⟩ = some (.int .i64 (valX ((toL s).take k))) ∧ wr.cell? ⟨zb, 1, none⟩ = some (.int .i64 (valY ((toL s).take k))) ∧
    wr.frozen? ⟨zb, 0, none⟩ = false ∧ wr.frozen? ⟨zb, 1, none⟩ = false ∧ wr.cell? ⟨rb, 0, none⟩ = some (.int .i64 0) ∧ wr.cell? ⟨rb, 1, none⟩ = some (.int .i64 0) ∧ wr.frozen? ⟨rb, 0, none⟩ = false ∧ wr.frozen? ⟨rb, 1, none⟩ = false
/-! ### the program's side -/
theorem plusW_c (x y x' y' : Int) (w : World) (h : -9007199254740992 ≤ x ∧ x ≤ 9007199254740992 ∧ -9007199254740992 ≤ y ∧ y ≤ 9007199254740992) (h' : -9007199254740992 ≤ x' ∧ x' ≤ 9007199254740992 ∧ -9007199254740992 ≤ y' ∧ y' ≤ 9007199254740992) : Calls Try.prog 11 #[pr x y, pr x' y'] w fun e w' => e = .returned (pr (x + x') (y + y')) ∧ Below w.heap.size w w' := by
  obtain ⟨h1, h2, h3, h4⟩ := h
  obtain ⟨h1', h2', h3', h4'⟩ := h'
  go_enter Try.func11, Try.ntmps11
  go_wp2
  exact bodyPost_ret (v := pr (x + x') (y + y')) (by simp [results, Try.results11, go_sem]) rfl ⟨rfl, by (first | ((repeat' with_reducible first | assumption | exact Below.refl _ _ | apply Blw.alloc | apply Blw.drew | apply Blw.drewN | (refine Blw.after ?_ (by assumption)) | (refine Blw.set ?_ (by first | (dsimp only; omega) | (simp; omega)) _)); done) | (repeat' (first | assumption | exact Below.refl _ _ | apply Blw.alloc | apply Blw.drew | apply Blw.drewN | (refine Blw.after ?_ (by assumption)) | (refine Blw.set ?_ (by first | (dsimp only; omega) | (simp; done) | (simp; omega)) _))))⟩
theorem timesBase_c (x y : Int) (w : World) (h : -1125899906842624 ≤ x ∧ x ≤ 1125899906842624) (h' : -1125899906842624 ≤ y ∧ y ≤ 1125899906842624) : Calls Try.prog 10 #[pr x y, pr (-1) 1] w fun e w' => e = .returned (pr (-x - y) (x - y)) ∧ Below w.heap.size w w' := by
  obtain ⟨h1, h2⟩ := h
  obtain ⟨h3, h4⟩ := h'
  have e1 : x * -1 = -x := by omega
  have e2 : y * -1 = -y := by omega
  have HE := Lib.hid (show -x + -y = -x - y by omega)
  go_enter Try.func10, Try.ntmps10
  go_wp2
  exact bodyPost_ret (v := pr (-x - y) (x - y)) (by simp [results, Try.results10, go_sem]; omega) rfl ⟨rfl, by (first | ((repeat' with_reducible first | assumption | exact Below.refl _ _ | apply Blw.alloc | apply Blw.drew | apply Blw.drewN | (refine Blw.after ?_ (by assumption)) | (refine Blw.set ?_ (by first | (dsimp only; omega) | (simp; omega)) _)); done) | (repeat' (first | assumption | exact Below.refl _ _ | apply Blw.alloc | apply Blw.drew | apply Blw.drewN | (refine Blw.after ?_ (by assumption)) | (refine Blw.set ?_ (by first | (dsimp only; omega) | (simp; done) | (simp; omega)) _))))⟩

def ValRelR (s : ByteArray) (w : World) (rb zb ib : Nat) (m : Nat) (wr : World) : Prop :=
  ∃ k : Nat, k + m = s.size ∧ wr.heap[ib]? = some (.stringIter s k) ∧ Below w.heap.size w wr ∧ wr.cell? ⟨zb, 0, none⟩ = some (.int .i64 (valX ((toL s).take k))) ∧ wr.cell? ⟨zb, 1, none⟩ = some (.int .i64 (valY ((toL s).take k))) ∧
    wr.frozen? ⟨zb, 0, none⟩ = false ∧ wr.frozen? ⟨zb, 1, none⟩ = false ∧ wr.cell? ⟨rb, 0, none⟩ = some (.int .i64 0) ∧ wr.cell? ⟨rb, 1, none⟩ = some (.int .i64 0) ∧ wr.frozen? ⟨rb, 0, none⟩ = false ∧ wr.frozen? ⟨rb, 1, none⟩ = false
theorem val_atB {s : ByteArray} (h : ∀ c ∈ toL s, bitC c = true) (hl : s.size ≤ 50) (k : Nat) : (-1125899906842624 ≤ valX ((toL s).take k) ∧ valX ((toL s).take k) ≤ 1125899906842624) ∧ (-1125899906842624 ≤ valY ((toL s).take k) ∧ valY ((toL s).take k) ≤ 1125899906842624) :=
  val_in (fun c hc => h c (List.mem_of_mem_take hc)) (Nat.le_trans (List.length_take_le' _ _) (by rw [toL_len]; exact hl))
theorem bit_at {s : ByteArray} (h : ∀ c ∈ toL s, bitC c = true) (k : Nat) (hk : k < s.size) : s[k].toNat = 48 ∨ s[k].toNat = 49 :=
  (bitC_iff _).1 (h _ (List.mem_of_getElem? (toL_get s k hk)))
theorem byte_atB {s : ByteArray} (h : ∀ c ∈ toL s, bitC c = true) (k : Nat) (hk : k < s.size) : 48 ≤ (s[k].toNat : Int) ∧ (s[k].toNat : Int) ≤ 49 := by
  have := bit_at h k hk; omega
theorem decode_bit {s : ByteArray} (h : ∀ c ∈ toL s, bitC c = true) (k : Nat) (hk : k < s.size) : Utf8.decode s k = (s[k].toNat, 1) :=
  decode_ascii s k hk (by have := bit_at h k hk; omega)
set_option maxRecDepth 100000 in
set_option maxHeartbeats 2000000 in
theorem digitsPair_c (s : ByteArray) (w : World) (hb0 : ∀ c ∈ toL s, bitC c = true) (hl0 : s.size ≤ 50) : Calls Try.prog 8 #[.string s] w fun e w' => e = .returned (pr (valX (toL s)) (valY (toL s))) ∧ Below w.heap.size w w' := by
  have HV := Lib.hid hb0
  clear hb0
  go_enter Try.func8, Try.ntmps8
  go_wp2_with fail
  generalize hW : World.alloc (World.alloc w _) _ = A
  have kA_1 : A.cell? ⟨w.heap.size, 0, none⟩ = some (.int .i64 (0)) := by rw [← hW]; clear hW; first | (go_simp; done) | ((repeat refine keepcell ((Below.refl _ _).alloc (Nat.le_refl _) _) ?_); go_simp; done) | (simp only [frozen?_alloc_cells]; go_simp; done)
  have zA_1 : A.frozen? ⟨w.heap.size, 0, none⟩ = false := by rw [← hW]; clear hW; first | (go_simp; done) | ((repeat refine keepcell ((Below.refl _ _).alloc (Nat.le_refl _) _) ?_); go_simp; done) | (simp only [frozen?_alloc_cells]; go_simp; done)
  have kA_2 : A.cell? ⟨w.heap.size, 1, none⟩ = some (.int .i64 (0)) := by rw [← hW]; clear hW; first | (go_simp; done) | ((repeat refine keepcell ((Below.refl _ _).alloc (Nat.le_refl _) _) ?_); go_simp; done) | (simp only [frozen?_alloc_cells]; go_simp; done)
  have zA_2 : A.frozen? ⟨w.heap.size, 1, none⟩ = false := by rw [← hW]; clear hW; first | (go_simp; done) | ((repeat refine keepcell ((Below.refl _ _).alloc (Nat.le_refl _) _) ?_); go_simp; done) | (simp only [frozen?_alloc_cells]; go_simp; done)
  have : w.heap.size < A.heap.size := World.block_lt_of_cell? A ⟨w.heap.size, 0, none⟩ (by assumption)
  have kA_3 : A.cell? ⟨w.heap.size + 1, 0, none⟩ = some (.int .i64 (0)) := by rw [← hW]; clear hW; first | (go_simp; done) | ((repeat refine keepcell ((Below.refl _ _).alloc (Nat.le_refl _) _) ?_); go_simp; done) | (simp only [frozen?_alloc_cells]; go_simp; done)
  have zA_3 : A.frozen? ⟨w.heap.size + 1, 0, none⟩ = false := by rw [← hW]; clear hW; first | (go_simp; done) | ((repeat refine keepcell ((Below.refl _ _).alloc (Nat.le_refl _) _) ?_); go_simp; done) | (simp only [frozen?_alloc_cells]; go_simp; done)
  have kA_4 : A.cell? ⟨w.heap.size + 1, 1, none⟩ = some (.int .i64 (0)) := by rw [← hW]; clear hW; first | (go_simp; done) | ((repeat refine keepcell ((Below.refl _ _).alloc (Nat.le_refl _) _) ?_); go_simp; done) | (simp only [frozen?_alloc_cells]; go_simp; done)
  have zA_4 : A.frozen? ⟨w.heap.size + 1, 1, none⟩ = false := by rw [← hW]; clear hW; first | (go_simp; done) | ((repeat refine keepcell ((Below.refl _ _).alloc (Nat.le_refl _) _) ?_); go_simp; done) | (simp only [frozen?_alloc_cells]; go_simp; done)
  have : w.heap.size + 1 < A.heap.size := World.block_lt_of_cell? A ⟨w.heap.size + 1, 0, none⟩ (by assumption)
  have hBA : Below w.heap.size w A := by rw [← hW]; (first | ((repeat' with_reducible first | assumption | exact Below.refl _ _ | apply Blw.alloc | apply Blw.drew | apply Blw.drewN | (refine Blw.after ?_ (by assumption)) | (refine Blw.set ?_ (by first | (dsimp only; omega) | (simp; omega)) _)); done) | (repeat' (first | assumption | exact Below.refl _ _ | apply Blw.alloc | apply Blw.drew | apply Blw.drewN | (refine Blw.after ?_ (by assumption)) | (refine Blw.set ?_ (by first | (dsimp only; omega) | (simp; done) | (simp; omega)) _))))
  have hsA := hBA.size
  have hzA : A.heap.size = w.heap.size + 1 + 1 := by rw [← hW]; first | exact alloc_size _ _ | (rw [alloc_size, alloc_size])
  clear hW
  have S0 : ValRelR s w w.heap.size (w.heap.size + 1) (w.heap.size + 1 + 1) s.size (A.iter s 0) :=
    ⟨0, by omega, by rw [← hzA]; exact World.iter_heap A s 0, hBA.trans ((iter_below A s 0).mono (by omega)), by rw [List.take_zero, valX_nil]; exact iter_cell A s 0 (by assumption), by rw [List.take_zero, valY_nil]; exact iter_cell A s 0 (by assumption),
      (iter_froz A s 0 (by omega)).trans (by assumption), (iter_froz A s 0 (by omega)).trans (by assumption), iter_cell A s 0 (by assumption), iter_cell A s 0 (by assumption), (iter_froz A s 0 (by omega)).trans (by assumption), (iter_froz A s 0 (by omega)).trans (by assumption)⟩
  have HS0 := Lib.hid S0
  clear S0 hBA
  try clear kA_1; try clear zA_1; try clear kA_2; try clear zA_2; try clear kA_3; try clear zA_3; try clear kA_4; try clear zA_4
  go_loopg [5] s.size (fun m v wr => ValRelR s w w.heap.size (w.heap.size + 1) (w.heap.size + 1 + 1) m wr)
  case atStart => exact HS0.out
  case round =>
    clear HS0
    obtain ⟨k, hk, hit, hBw, z0, z1, f0, f1, r0, r1, g0, g1⟩ := hrel
    have L1 := iter_lt hit
    by_cases hlt : k < s.size
    · have hnx : ∀ ty, (Instr.next (.pointer (some ⟨w.heap.size + 1 + 1, 0, none⟩)) true ty).run Try.prog wr = _ := fun ty => Lib.run_next_any_at wr (w.heap.size + 1 + 1) s k ty hit hlt
      rw [decode_bit HV.out k hlt] at hnx
      have hit2 := Lib.iterAt_heap wr (w.heap.size + 1 + 1) s k (k + 1) hit
      have hB2 := Lib.below_iterAt hBw (k := w.heap.size + 1 + 1) (by omega) s (k + 1)
      have y0 := (iterAt_cell wr (w.heap.size + 1 + 1) s (k + 1) (b := w.heap.size + 1) (o := 0) (by omega)).trans z0
      have y1 := (iterAt_cell wr (w.heap.size + 1 + 1) s (k + 1) (b := w.heap.size + 1) (o := 1) (by omega)).trans z1
      have e0 := (iterAt_froz wr (w.heap.size + 1 + 1) s (k + 1) (b := w.heap.size + 1) (o := 0) (by omega)).trans f0
      have e1 := (iterAt_froz wr (w.heap.size + 1 + 1) s (k + 1) (b := w.heap.size + 1) (o := 1) (by omega)).trans f1
      have q0 := (iterAt_cell wr (w.heap.size + 1 + 1) s (k + 1) (b := w.heap.size) (o := 0) (by omega)).trans r0
      have q1 := (iterAt_cell wr (w.heap.size + 1 + 1) s (k + 1) (b := w.heap.size) (o := 1) (by omega)).trans r1
      have d0 := (iterAt_froz wr (w.heap.size + 1 + 1) s (k + 1) (b := w.heap.size) (o := 0) (by omega)).trans g0
      have d1 := (iterAt_froz wr (w.heap.size + 1 + 1) s (k + 1) (b := w.heap.size) (o := 1) (by omega)).trans g1
      generalize wr.iterAt (w.heap.size + 1 + 1) s (k + 1) = W2 at *
      have L2 := iter_lt hit2
      have L3 : w.heap.size + 1 < W2.heap.size := by omega
      have L4 : w.heap.size < W2.heap.size := by omega
      clear hit z0 z1 f0 f1 r0 r1 g0 g1 hBw
      obtain ⟨b1, b2⟩ := byte_atB HV.out k hlt
      obtain ⟨⟨c1, c2⟩, c3, c4⟩ := val_atB HV.out hl0 k
      have HX := Lib.hid (valX_step (s := s) hlt)
      have HY := Lib.hid (valY_step (s := s) hlt)
      generalize hX : valX (List.take k (toL s)) = X at *
      generalize hY : valY (List.take k (toL s)) = Y at *
      clear hX hY
      have HI := Lib.hid hit2
      clear hit2
      go_wp2_with (first | (go_at_call 10; refine (timesBase_c X Y _ ⟨c1, c2⟩ ⟨c3, c4⟩).mono ?_; rintro e w1 ⟨rfl, hb⟩; have hk : Hld W2 w1 := heldM (by (first | ((repeat' with_reducible first | assumption | exact Below.refl _ _ | apply Blw.alloc | apply Blw.drew | apply Blw.drewN | (refine Blw.after ?_ (by assumption)) | (refine Blw.set ?_ (by first | (dsimp only; omega) | (simp; omega)) _)); done) | (repeat' (first | assumption | exact Below.refl _ _ | apply Blw.alloc | apply Blw.drew | apply Blw.drewN | (refine Blw.after ?_ (by assumption)) | (refine Blw.set ?_ (by first | (dsimp only; omega) | (simp; done) | (simp; omega)) _))))); have hk1 := hk.1) | (go_at_call 11; refine (plusW_c (-X - Y) (X - Y) ((s[k].toNat : Int) - 48) 0 _ (by omega) (by omega)).mono ?_; rintro e w1 ⟨rfl, hb⟩; have hk : Hld W2 w1 := heldM (by (first | ((repeat' with_reducible first | assumption | exact Below.refl _ _ | apply Blw.alloc | apply Blw.drew | apply Blw.drewN | (refine Blw.after ?_ (by assumption)) | (refine Blw.set ?_ (by first | (dsimp only; omega) | (simp; omega)) _)); done) | (repeat' (first | assumption | exact Below.refl _ _ | apply Blw.alloc | apply Blw.drew | apply Blw.drewN | (refine Blw.after ?_ (by assumption)) | (refine Blw.set ?_ (by first | (dsimp only; omega) | (simp; done) | (simp; omega)) _))))); have hk1 := hk.1))
      go_roundg (gk - 1)
      case measure => omega
      case rel => exact ⟨k + 1, by omega, iter_set (iter_set (iter_of_below (by assumption) HI.out) (by dsimp only; omega) _) (by dsimp only; omega) _, by (first | ((repeat' with_reducible first | assumption | exact Below.refl _ _ | apply Blw.alloc | apply Blw.drew | apply Blw.drewN | (refine Blw.after ?_ (by assumption)) | (refine Blw.set ?_ (by first | (dsimp only; omega) | (simp; omega)) _)); done) | (repeat' (first | assumption | exact Below.refl _ _ | apply Blw.alloc | apply Blw.drew | apply Blw.drewN | (refine Blw.after ?_ (by assumption)) | (refine Blw.set ?_ (by first | (dsimp only; omega) | (simp; done) | (simp; omega)) _)))), by rw [HX.out]; go_simp, by rw [HY.out]; go_simp, by go_simp, by go_simp, by go_simp, by go_simp, by go_simp, by go_simp⟩
    · have hnx : ∀ ty, (Instr.next (.pointer (some ⟨w.heap.size + 1 + 1, 0, none⟩)) true ty).run Try.prog wr = _ := fun ty => Lib.run_next_end_at wr (w.heap.size + 1 + 1) s k ty hit hlt
      have HS := Lib.hid (take_allB s k (by omega))
      have L3 : w.heap.size + 1 < wr.heap.size := by omega
      have L4 : w.heap.size < wr.heap.size := by omega
      rw [HS.out] at z0 z1
      go_wp2
      exact bodyPost_ret (v := pr (valX (toL s)) (valY (toL s))) (by simp [results, Try.results8, go_sem, *]) rfl ⟨rfl, by (first | ((repeat' with_reducible first | assumption | exact Below.refl _ _ | apply Blw.alloc | apply Blw.drew | apply Blw.drewN | (refine Blw.after ?_ (by assumption)) | (refine Blw.set ?_ (by first | (dsimp only; omega) | (simp; omega)) _)); done) | (repeat' (first | assumption | exact Below.refl _ _ | apply Blw.alloc | apply Blw.drew | apply Blw.drewN | (refine Blw.after ?_ (by assumption)) | (refine Blw.set ?_ (by first | (dsimp only; omega) | (simp; done) | (simp; omega)) _))))⟩
end Go.Proofs.Ytaleeoghifcadaa

/- Chapter 2: the binary number of an expansion, of both sides. -/
import Derived.Test.YtaleeoghifcadaaDoorDa
namespace Go.Proofs.YtaleeoghifcadaaDoor
set_option linter.unusedSimpArgs false
set_option linter.unusedVariables false
open Go.RowKit

theorem idx_step {s : ByteArray} {k : Nat} (hk : k < s.size) : idxF ((toL s).take (k + 1)) = 2 * idxF ((toL s).take k) + ((s[k].toNat : Int) - 48) := by
  rw [take_snocB s k hk, idxF_snoc]; rfl
theorem idx_at {s : ByteArray} (h : vldB s = true) (k : Nat) : 0 ≤ idxF ((toL s).take k) ∧ idxF ((toL s).take k) ≤ 1125899906842623 :=
  idx_in (take_bits h k) (Nat.le_trans (List.length_take_le' _ _) (by rw [toL_len]; exact (vldB_len h).2))
theorem byte_at {s : ByteArray} (h : vldB s = true) (k : Nat) (hk : k < s.size) : 48 ≤ (s[k].toNat : Int) ∧ (s[k].toNat : Int) ≤ 49 := by
  have := vldB_at h k hk; omega
theorem decode_vld {s : ByteArray} (h : vldB s = true) (k : Nat) (hk : k < s.size) : Utf8.decode s k = (s[k].toNat, 1) :=
  decode_ascii s k hk (by have := vldB_at h k hk; omega)

def BinRel (s : ByteArray) (w : World) (m : Nat) (v : Value) (wr : World) : Prop := ∃ k : Nat, k + m = s.size ∧ wr = w.iter s k ∧ v = .int .i64 (idxF ((toL s).take k))
set_option maxHeartbeats 1000000 in
theorem binary_c (s : ByteArray) (w : World) (hv : vldB s = true) : Calls Tryd.prog 62 #[.string s] w fun e w' => e = .returned (.int .i64 (idxF (toL s))) ∧ Below w.heap.size w w' := by
  have HV := Lib.hid hv
  clear hv
  go_enter Tryd.func62, Tryd.ntmps62
  go_wp2
  go_loopg [3] s.size (fun m v wr => BinRel s w m v wr)
  case atStart => exact ⟨0, by omega, rfl, by simp [idxF]⟩
  case round =>
    obtain ⟨k, hk, rfl, rfl⟩ := hrel
    by_cases hlt : k < s.size
    · have hnx : ∀ ty, (Instr.next (.pointer (some ⟨w.heap.size, 0, none⟩)) true ty).run Tryd.prog (w.iter s k) = _ := fun ty => run_next_any w s k ty hlt
      rw [decode_vld HV.out k hlt] at hnx
      obtain ⟨b1, b2⟩ := byte_at HV.out k hlt
      obtain ⟨c1, c2⟩ := idx_at HV.out k
      have HS := Lib.hid (idx_step (s := s) hlt)
      go_wp2
      go_roundg (gk - 1)
      case measure => omega
      case rel => exact ⟨k + 1, by omega, rfl, by rw [HS.out]⟩
    · have hnx : ∀ ty, (Instr.next (.pointer (some ⟨w.heap.size, 0, none⟩)) true ty).run Tryd.prog (w.iter s k) = _ := fun ty => run_next_end w s k ty hlt
      have HS := Lib.hid (take_allB s k (by omega))
      go_wp2
      go_ret
      exact ⟨by rw [HS.out]; rfl, by (repeat' (first | assumption | exact Below.refl _ _ | apply Blw.alloc | apply Blw.drew | apply Blw.drewN | (refine Blw.after ?_ (by assumption)) | (refine Blw.set ?_ (by first | (dsimp only; omega) | (simp; done) | (simp; omega)) _)))⟩

def idxB (s : ByteArray) : Bool := vldB s && decide (s.size ≤ 40)
def selI (b : Bool) (n : Int) : Int := if b then n else 0
abbrev idxV (s : ByteArray) : Value := .tuple #[.int .i64 (selI (idxB s) (idxF (toL s))), .bool (idxB s)]
theorem idxV_no {s : ByteArray} (h : idxB s = false) : idxV s = .tuple #[.int .i64 0, .bool false] := by unfold idxV; rw [h]; rfl
theorem idxV_yes {s : ByteArray} (h : idxB s = true) : idxV s = .tuple #[.int .i64 (idxF (toL s)), .bool true] := by unfold idxV; rw [h]; rfl

set_option maxHeartbeats 1000000 in
theorem iDigitsIndex_c (s : ByteArray) (w : World) : Calls Tryd.prog 25 #[.string s] w fun e w' => e = .returned (idxV s) ∧ Below w.heap.size w w' := by
  rcases Bool.eq_false_or_eq_true (vldB s) with hv | hv
  · by_cases h40 : s.size ≤ 40
    · have H := Lib.hid (idxV_yes (s := s) (by simp [idxB, hv, h40]))
      have HV := Lib.hid hv
      go_enter Tryd.func25, Tryd.ntmps25
      go_wp2_with (first | (go_at_call 61; refine (iDigitsValid_c _ _).mono ?_; rintro e w1 ⟨rfl, hb⟩; obtain ⟨hc, hf⟩ := bcell hb; have hz := bsize hb; have hs := hb.size; try simp at hs) | (go_at_call 62; refine (binary_c _ _ HV.out).mono ?_; rintro e w1 ⟨rfl, hb⟩; obtain ⟨hc, hf⟩ := bcell hb; have hz := bsize hb; have hs := hb.size; try simp at hs))
      go_ret2
      exact ⟨by rw [H.out]; rfl, by (repeat' (first | assumption | exact Below.refl _ _ | apply Blw.alloc | apply Blw.drew | apply Blw.drewN | (refine Blw.after ?_ (by assumption)) | (refine Blw.set ?_ (by first | (dsimp only; omega) | (simp; done) | (simp; omega)) _)))⟩
    · have H := Lib.hid (idxV_no (s := s) (by simp [idxB, h40]))
      go_enter Tryd.func25, Tryd.ntmps25
      go_wp2_with (first | (go_at_call 61; refine (iDigitsValid_c _ _).mono ?_; rintro e w1 ⟨rfl, hb⟩; obtain ⟨hc, hf⟩ := bcell hb; have hz := bsize hb; have hs := hb.size; try simp at hs))
      go_ret2
      exact ⟨by rw [H.out]; rfl, by (repeat' (first | assumption | exact Below.refl _ _ | apply Blw.alloc | apply Blw.drew | apply Blw.drewN | (refine Blw.after ?_ (by assumption)) | (refine Blw.set ?_ (by first | (dsimp only; omega) | (simp; done) | (simp; omega)) _)))⟩
  · have H := Lib.hid (idxV_no (s := s) (by simp [idxB, hv]))
    go_enter Tryd.func25, Tryd.ntmps25
    go_wp2_with (first | (go_at_call 61; refine (iDigitsValid_c _ _).mono ?_; rintro e w1 ⟨rfl, hb⟩; obtain ⟨hc, hf⟩ := bcell hb; have hz := bsize hb; have hs := hb.size; try simp at hs))
    go_ret2
    exact ⟨by rw [H.out]; rfl, by (repeat' (first | assumption | exact Below.refl _ _ | apply Blw.alloc | apply Blw.drew | apply Blw.drewN | (refine Blw.after ?_ (by assumption)) | (refine Blw.set ?_ (by first | (dsimp only; omega) | (simp; done) | (simp; omega)) _)))⟩

def IdxRel (s : ByteArray) (w : World) (m : Nat) (v i : Value) (wr : World) : Prop := ∃ k : Nat, k + m = s.size ∧ i = .int .i64 k ∧ wr = w ∧ v = .int .i64 (idxF ((toL s).take k))
end Go.Proofs.YtaleeoghifcadaaDoor

/- Chapter 3: places that change nothing, of both sides. -/
import Derived.Test.YtlcafjdinjdllabPy
import Derived.Test.YtlcafjdinjdllabRep0
namespace Go.Proofs.Ytlcafjdinjdllab
set_option linter.unusedSimpArgs false
set_option linter.unusedVariables false
open Go.RowKit

/-- the text with so many places at its end as noughts -/
def clr (s : ByteArray) (n : Nat) : ByteArray := s.extract 0 (s.size - n) ++ zz n
def reP (s : ByteArray) : Nat := pickN (ptB s) (ptR .f32 s)
def imP (s : ByteArray) : Nat := pickN (ptB s) (ptI .f32 s)
/-- nothing changes -/
def noCh (s : ByteArray) (n : Nat) : Bool := (FloatKind.f32.format.order (reP (clr s n)) (reP s) == some .eq) && (FloatKind.f32.format.order (imP (clr s n)) (imP s) == some .eq)
/-- the greatest number up to n for which f is, or 0 -/
def top (f : Nat → Bool) : Nat → Nat
  | 0 => 0
  | n + 1 => if f (n + 1) then n + 1 else top f n
theorem top_eq {f : Nat → Bool} {j : Nat} (h : j = 0 ∨ f j = true) : ∀ n, j ≤ n → (∀ i, j < i → i ≤ n → f i = false) → top f n = j
  | 0, hj, _ => by simp only [top]; omega
  | n + 1, hj, hn => by
    unfold top
    rcases Nat.lt_or_ge n j with c | c
    · have e : j = n + 1 := by omega
      subst e
      rcases h with h | h
      · omega
      · rw [if_pos h]
    · rw [if_neg (by rw [hn (n + 1) (by omega) (by omega)]; simp)]
      exact top_eq h n c (fun i h1 h2 => hn i h1 (by omega))
theorem top_succ_t {f : Nat → Bool} {n : Nat} (h : f (n + 1) = true) : top f (n + 1) = n + 1 := by unfold top; rw [if_pos h]
theorem top_succ_f {f : Nat → Bool} {n : Nat} (h : f (n + 1) = false) : top f (n + 1) = top f n := by conv => lhs; unfold top; rw [if_neg (by rw [h]; simp)]
theorem top_le (f : Nat → Bool) : ∀ n, top f n ≤ n
  | 0 => Nat.le_refl _
  | n + 1 => by unfold top; split; omega; have := top_le f n; omega
def loN (s : ByteArray) : Nat := top (noCh s) (tlS s).size
abbrev loV (s : ByteArray) : Value := .tuple #[.int .i64 (selI (ptB s) (loN s : Nat)), .bool (ptB s)]
theorem loV_no {s : ByteArray} (h : ptB s = false) : loV s = .tuple #[.int .i64 0, .bool false] := by unfold loV; rw [h]; rfl
theorem loV_yes {s : ByteArray} (h : ptB s = true) : loV s = .tuple #[.int .i64 (loN s : Nat), .bool true] := by unfold loV; rw [h]; rfl
theorem ptB_cut {s : ByteArray} (h : ptB s = true) : cutB s = true := by unfold ptB at h; rw [Bool.and_eq_true] at h; exact h.1
theorem ptV_words (s : ByteArray) : ptV .f32 s = .tuple #[.complex .f32 (reP s) (imP s), .bool (ptB s)] := rfl
theorem ex_size {s : ByteArray} {n : Nat} (h : n ≤ s.size) : (s.extract 0 (s.size - n)).size = s.size - n := by
  rw [ByteArray.size_extract]; omega
def LsRel (s : ByteArray) (w : World) (m : Nat) (v z n : Value) (wr : World) : Prop :=
  ∃ k : Nat, k + m = (tlS s).size ∧ v = .int .i64 (top (noCh s) k : Nat) ∧ z = .string (zz k) ∧ n = .int .i64 ((k : Int) + 1) ∧ Below w.heap.size w wr
set_option maxHeartbeats 2000000 in
theorem sPlacesLost_c (s : ByteArray) (w : World) (hsz : s.size ≤ 1500000) : Calls Try.prog 29 #[.string s] w fun e w' => e = .returned (loV s) ∧ Below w.heap.size w w' := by
  rcases Bool.eq_false_or_eq_true (ptB s) with hp | hp
  · have hc := ptB_cut hp
    have HC := Lib.hid (cutS_yes hc)
    obtain ⟨c0, -, -, c3⟩ := cutB_facts hc
    have hS : ∀ w, Calls Try.prog 38 #[.string s] w fun e w' => e = .returned (.tuple #[.string (hdS s), .string (tlS s), .bool true]) ∧ Below w.heap.size w w' := fun w => by rw [← HC.out]; exact l3Cut_c s w (by omega)
    have hP : ∀ w, Calls Try.prog 25 #[.string s] w fun e w' => e = .returned (.tuple #[.complex .f32 (reP s) (imP s), .bool true]) ∧ Below w.heap.size w w' := fun w => by
      have := sPointSingle_c s w (by omega)
      rw [ptV_words, hp] at this
      exact this
    have H := Lib.hid (loV_yes hp)
    have hts := Lib.hid (tlS_size s)
    have hle : (tlS s).size + 1 ≤ s.size := by rw [hts.out]; omega
    clear HC hc hp
    go_enter Try.func29, Try.ntmps29
    go_wp2_with (first | (go_at_call 25; refine (hP _).mono ?_; rintro e w1 ⟨rfl, hb⟩; obtain ⟨hc, hf⟩ := bcell hb; have hz := bsize hb; have hs := hb.size; try simp at hs) | (go_at_call 38; refine (hS _).mono ?_; rintro e w1 ⟨rfl, hb⟩; obtain ⟨hc, hf⟩ := bcell hb; have hz := bsize hb; have hs := hb.size; try simp at hs))
    go_loopg [9, 10, 11] (tlS s).size (fun m v z n wr => LsRel s w m v z n wr)
    case atStart => exact ⟨0, by omega, rfl, rfl, by go_num, by (repeat' (first | assumption | exact Below.refl _ _ | apply Blw.alloc | apply Blw.drew | apply Blw.drewN | (refine Blw.after ?_ (by assumption)) | (refine Blw.set ?_ (by first | (dsimp only; omega) | (simp; done) | (simp; omega)) _)))⟩
    case round =>
      obtain ⟨k, hk, rfl, rfl, rfl, hBw⟩ := hrel
      by_cases hlt : k < (tlS s).size
      · obtain ⟨q, hq⟩ : ∃ q, s.size = q + (k + 1) := ⟨s.size - (k + 1), by omega⟩
        have e1 : (s.size : Int) - ((k : Int) + 1) = (q : Nat) := by omega
        have e2 := zz_succ k
        have e3 : s.extract 0 q ++ zz (k + 1) = clr s (k + 1) := by unfold clr; rw [show s.size - (k + 1) = q by omega]
        have z1 := zz_size k
        have z2 := zz_size (k + 1)
        have z3 : (s.extract 0 q).size = q := by rw [ByteArray.size_extract]; omega
        have z4 : (clr s (k + 1)).size = s.size := by rw [← e3, ByteArray.size_append, z2, z3]; omega
        have hQ : ∀ w, Calls Try.prog 25 #[.string (clr s (k + 1))] w fun e w' => e = .returned (.tuple #[.complex .f32 (reP (clr s (k + 1))) (imP (clr s (k + 1))), .bool (ptB (clr s (k + 1)))]) ∧ Below w.heap.size w w' := fun w => sPointSingle_c _ w (by omega)
        rcases Bool.eq_false_or_eq_true (noCh s (k + 1)) with hn | hn
        · have HN := Lib.hid (top_succ_t hn)
          unfold noCh at hn
          go_wp2_with (go_at_call 25; refine (hQ _).mono ?_; rintro e w1 ⟨rfl, hb⟩; obtain ⟨hc, hf⟩ := bcell hb; have hz := bsize hb; have hs := hb.size; try simp at hs)
          go_roundg (gk - 1)
          case measure => omega
          case rel => exact ⟨k + 1, by omega, by rw [HN.out]; go_num, rfl, by go_num, by (repeat' (first | assumption | exact Below.refl _ _ | apply Blw.alloc | apply Blw.drew | apply Blw.drewN | (refine Blw.after ?_ (by assumption)) | (refine Blw.set ?_ (by first | (dsimp only; omega) | (simp; done) | (simp; omega)) _)))⟩
        · have HN := Lib.hid (top_succ_f hn)
          unfold noCh at hn
          go_wp2_with (go_at_call 25; refine (hQ _).mono ?_; rintro e w1 ⟨rfl, hb⟩; obtain ⟨hc, hf⟩ := bcell hb; have hz := bsize hb; have hs := hb.size; try simp at hs)
          go_roundg (gk - 1)
          case measure => omega
          case rel => exact ⟨k + 1, by omega, by rw [HN.out], rfl, by go_num, by (repeat' (first | assumption | exact Below.refl _ _ | apply Blw.alloc | apply Blw.drew | apply Blw.drewN | (refine Blw.after ?_ (by assumption)) | (refine Blw.set ?_ (by first | (dsimp only; omega) | (simp; done) | (simp; omega)) _)))⟩
      · have hk2 : k = (tlS s).size := by omega
        have HN := Lib.hid (show top (noCh s) k = loN s by rw [hk2]; rfl)
        go_wp2
        go_ret2
        exact ⟨by rw [H.out, ← HN.out]; rfl, by (repeat' (first | assumption | exact Below.refl _ _ | apply Blw.alloc | apply Blw.drew | apply Blw.drewN | (refine Blw.after ?_ (by assumption)) | (refine Blw.set ?_ (by first | (dsimp only; omega) | (simp; done) | (simp; omega)) _)))⟩
  · have hP : ∀ w, Calls Try.prog 25 #[.string s] w fun e w' => e = .returned (.tuple #[.complex .f32 (reP s) (imP s), .bool false]) ∧ Below w.heap.size w w' := fun w => by
      have := sPointSingle_c s w (by omega)
      rw [ptV_words, hp] at this
      exact this
    have H := Lib.hid (loV_no hp)
    go_enter Try.func29, Try.ntmps29
    go_wp2_with (go_at_call 25; refine (hP _).mono ?_; rintro e w1 ⟨rfl, hb⟩; obtain ⟨hc, hf⟩ := bcell hb; have hz := bsize hb; have hs := hb.size; try simp at hs)
    go_ret2
    exact ⟨by rw [H.out]; rfl, by (repeat' (first | assumption | exact Below.refl _ _ | apply Blw.alloc | apply Blw.drew | apply Blw.drewN | (refine Blw.after ?_ (by assumption)) | (refine Blw.set ?_ (by first | (dsimp only; omega) | (simp; done) | (simp; omega)) _)))⟩
end Go.Proofs.Ytlcafjdinjdllab

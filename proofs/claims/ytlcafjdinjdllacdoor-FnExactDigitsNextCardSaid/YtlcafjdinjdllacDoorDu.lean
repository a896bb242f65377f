/- Chapter 2: the library's numeral and the program's next expansion. -/
import Derived.Test.YtlcafjdinjdllacDoorDt
namespace Go.Proofs.YtlcafjdinjdllacDoor
set_option linter.unusedSimpArgs false
set_option linter.unusedVariables false
open Go.RowKit

def FmPost (v : Int) (w : World) (e : Ending) (w' : World) : Prop := ∃ l, e = .returned (.string (bs l)) ∧ Good l v ∧ Below w.heap.size w w'
set_option maxRecDepth 100000 in
theorem fmtIn_c (n : Nat) (w : World) (hn : 1 ≤ n) (hn2 : n ≤ 2251799813685247) (hT : Two w) (h6 : 2 < w.heap.size) : Calls Tryd.prog 13 #[.int .i64 n, .int .i64 2] w (FmPost n w) := by
  have HT := Lib.hid hT
  clear hT
  go_enter Tryd.func13, Tryd.ntmps13
  go_wp2_with (go_at_call 18; rw [show decide ((n : Int) < 0) = false from decide_eq_false (by omega)]; refine (formatBits_c n _ hn hn2 HT.out h6).mono ?_; rintro e w' ⟨l, rfl, hg, hb⟩; have HG := Lib.hid hg; clear hg)
  go_ret
  exact ⟨l, rfl, HG.out, hb⟩
theorem fmt_c (v : Int) (w : World) (hn : 1 ≤ v) (hn2 : v ≤ 2251799813685247) (hT : Two w) (h6 : 2 < w.heap.size) : Calls Tryd.prog 9 #[.int .i64 v, .int .i64 2] w (FmPost v w) := by
  obtain ⟨n, rfl⟩ : ∃ n : Nat, v = (n : Int) := ⟨v.toNat, by omega⟩
  have HT := Lib.hid hT
  clear hT
  have h1 : 1 ≤ n := by omega
  have h2 : n ≤ 2251799813685247 := by omega
  go_enter Tryd.func9, Tryd.ntmps9
  go_wp2_with (go_at_call 13; refine (fmtIn_c n _ h1 h2 HT.out h6).mono ?_; rintro e w' ⟨l, rfl, hg, hb⟩; have HG := Lib.hid hg; clear hg)
  go_ret
  exact ⟨l, rfl, HG.out, hb⟩

theorem resD_yes {l : List UInt8} {v : Int} (h : Good l v) (hl : l.length ≤ 50) : resD l = .tuple #[.string (bs l), .bool true] := by
  obtain ⟨b, _, g⟩ := h
  have hs : strip l = toL (bs l) := by rw [toL_bs]; exact strip_keep (by cases l with | nil => simp at g | cons a r => simp at g ⊢; rw [g]; decide)
  refine resD_t hs ?_
  show vldL (toL (bs l)) = true
  rw [toL_bs, vldL_iff]
  cases l with
  | nil => simp at g
  | cons a r => refine ⟨by simp, hl, Or.inr ?_, b⟩; simp at g ⊢; rw [g]; decide
theorem resD_over {l : List UInt8} {v : Int} (h : Good l v) (hl : 50 < l.length) : resD l = .tuple #[.string ⟨#[]⟩, .bool false] := by
  obtain ⟨b, _, g⟩ := h
  have hs : strip l = toL (bs l) := by rw [toL_bs]; exact strip_keep (by cases l with | nil => simp at g | cons a r => simp at g ⊢; rw [g]; decide)
  refine resD_f hs ?_
  show vldL (toL (bs l)) = false
  rw [toL_bs, ← Bool.not_eq_true, vldL_iff]
  rintro ⟨_, h2, _⟩
  omega

set_option maxHeartbeats 2000000 in
theorem iDigitsNext_c (s : ByteArray) (w : World) (hT : Two w) (h6 : 2 < w.heap.size) : Calls Tryd.prog 5 #[.string s] w (NextPost s w) := by
  have HT := Lib.hid hT
  clear hT
  rcases Bool.eq_false_or_eq_true (vldB s) with hv | hv
  · have HV := Lib.hid hv
    obtain ⟨c1, c2⟩ := idx_at hv s.size
    rw [take_allB s s.size (Nat.le_refl _)] at c1 c2
    go_enter Tryd.func5, Tryd.ntmps5
    go_wp2_with (first | (go_at_call 8; refine (iDigitsValid_c _ _).mono ?_; rintro e w1 ⟨rfl, hb⟩; obtain ⟨hc, hf⟩ := bcell hb; have hz := bsize hb; have hs := hb.size; try simp at hs) | (go_at_call 10; refine (binary_c _ _ HV.out).mono ?_; rintro e w1 ⟨rfl, hb⟩; obtain ⟨hc, hf⟩ := bcell hb; have hz := bsize hb; have hs := hb.size; try simp at hs) | (go_at_call 9; refine (fmt_c _ _ (by omega) (by omega) (HT.out.keep h6 (by (repeat' (first | assumption | exact Below.refl _ _ | apply Blw.alloc | apply Blw.drew | apply Blw.drewN | (refine Blw.after ?_ (by assumption)) | (refine Blw.set ?_ (by first | (dsimp only; omega) | (simp; done) | (simp; omega)) _))))) (by omega)).mono ?_; rintro e w3 ⟨l, rfl, hg, hb3⟩; have HG := Lib.hid hg; clear hg; have hsz := bs_sz l; by_cases h50 : l.length ≤ 50))
    · go_ret2
      exact ⟨l, by rw [resD_yes HG.out h50]; rfl, fun _ => HG.out, fun h => absurd (HV.out.symm.trans h) (by simp), by (repeat' (first | assumption | exact Below.refl _ _ | apply Blw.alloc | apply Blw.drew | apply Blw.drewN | (refine Blw.after ?_ (by assumption)) | (refine Blw.set ?_ (by first | (dsimp only; omega) | (simp; done) | (simp; omega)) _)))⟩
    · go_ret2
      exact ⟨l, by rw [resD_over HG.out (by omega)]; rfl, fun _ => HG.out, fun h => absurd (HV.out.symm.trans h) (by simp), by (repeat' (first | assumption | exact Below.refl _ _ | apply Blw.alloc | apply Blw.drew | apply Blw.drewN | (refine Blw.after ?_ (by assumption)) | (refine Blw.set ?_ (by first | (dsimp only; omega) | (simp; done) | (simp; omega)) _)))⟩
  · have HV := Lib.hid hv
    go_enter Tryd.func5, Tryd.ntmps5
    go_wp2_with (first | (go_at_call 8; refine (iDigitsValid_c _ _).mono ?_; rintro e w1 ⟨rfl, hb⟩; obtain ⟨hc, hf⟩ := bcell hb; have hz := bsize hb; have hs := hb.size; try simp at hs))
    go_ret2
    exact ⟨[], rfl, fun h => absurd (HV.out.symm.trans h) (by simp), fun _ => rfl, by (repeat' (first | assumption | exact Below.refl _ _ | apply Blw.alloc | apply Blw.drew | apply Blw.drewN | (refine Blw.after ?_ (by assumption)) | (refine Blw.set ?_ (by first | (dsimp only; omega) | (simp; done) | (simp; omega)) _)))⟩
theorem Next_same {s : ByteArray} {l m : List UInt8} (h1 : vldB s = true → Good l (idxF (toL s) + 1)) (h2 : vldB s = false → l = []) (k1 : vldB s = true → Good m (idxF (toL s) + 1)) (k2 : vldB s = false → m = []) : l = m := by
  rcases Bool.eq_false_or_eq_true (vldB s) with hv | hv
  · exact good_unique _ _ _ (h1 hv) (k1 hv)
  · rw [h2 hv, k2 hv]
end Go.Proofs.YtlcafjdinjdllacDoor

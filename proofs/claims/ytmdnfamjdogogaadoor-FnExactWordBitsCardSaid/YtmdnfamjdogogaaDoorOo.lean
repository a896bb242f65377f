/- The program's side: a text has no other letters than two. No law is stated here. -/
import Derived.Test.YtmdnfamjdogogaaDoorGa
import Derived.Test.YtmdnfamjdogogaaDoorDMath
import Derived.Laws.RangeString
import Derived.Laws.RangeAny
import Derived.Deep.LoopGhost
import Derived.Lib.OthersKept
import Derived.Outline
namespace Go.Proofs.YtmdnfamjdogogaaDoor
set_option linter.unusedSimpArgs false
set_option linter.unusedVariables false
open Go.RowKit

theorem toList_toL (s : ByteArray) : s.toList = toL s := ByteArray.toList_eq s
theorem iter_below (w : World) (s : ByteArray) (k : Nat) : Below w.heap.size w (w.iter s k) := (Below.refl _ _).alloc (Nat.le_refl _) _
def isXY (x y : Int) (c : UInt8) : Bool := decide ((c.toNat : Int) = x) || decide ((c.toNat : Int) = y)
theorem isXY_iff (x y : Int) (c : UInt8) : isXY x y c = true ↔ (c.toNat : Int) = x ∨ (c.toNat : Int) = y := by
  unfold isXY; rw [Bool.or_eq_true, decide_eq_true_eq, decide_eq_true_eq]
def onlyXY (x y : Int) (s : ByteArray) : Bool := (toL s).all (isXY x y)
theorem onlyXY_bad {x y : Int} {s : ByteArray} (k : Nat) (hk : k < s.size) (h : ¬ ((s[k].toNat : Int) = x ∨ (s[k].toNat : Int) = y)) : onlyXY x y s = false := by
  rw [← Bool.not_eq_true]
  intro e
  exact h ((isXY_iff _ _ _).1 (List.all_eq_true.1 e _ (List.mem_of_getElem? (toL_get s k hk))))
theorem onlyXY_good {x y : Int} {s : ByteArray} (h : ∀ c ∈ toL s, isXY x y c = true) : onlyXY x y s = true := List.all_eq_true.2 h
def XYRel (x y : Int) (s : ByteArray) (w : World) (m : Nat) (wr : World) : Prop := ∃ k : Nat, k + m = s.size ∧ wr = w.iter s k ∧ ∀ c ∈ (toL s).take k, isXY x y c = true
theorem XYRel.step {x y : Int} {s : ByteArray} {k : Nat} (hk : k < s.size) (h : ∀ c ∈ (toL s).take k, isXY x y c = true) (hc : (s[k].toNat : Int) = x ∨ (s[k].toNat : Int) = y) : ∀ c ∈ (toL s).take (k + 1), isXY x y c = true := by
  rw [take_snocB s k hk]
  intro c hm
  rcases List.mem_append.1 hm with hm | hm
  · exact h c hm
  · rw [List.mem_singleton] at hm; rw [hm]; exact (isXY_iff _ _ _).2 hc
set_option maxHeartbeats 1000000 in
theorem onlyOf_c (x y : Int) (s : ByteArray) (w : World) (hx : 0 ≤ x ∧ x < 128) (hy : 0 ≤ y ∧ y < 128) : Calls Tryd.prog 79 #[.string s, .int .i32 x, .int .i32 y] w fun e w' => e = .returned (.bool (onlyXY x y s)) ∧ Below w.heap.size w w' := by
  obtain ⟨x1, x2⟩ := hx
  obtain ⟨y1, y2⟩ := hy
  go_enter Tryd.func79, Tryd.ntmps79
  go_wp2
  go_loopg [8] s.size (fun m v wr => XYRel x y s w m wr)
  case atStart => exact ⟨0, by omega, rfl, by simp⟩
  case round =>
    obtain ⟨k, hk, rfl, hb⟩ := hrel
    have HB := Lib.hid hb
    clear hb
    by_cases hlt : k < s.size
    · have hnx : ∀ ty, (Instr.next (.pointer (some ⟨w.heap.size, 0, none⟩)) true ty).run Tryd.prog (w.iter s k) = _ := fun ty => run_next_any w s k ty hlt
      by_cases e0 : s[k].toNat < 128
      · have hd : Utf8.decode s k = (s[k].toNat, 1) := decode_ascii s k hlt e0
        rw [hd] at hnx
        clear hd e0
        by_cases e8 : (s[k].toNat : Int) = x
        · have HS := Lib.hid (XYRel.step hlt HB.out (Or.inl e8))
          have a1 : ((s[k].toNat : Int) != x) = false := by simp [e8]
          clear e8
          go_wp2
          go_roundg (gk - 1)
          case measure => omega
          case rel => exact ⟨k + 1, by omega, rfl, HS.out⟩
        · by_cases e9 : (s[k].toNat : Int) = y
          · have HS := Lib.hid (XYRel.step hlt HB.out (Or.inr e9))
            have a1 : ((s[k].toNat : Int) != x) = true := by simp [e8]
            have a2 : ((s[k].toNat : Int) != y) = false := by simp [e9]
            clear e8 e9
            go_wp2
            go_roundg (gk - 1)
            case measure => omega
            case rel => exact ⟨k + 1, by omega, rfl, HS.out⟩
          · have H := Lib.hid (onlyXY_bad (x := x) (y := y) k hlt (fun h => h.elim e8 e9))
            have a1 : ((s[k].toNat : Int) != x) = true := by simp [e8]
            have a2 : ((s[k].toNat : Int) != y) = true := by simp [e9]
            clear e8 e9
            go_wp2
            go_ret
            exact ⟨by rw [H.out]; rfl, by (first | ((repeat' with_reducible first | assumption | exact Below.refl _ _ | apply Blw.alloc | apply Blw.drew | apply Blw.drewN | (refine Blw.after ?_ (by assumption)) | (refine Blw.set ?_ (by first | (dsimp only; omega) | (simp; omega)) _)); done) | (repeat' (first | assumption | exact Below.refl _ _ | apply Blw.alloc | apply Blw.drew | apply Blw.drewN | (refine Blw.after ?_ (by assumption)) | (refine Blw.set ?_ (by first | (dsimp only; omega) | (simp; done) | (simp; omega)) _))))⟩
      · have hd := (decode_high s k hlt (by omega)).1
        have H := Lib.hid (onlyXY_bad (x := x) (y := y) k hlt (by omega))
        have a1 : (((Utf8.decode s k).1 : Int) != x) = true := by simp; omega
        have a2 : (((Utf8.decode s k).1 : Int) != y) = true := by simp; omega
        clear hd e0
        go_wp2
        go_ret
        exact ⟨by rw [H.out]; rfl, by (first | ((repeat' with_reducible first | assumption | exact Below.refl _ _ | apply Blw.alloc | apply Blw.drew | apply Blw.drewN | (refine Blw.after ?_ (by assumption)) | (refine Blw.set ?_ (by first | (dsimp only; omega) | (simp; omega)) _)); done) | (repeat' (first | assumption | exact Below.refl _ _ | apply Blw.alloc | apply Blw.drew | apply Blw.drewN | (refine Blw.after ?_ (by assumption)) | (refine Blw.set ?_ (by first | (dsimp only; omega) | (simp; done) | (simp; omega)) _))))⟩
    · have hnx : ∀ ty, (Instr.next (.pointer (some ⟨w.heap.size, 0, none⟩)) true ty).run Tryd.prog (w.iter s k) = _ := fun ty => run_next_end w s k ty hlt
      have H := Lib.hid (onlyXY_good (x := x) (y := y) (by rw [← take_allB s k (by omega)]; exact HB.out))
      go_wp2
      go_ret
      exact ⟨by rw [H.out]; rfl, by (first | ((repeat' with_reducible first | assumption | exact Below.refl _ _ | apply Blw.alloc | apply Blw.drew | apply Blw.drewN | (refine Blw.after ?_ (by assumption)) | (refine Blw.set ?_ (by first | (dsimp only; omega) | (simp; omega)) _)); done) | (repeat' (first | assumption | exact Below.refl _ _ | apply Blw.alloc | apply Blw.drew | apply Blw.drewN | (refine Blw.after ?_ (by assumption)) | (refine Blw.set ?_ (by first | (dsimp only; omega) | (simp; done) | (simp; omega)) _))))⟩
end Go.Proofs.YtmdnfamjdogogaaDoor

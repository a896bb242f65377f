/- Chapter 4: letters, words and words turned back, of both sides. No law is stated here. -/
import Derived.Test.YtmdnfamjdogogaaDoorWm
import Derived.Test.YtmdnfamjdogogaaDoorBy
import Derived.Deep.DeepCutAuto
namespace Go.Proofs.YtmdnfamjdogogaaDoor
set_option linter.unusedSimpArgs false
set_option linter.unusedVariables false
open Go.RowKit

theorem onlyW_XY (s : ByteArray) : onlyXY 108 114 s = onlyW s := by
  unfold onlyXY onlyW
  congr 1
  funext c
  rw [Bool.eq_iff_iff, isXY_iff, wdC_iff]
  omega
theorem letters_c (s : ByteArray) (w : World) : Calls Tryd.prog 67 #[.string s] w fun e w' => e = .returned (.bool (onlyW s)) ∧ Below w.heap.size w w' := by
  have H := Lib.hid (onlyW_XY s)
  go_enter Tryd.func67, Tryd.ntmps67
  go_wp2_with (go_at_call 79; refine (onlyOf_c 108 114 _ _ (by decide) (by decide)).mono ?_; rintro e w1 ⟨rfl, hb⟩; obtain ⟨hc, hf⟩ := bcell hb; have hz := bsize hb; have hs := hb.size; try simp at hs)
  go_ret
  exact ⟨by rw [← H.out]; rfl, by (first | ((repeat' with_reducible first | assumption | exact Below.refl _ _ | apply Blw.alloc | apply Blw.drew | apply Blw.drewN | (refine Blw.after ?_ (by assumption)) | (refine Blw.set ?_ (by first | (dsimp only; omega) | (simp; omega)) _)); done) | (repeat' (first | assumption | exact Below.refl _ _ | apply Blw.alloc | apply Blw.drew | apply Blw.drewN | (refine Blw.after ?_ (by assumption)) | (refine Blw.set ?_ (by first | (dsimp only; omega) | (simp; done) | (simp; omega)) _))))⟩
theorem isWord_c (s : ByteArray) (w : World) : Calls Tryd.prog 54 #[.string s] w fun e w' => e = .returned (.bool (wdB 1023 s)) ∧ Below w.heap.size w w' := by
  by_cases h : s.size ≤ 1023
  · have H := Lib.hid (wdB_of h)
    go_enter Tryd.func54, Tryd.ntmps54
    go_wp2_with (go_at_call 67; refine (letters_c _ _).mono ?_; rintro e w1 ⟨rfl, hb⟩; obtain ⟨hc, hf⟩ := bcell hb; have hz := bsize hb; have hs := hb.size; try simp at hs)
    go_ret
    exact ⟨by rw [H.out]; rfl, by (first | ((repeat' with_reducible first | assumption | exact Below.refl _ _ | apply Blw.alloc | apply Blw.drew | apply Blw.drewN | (refine Blw.after ?_ (by assumption)) | (refine Blw.set ?_ (by first | (dsimp only; omega) | (simp; omega)) _)); done) | (repeat' (first | assumption | exact Below.refl _ _ | apply Blw.alloc | apply Blw.drew | apply Blw.drewN | (refine Blw.after ?_ (by assumption)) | (refine Blw.set ?_ (by first | (dsimp only; omega) | (simp; done) | (simp; omega)) _))))⟩
  · have H := Lib.hid (wdB_long (n := 1023) (s := s) (by omega))
    go_enter Tryd.func54, Tryd.ntmps54
    go_wp2_with (go_at_call 67; refine (letters_c _ _).mono ?_; rintro e w1 ⟨rfl, hb⟩; obtain ⟨hc, hf⟩ := bcell hb; have hz := bsize hb; have hs := hb.size; try simp at hs)
    go_ret
    exact ⟨by rw [H.out]; rfl, by (first | ((repeat' with_reducible first | assumption | exact Below.refl _ _ | apply Blw.alloc | apply Blw.drew | apply Blw.drewN | (refine Blw.after ?_ (by assumption)) | (refine Blw.set ?_ (by first | (dsimp only; omega) | (simp; omega)) _)); done) | (repeat' (first | assumption | exact Below.refl _ _ | apply Blw.alloc | apply Blw.drew | apply Blw.drewN | (refine Blw.after ?_ (by assumption)) | (refine Blw.set ?_ (by first | (dsimp only; omega) | (simp; done) | (simp; omega)) _))))⟩
theorem areCreases_c (s : ByteArray) (w : World) : Calls Tryd.prog 51 #[.string s] w fun e w' => e = .returned (.bool (wdB 10 s)) ∧ Below w.heap.size w w' := by
  by_cases h : s.size ≤ 10
  · have H := Lib.hid (wdB_of h)
    go_enter Tryd.func51, Tryd.ntmps51
    go_wp2_with (go_at_call 67; refine (letters_c _ _).mono ?_; rintro e w1 ⟨rfl, hb⟩; obtain ⟨hc, hf⟩ := bcell hb; have hz := bsize hb; have hs := hb.size; try simp at hs)
    go_ret
    exact ⟨by rw [H.out]; rfl, by (first | ((repeat' with_reducible first | assumption | exact Below.refl _ _ | apply Blw.alloc | apply Blw.drew | apply Blw.drewN | (refine Blw.after ?_ (by assumption)) | (refine Blw.set ?_ (by first | (dsimp only; omega) | (simp; omega)) _)); done) | (repeat' (first | assumption | exact Below.refl _ _ | apply Blw.alloc | apply Blw.drew | apply Blw.drewN | (refine Blw.after ?_ (by assumption)) | (refine Blw.set ?_ (by first | (dsimp only; omega) | (simp; done) | (simp; omega)) _))))⟩
  · have H := Lib.hid (wdB_long (n := 10) (s := s) (by omega))
    go_enter Tryd.func51, Tryd.ntmps51
    go_wp2_with (go_at_call 67; refine (letters_c _ _).mono ?_; rintro e w1 ⟨rfl, hb⟩; obtain ⟨hc, hf⟩ := bcell hb; have hz := bsize hb; have hs := hb.size; try simp at hs)
    go_ret
    exact ⟨by rw [H.out]; rfl, by (first | ((repeat' with_reducible first | assumption | exact Below.refl _ _ | apply Blw.alloc | apply Blw.drew | apply Blw.drewN | (refine Blw.after ?_ (by assumption)) | (refine Blw.set ?_ (by first | (dsimp only; omega) | (simp; omega)) _)); done) | (repeat' (first | assumption | exact Below.refl _ _ | apply Blw.alloc | apply Blw.drew | apply Blw.drewN | (refine Blw.after ?_ (by assumption)) | (refine Blw.set ?_ (by first | (dsimp only; omega) | (simp; done) | (simp; omega)) _))))⟩

def WdRel (s : ByteArray) (w : World) (m : Nat) (i : Value) (wr : World) : Prop := ∃ k : Nat, k + m = s.size ∧ i = .int .i64 k ∧ wr = w ∧ ∀ c ∈ (toL s).take k, wdC c = true
theorem WdRel.step {s : ByteArray} {k : Nat} (hk : k < s.size) (h : ∀ c ∈ (toL s).take k, wdC c = true) (hc : s[k].toNat = 108 ∨ s[k].toNat = 114) : ∀ c ∈ (toL s).take (k + 1), wdC c = true := by
  rw [take_snocB s k hk]
  intro c hm
  rcases List.mem_append.1 hm with hm | hm
  · exact h c hm
  · rw [List.mem_singleton] at hm; rw [hm]; exact (wdC_iff _).2 hc
set_option maxHeartbeats 1000000 in
theorem l4Word_c (s : ByteArray) (n : Nat) (w : World) (hn : n ≤ 100000) : Calls Tryd.prog 27 #[.string s, .int .i64 n] w fun e w' => e = .returned (.bool (wdB n s)) ∧ w = w' := by
  by_cases h : n < s.size
  · have H := Lib.hid (wdB_long h)
    go_enter Tryd.func27, Tryd.ntmps27
    go_wp2
    go_ret
    exact ⟨by rw [H.out]; rfl, rfl⟩
  · have HG := Lib.hid (show onlyW s = wdB n s from (wdB_of (by omega)).symm)
    go_enter Tryd.func27, Tryd.ntmps27
    go_wp2
    go_loopg [5] s.size (fun m i wr => WdRel s w m i wr)
    case atStart => exact ⟨0, by omega, rfl, rfl, by simp⟩
    case round =>
      obtain ⟨k, hk, rfl, rfl, hb⟩ := hrel
      have HB := Lib.hid hb
      clear hb
      by_cases hlt : k < s.size
      · by_cases e8 : s[k].toNat = 108
        · have HS := Lib.hid (WdRel.step hlt HB.out (Or.inl e8))
          have a1 : ((s[k].toNat : Int) != 108) = false := by simp [e8]
          clear e8
          go_wp2
          go_roundg (gk - 1)
          case measure => omega
          case rel => exact ⟨k + 1, by omega, by go_num, rfl, HS.out⟩
        · by_cases e9 : s[k].toNat = 114
          · have HS := Lib.hid (WdRel.step hlt HB.out (Or.inr e9))
            have a1 : ((s[k].toNat : Int) != 108) = true := by simp [e9]
            have a2 : ((s[k].toNat : Int) != 114) = false := by simp [e9]
            clear e8 e9
            go_wp2
            go_roundg (gk - 1)
            case measure => omega
            case rel => exact ⟨k + 1, by omega, by go_num, rfl, HS.out⟩
          · have H := Lib.hid (HG.out.symm.trans (onlyW_bad k hlt (by omega)))
            have a1 : ((s[k].toNat : Int) != 108) = true := by simp; omega
            have a2 : ((s[k].toNat : Int) != 114) = true := by simp; omega
            clear e8 e9
            go_wp2
            go_ret
            exact ⟨by rw [H.out]; rfl, rfl⟩
      · have H := Lib.hid (HG.out.symm.trans (onlyW_good (by rw [← take_allB s k (by omega)]; exact HB.out)))
        go_wp2
        go_ret
        exact ⟨by rw [H.out]; rfl, rfl⟩

/-! ### letters -/
theorem oth_108 : oth 108 = 114 := rfl
theorem oth_else {c : UInt8} (h : c.toNat ≠ 108) : oth c = 108 := by
  unfold oth; rw [if_neg (fun e => h (by rw [e]; rfl))]
theorem other_c (c : UInt8) (w : World) : Calls Tryd.prog 80 #[.int .u8 (c.toNat : Int)] w fun e w' => e = .returned (.int .u8 ((oth c).toNat : Int)) ∧ w = w' := by
  by_cases h : c.toNat = 108
  · obtain rfl : c = 108 := UInt8.toNat_inj.1 (by rw [h]; rfl)
    go_enter Tryd.func80, Tryd.ntmps80
    go_wp2
    go_ret
    exact ⟨rfl, rfl⟩
  · have H := Lib.hid (oth_else h)
    have a1 : ((c.toNat : Int) == 108) = false := by simp; omega
    clear h
    go_enter Tryd.func80, Tryd.ntmps80
    go_wp2
    go_ret
    exact ⟨by rw [H.out]; rfl, rfl⟩
theorem sOther_c (t : ByteArray) (c : UInt8) (w : World) (ht : toL t = [c]) : Calls Tryd.prog 71 #[.string t] w fun e w' => e = .returned (.string (bs [oth c])) ∧ w = w' := by
  by_cases h : c.toNat = 108
  · obtain rfl : c = 108 := UInt8.toNat_inj.1 (by rw [h]; rfl)
    have a1 : (t.toList == [108]) = true := by rw [toList_toL, ht]; rfl
    clear ht h
    go_enter Tryd.func71, Tryd.ntmps71
    go_wp2
    go_ret
    exact ⟨rfl, rfl⟩
  · have H := Lib.hid (oth_else h)
    have a1 : (t.toList == [108]) = false := by
      rw [toList_toL, ht]; simp; intro e; apply h; rw [e]; rfl
    clear ht h
    go_enter Tryd.func71, Tryd.ntmps71
    go_wp2
    go_ret
    exact ⟨by rw [H.out]; rfl, rfl⟩
theorem toL_extract (s : ByteArray) (i j : Nat) : toL (s.extract i j) = ((toL s).take j).drop i := by
  rw [← bs_toL s]
  generalize toL s = l
  show toL ((ByteArray.mk l.toArray).extract i j) = _
  rw [ByteArray.extract_mk]
  simp [toL, bs, List.drop_take]
theorem extract_one (s : ByteArray) (k : Nat) (h : k < s.size) : toL (s.extract k (k + 1)) = [s[k]] := by
  rw [toL_extract, take_snocB s k h, List.drop_append_of_le_length (by rw [List.length_take, toL_len]; omega), List.drop_of_length_le (by rw [List.length_take]; omega)]
  rfl

/-! ### turned back -/
theorem backL_at (s : ByteArray) (k : Nat) (h : k < s.size) : (backL (toL s))[k]? = some (oth (s[s.size - 1 - k])) := by
  rw [backL_get _ _ (by rw [toL_len]; exact h), toL_len, toL_get s (s.size - 1 - k) (by omega)]; rfl
theorem backL_take {s : ByteArray} {k : Nat} (h : k < s.size) : (backL (toL s)).take (k + 1) = (backL (toL s)).take k ++ [oth (s[s.size - 1 - k])] := by
  rw [List.take_add_one, backL_at s k h]; rfl
def SBkRel (s : ByteArray) (w : World) (m : Nat) (v i : Value) (wr : World) : Prop :=
  ∃ k : Nat, k + m = s.size ∧ i = .int .i64 ((m : Int) - 1) ∧ wr.ownsRow w.heap.size 5 1 v k (((backL (toL s)).take k).map encB) ∧ Below w.heap.size w wr
set_option maxRecDepth 100000 in
set_option maxHeartbeats 4000000 in
theorem sBack_c (s : ByteArray) (w : World) (hs : s.size ≤ 1000000) : Calls Tryd.prog 57 #[.string s] w fun e w' => e = .returned (.string (bs (backL (toL s)))) ∧ Below w.heap.size w w' := by
  obtain ⟨i0, hi, hz0, hz1, hz2⟩ := info_parts infoB
  go_enter Tryd.func57, Tryd.ntmps57
  go_wp2_with fail
  have S0 := Lib.hid (show SBkRel s w s.size (.slice (some ⟨w.heap.size, 0, none⟩) 0 0) (.int .i64 ((s.size : Int) - 1)) (w.alloc (.cells #[] 5)) from
    ⟨0, by omega, rfl, by
      have h := World.ownsRow_lit (base := w.heap.size) (e := 5) (size := 1) w #[] 0 (Nat.le_refl _) (by unfold maxLen; omega) rfl
      exact h, by (first | ((repeat' with_reducible first | assumption | exact Below.refl _ _ | apply Blw.alloc | apply Blw.drew | apply Blw.drewN | (refine Blw.after ?_ (by assumption)) | (refine Blw.set ?_ (by first | (dsimp only; omega) | (simp; omega)) _)); done) | (repeat' (first | assumption | exact Below.refl _ _ | apply Blw.alloc | apply Blw.drew | apply Blw.drewN | (refine Blw.after ?_ (by assumption)) | (refine Blw.set ?_ (by first | (dsimp only; omega) | (simp; done) | (simp; omega)) _))))⟩)
  go_loopg [3, 4] s.size (fun m v i wr => SBkRel s w m v i wr)
  case atStart => exact S0.out
  case round =>
    clear S0
    obtain ⟨k, hk, rfl, hown, hB⟩ := hrel
    have HO := Lib.hid hown
    clear hown
    by_cases h0 : gk = 0
    · subst h0
      have HS := Lib.hid (show (backL (toL s)).take k = backL (toL s) from List.take_of_length_le (by rw [backL_len, toL_len]; omega))
      have hcv := conv_row HO.out
      rw [HS.out] at hcv
      go_wp2_with fail
      go_ret
      exact ⟨rfl, hB⟩
    · obtain ⟨m, rfl⟩ : ∃ m, gk = m + 1 := ⟨gk - 1, by omega⟩
      have e1 : ((m + 1 : Nat) : Int) - 1 = (m : Int) := by omega
      rw [e1]
      have hm : m < s.size := by omega
      have HE := Lib.hid (extract_one s m hm)
      have HT := Lib.hid (show (backL (toL s)).take (k + 1) = (backL (toL s)).take k ++ [oth s[m]] by
        have h := backL_take (s := s) (k := k) (by omega)
        rw [h]
        congr 3
        have : s.size - 1 - k = m := by omega
        simp [this])
      have hsz : (bs [oth s[m]]).size = 1 := rfl
      clear e1 h0
      go_wp2_with (first | (go_at_call 71; refine (sOther_c _ _ _ HE.out).mono ?_; rintro e w1 ⟨rfl, rfl⟩) | (at_builtin; refine wpList_append_own _ rfl _ _ 25 rfl w.heap.size 5 i0 (.int .u8 0) 1 1 Tryd.underlying25 hi hz0 hz1 hz2 rfl (by decide) _ _ _ rfl (HO.out.alloc _) ⟨wr.heap.size, 0, none⟩ 1 1 [encB (oth s[m])] rfl rfl (cells1 _ _ _) (one1 _ rfl) (by unfold maxLen; omega) (by omega) (by have := hB.size; simp; omega) ?_))
      intro v' W1 hown' hgrow _
      have hB1 : Below w.heap.size w W1 := Below.grown (by (first | ((repeat' with_reducible first | assumption | exact Below.refl _ _ | apply Blw.alloc | apply Blw.drew | apply Blw.drewN | (refine Blw.after ?_ (by assumption)) | (refine Blw.set ?_ (by first | (dsimp only; omega) | (simp; omega)) _)); done) | (repeat' (first | assumption | exact Below.refl _ _ | apply Blw.alloc | apply Blw.drew | apply Blw.drewN | (refine Blw.after ?_ (by assumption)) | (refine Blw.set ?_ (by first | (dsimp only; omega) | (simp; done) | (simp; omega)) _))))) hgrow (by have := hB.size; simp; omega) (fun k hk => (HO.out.lt k hk).1)
      have HO1 := Lib.hid hown'
      clear hgrow hown' HO
      go_wp2_with fail
      go_roundg m
      case measure => omega
      case rel => exact ⟨k + 1, by omega, by go_num, by rw [HT.out, List.map_append, List.map_take]; exact HO1.out, hB1⟩

/-- what stands of a word turned back when so many letters have been read -/
def bkL (s : ByteArray) (k : Nat) : List UInt8 := List.replicate (s.size - k) 0 ++ backL ((toL s).take k)
theorem bkL_zero (s : ByteArray) : bkL s 0 = List.replicate s.size 0 := by simp [bkL, backL]
theorem bkL_all (s : ByteArray) : bkL s s.size = backL (toL s) := by
  unfold bkL; rw [take_allB s s.size (Nat.le_refl _)]; simp
theorem bkL_step {s : ByteArray} {k : Nat} (h : k < s.size) : (bkL s k).set (s.size - 1 - k) (oth s[k]) = bkL s (k + 1) := by
  unfold bkL
  rw [take_snocB s k h, backL_snoc]
  obtain ⟨m, hm⟩ : ∃ m, s.size - k = m + 1 := ⟨s.size - k - 1, by omega⟩
  rw [hm, show s.size - 1 - k = m by omega, show s.size - (k + 1) = m by omega, List.replicate_succ', List.append_assoc, List.set_append_right _ _ (by simp)]
  simp
def IBkRel (s : ByteArray) (w : World) (ib : Nat) (m : Nat) (wr : World) : Prop :=
  ∃ k : Nat, k + m = s.size ∧ wr.heap[ib]? = some (.stringIter s k) ∧ wr.ownsRow w.heap.size 5 1 (.slice (some ⟨w.heap.size, 0, none⟩) s.size s.size) s.size ((bkL s k).map encB) ∧ Below w.heap.size w wr
end Go.Proofs.YtmdnfamjdogogaaDoor

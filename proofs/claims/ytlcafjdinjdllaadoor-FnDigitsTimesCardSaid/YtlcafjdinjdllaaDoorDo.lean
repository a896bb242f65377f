/- Chapter 2: products, of both sides: the walks. -/
import Derived.Test.YtlcafjdinjdllaaDoorDn
namespace Go.Proofs.YtlcafjdinjdllaaDoor
set_option linter.unusedSimpArgs false
set_option linter.unusedVariables false
open Go.RowKit

def ITRel (a b : ByteArray) (w : World) (ib : Nat) (m : Nat) (tot : Value) (wr : World) : Prop :=
  ∃ (i : Nat) (t : ByteArray), i + m = b.size ∧ tot = .string t ∧ tmO a b i = some t ∧ wr.heap[ib]? = some (.stringIter b i) ∧ Below w.heap.size w wr
set_option maxRecDepth 100000 in
set_option maxHeartbeats 4000000 in
theorem iDigitsTimes_c (a b : ByteArray) (w : World) (hT : Tab w) : Calls Tryd.prog 15 #[.string a, .string b] w fun e w' => e = .returned (timesV a b) ∧ Below w.heap.size w w' := by
  have HT := Lib.hid hT
  have hpos := hT.1
  clear hT
  rcases Bool.eq_false_or_eq_true (vldB a) with ha | ha
  · rcases Bool.eq_false_or_eq_true (vldB b) with hvb | hvb
    · have HA := Lib.hid ha
      have HB := Lib.hid hvb
      have ha50 := (vldB_len ha).2
      have hb50 := (vldB_len hvb).2
      have HS := Lib.hid (fun t => timesV_some (t := t) ha hvb)
      have HN := Lib.hid (timesV_none ha hvb)
      go_enter Tryd.func15, Tryd.ntmps15
      go_wp2_with (first | (go_at_call 12; refine (iDigitsValid_c _ _).mono ?_; rintro e w1 ⟨rfl, hb⟩; obtain ⟨hc, hf⟩ := bcell hb; have hz := bsize hb; have hs := hb.size; try simp at hs))
      have hB1 := Lib.hid (show Below w.heap.size w w1 by (repeat' (first | assumption | exact Below.refl _ _ | apply Blw.alloc | apply Blw.drew | apply Blw.drewN | (refine Blw.after ?_ (by assumption)) | (refine Blw.set ?_ (by first | (dsimp only; omega) | (simp; done) | (simp; omega)) _))))
      have hs1 := hB1.out.size
      have S0 := Lib.hid (show ITRel a b w w1.heap.size b.size (.string ⟨#[48]⟩) (w1.iter b 0) from ⟨0, ⟨#[48]⟩, by omega, rfl, rfl, World.iter_heap w1 b 0, hB1.out.trans ((iter_below w1 b 0).mono hs1)⟩)
      clear ha hvb hb hc hf hz hs
      go_loopg [6] b.size (fun m tot wr => ITRel a b w w1.heap.size m tot wr)
      case atStart => exact S0.out
      case round =>
        clear S0
        obtain ⟨i, t, hi, rfl, htm, hit, hB⟩ := hrel
        have HM := Lib.hid htm
        clear htm
        by_cases hlt : i < b.size
        · have hnx : ∀ ty, (Instr.next (.pointer (some ⟨w1.heap.size, 0, none⟩)) true ty).run Tryd.prog wr = _ := fun ty => Lib.run_next_any_at wr w1.heap.size b i ty hit hlt
          rw [decode_vld HB.out i hlt] at hnx
          have hit2 := Lib.iterAt_heap wr w1.heap.size b i (i + 1) hit
          have hB2 := Lib.below_iterAt hB (k := w1.heap.size) hs1 b (i + 1)
          generalize wr.iterAt w1.heap.size b (i + 1) = W2 at *
          have HI := Lib.hid hit2
          have L2 := iter_lt hit2
          clear hit hit2 hB
          by_cases e8 : b[i].toNat = 48
          · have a1 : ((b[i].toNat : Int) == 48) = true := by simp [e8]
            have HZ := Lib.hid (tm_zero HM.out hlt e8)
            clear e8
            go_wp2
            go_roundg (gk - 1)
            case measure => omega
            case rel => exact ⟨i + 1, t, by omega, rfl, HZ.out, HI.out, hB2⟩
          · have a1 : ((b[i].toNat : Int) == 48) = false := by simp; omega
            have e1 : ((b.size : Int) - 1 - (i : Int)) = ((b.size - 1 - i : Nat) : Int) := by omega
            have HO := Lib.hid (tm_one HM.out hlt e8)
            have HF := Lib.hid (tm_fail HM.out hlt e8)
            clear e8
            go_wp2_with (first | (go_at_call 42; fail))
            refine (shifted_c a (b.size - 1 - i) W2 ha50 (by omega)).mono ?_
            rintro e w3 ⟨rfl, hb3⟩
            have HI3 := Lib.hid (iter_of_below hb3 HI.out)
            have hB3 := Lib.hid (hB2.trans (hb3.mono hB2.size))
            have HT3 := Lib.hid (HT.out.keep hpos hB3.out)
            generalize shiftB a (b.size - 1 - i) = sh at *
            clear hb3 e1
            go_wp2_with fail
            refine (iDigitsAdd_c t sh w3 HT3.out).mono ?_
            rintro e w4 ⟨rfl, hb4⟩
            rw [addV_eq]
            have HI4 := Lib.hid (iter_of_below hb4 HI3.out)
            have hB4 := Lib.hid (hB3.out.trans (hb4.mono hB3.out.size))
            clear hb4
            rcases Bool.eq_false_or_eq_true (addOk t sh) with hok | hok
            · have HOK := Lib.hid (HO.out hok)
              generalize addS t sh = t' at *
              go_wp2
              go_roundg (gk - 1)
              case measure => omega
              case rel => exact ⟨i + 1, t', by omega, rfl, HOK.out, HI4.out, hB4.out⟩
            · have HFF := Lib.hid (HN.out (HF.out hok))
              go_wp2
              go_ret2
              exact ⟨by rw [HFF.out]; rfl, hB4.out⟩
        · have hnx : ∀ ty, (Instr.next (.pointer (some ⟨w1.heap.size, 0, none⟩)) true ty).run Tryd.prog wr = _ := fun ty => Lib.run_next_end_at wr w1.heap.size b i ty hit hlt
          obtain rfl : i = b.size := by omega
          have HR := Lib.hid (HS.out t HM.out)
          go_wp2
          go_ret2
          exact ⟨by rw [HR.out]; rfl, hB⟩
    · have H := Lib.hid (timesV_no (a := a) (b := b) (Or.inr hvb))
      go_enter Tryd.func15, Tryd.ntmps15
      go_wp2_with (first | (go_at_call 12; refine (iDigitsValid_c _ _).mono ?_; rintro e w1 ⟨rfl, hb⟩; obtain ⟨hc, hf⟩ := bcell hb; have hz := bsize hb; have hs := hb.size; try simp at hs))
      go_ret2
      exact ⟨by rw [H.out]; rfl, by (repeat' (first | assumption | exact Below.refl _ _ | apply Blw.alloc | apply Blw.drew | apply Blw.drewN | (refine Blw.after ?_ (by assumption)) | (refine Blw.set ?_ (by first | (dsimp only; omega) | (simp; done) | (simp; omega)) _)))⟩
  · have H := Lib.hid (timesV_no (a := a) (b := b) (Or.inl ha))
    go_enter Tryd.func15, Tryd.ntmps15
    go_wp2_with (first | (go_at_call 12; refine (iDigitsValid_c _ _).mono ?_; rintro e w1 ⟨rfl, hb⟩; obtain ⟨hc, hf⟩ := bcell hb; have hz := bsize hb; have hs := hb.size; try simp at hs))
    go_ret2
    exact ⟨by rw [H.out]; rfl, by (repeat' (first | assumption | exact Below.refl _ _ | apply Blw.alloc | apply Blw.drew | apply Blw.drewN | (refine Blw.after ?_ (by assumption)) | (refine Blw.set ?_ (by first | (dsimp only; omega) | (simp; done) | (simp; omega)) _)))⟩

/-! ### the model's side -/
def STRel (a b : ByteArray) (w : World) (m : Nat) (tot iv : Value) (wr : World) : Prop :=
  ∃ (i : Nat) (t : ByteArray), i + m = b.size ∧ iv = .int .i64 i ∧ tot = .string t ∧ tmO a b i = some t ∧ Below w.heap.size w wr
def SHRel (a b : ByteArray) (i : Nat) (wo : World) (m : Nat) (sh kv : Value) (wr : World) : Prop :=
  ∃ k : Nat, k + m = b.size ∧ i + 1 ≤ k ∧ kv = .int .i64 k ∧ wr = wo ∧ sh = .string (bs (toL a ++ List.replicate (k - (i + 1)) 48))
theorem bs_size (l : List UInt8) : (bs l).size = l.length := by rw [← toL_len, toL_bs]
theorem bs_app (l m : List UInt8) : bs l ++ bs m = bs (l ++ m) := toL_ext (by rw [toL_bs]; simp [toL, bs, ByteArray.data_append])
set_option maxRecDepth 100000 in
set_option maxHeartbeats 4000000 in
theorem sDigitsTimes_c (a b : ByteArray) (w : World) : Calls Tryd.prog 32 #[.string a, .string b] w fun e w' => e = .returned (timesV a b) ∧ Below w.heap.size w w' := by
  rcases Bool.eq_false_or_eq_true (vldB a) with ha | ha
  · rcases Bool.eq_false_or_eq_true (vldB b) with hvb | hvb
    · have HA := Lib.hid ha
      have HB := Lib.hid hvb
      have ha50 := (vldB_len ha).2
      have hb50 := (vldB_len hvb).2
      have HS := Lib.hid (fun t => timesV_some (t := t) ha hvb)
      have HN := Lib.hid (timesV_none ha hvb)
      go_enter Tryd.func32, Tryd.ntmps32
      go_wp2_with (first | (go_at_call 13; refine (sDigitsValid_c _ _).mono ?_; rintro e w1 ⟨rfl, rfl⟩))
      have S0 := Lib.hid (show STRel a b w b.size (.string ⟨#[48]⟩) (.int .i64 0) w from ⟨0, ⟨#[48]⟩, by omega, rfl, rfl, rfl, Below.refl _ _⟩)
      clear ha hvb
      go_loopg [6, 7] b.size (fun m tot iv wr => STRel a b w m tot iv wr)
      case atStart => exact S0.out
      case round =>
        clear S0
        obtain ⟨i, t, hi, rfl, rfl, htm, hB⟩ := hrel
        have HM := Lib.hid htm
        clear htm
        by_cases hlt : i < b.size
        · by_cases e8 : b[i].toNat = 48
          · have a1 : ((b[i].toNat : Int) == 48) = true := by simp [e8]
            have HZ := Lib.hid (tm_zero HM.out hlt e8)
            clear e8
            go_wp2
            go_roundg (gk - 1)
            case measure => omega
            case rel => exact ⟨i + 1, t, by omega, by go_num, rfl, HZ.out, hB⟩
          · have a1 : ((b[i].toNat : Int) == 48) = false := by simp; omega
            have HO := Lib.hid (tm_one HM.out hlt e8)
            have HF := Lib.hid (tm_fail HM.out hlt e8)
            clear e8
            obtain ⟨wo, rfl⟩ : ∃ wo : World, wo = wr := ⟨_, rfl⟩
            obtain ⟨go, rfl⟩ : ∃ go : Nat, go = gk := ⟨_, rfl⟩
            by_cases h0 : toL a = [48]
            · have q1 : (a.toList == [48]) = true := by rw [toList_toL, h0]; rfl
              have HSH := Lib.hid (show shiftB a (b.size - 1 - i) = a by unfold shiftB; rw [if_pos h0])
              clear h0
              go_wp2_with fail
              go_loopg [8, 9] 1 (fun m sh kv wr => m = 1 ∧ sh = .string a ∧ kv = .int .i64 (i + 1 : Nat) ∧ wr = wo)
              case atStart => exact ⟨rfl, rfl, by go_num, rfl⟩
              case round =>
                obtain ⟨-, rfl, rfl, rfl⟩ := hrel
                by_cases hk1 : i + 1 < b.size
                all_goals
                  go_wp2_with fail
                  refine (sDigitsAdd_c t a wr).mono ?_
                  rintro e w4 ⟨rfl, hb4⟩
                  rw [addV_eq]
                  have hB4 := Lib.hid (hB.trans (hb4.mono hB.size))
                  rw [HSH.out] at HO HF
                  clear hb4
                  rcases Bool.eq_false_or_eq_true (addOk t a) with hok | hok
                  · have HOK := Lib.hid (HO.out hok)
                    generalize addS t a = t' at *
                    go_wp2
                    go_roundg (go - 1)
                    case measure => omega
                    case rel => exact ⟨i + 1, t', by omega, by go_num, rfl, HOK.out, hB4.out⟩
                  · have HFF := Lib.hid (HN.out (HF.out hok))
                    go_wp2
                    go_ret2
                    exact ⟨by rw [HFF.out]; rfl, hB4.out⟩
            · have q1 : (a.toList == [48]) = false := by rw [toList_toL]; simpa using h0
              have HSH := Lib.hid (show shiftB a (b.size - 1 - i) = bs (toL a ++ List.replicate (b.size - 1 - i) 48) by unfold shiftB; rw [if_neg h0])
              have ST := Lib.hid (show SHRel a b i wo (b.size - (i + 1)) (.string a) (.int .i64 (i + 1 : Nat)) wo from ⟨i + 1, by omega, by omega, rfl, rfl, by rw [Nat.sub_self, List.replicate_zero, List.append_nil, bs_toL]⟩)
              clear h0
              go_wp2_with fail
              go_loopg [8, 9] (b.size - (i + 1)) (fun m sh kv wr => SHRel a b i wo m sh kv wr)
              case atStart => exact ST.out
              case round =>
                clear ST
                obtain ⟨k, hk, hik, rfl, rfl, rfl⟩ := hrel
                by_cases hkb : k < b.size
                · have hsz : (bs (toL a ++ List.replicate (k - (i + 1)) 48)).size ≤ 200 := by
                    rw [bs_size, List.length_append, List.length_replicate, toL_len]; omega
                  have HQ := Lib.hid (show bs (toL a ++ List.replicate (k - (i + 1)) 48) ++ ⟨#[48]⟩ = bs (toL a ++ List.replicate (k + 1 - (i + 1)) 48) by
                    rw [show (⟨#[48]⟩ : ByteArray) = bs [48] from rfl, bs_app, List.append_assoc, ← List.replicate_succ' (n := k - (i + 1)), show k - (i + 1) + 1 = k + 1 - (i + 1) by omega])
                  generalize bs (toL a ++ List.replicate (k - (i + 1)) 48) = T at *
                  go_wp2
                  go_roundg (gk - 1)
                  case measure => omega
                  case rel => exact ⟨k + 1, by omega, by omega, by go_num, rfl, by rw [← HQ.out]⟩
                · obtain rfl : k = b.size := by omega
                  have HT := Lib.hid (show bs (toL a ++ List.replicate (b.size - (i + 1)) 48) = shiftB a (b.size - 1 - i) by rw [HSH.out, show b.size - (i + 1) = b.size - 1 - i by omega])
                  rw [HT.out]
                  generalize shiftB a (b.size - 1 - i) = sh at *
                  clear HSH HT
                  go_wp2_with fail
                  refine (sDigitsAdd_c t sh wr).mono ?_
                  rintro e w4 ⟨rfl, hb4⟩
                  rw [addV_eq]
                  have hB4 := Lib.hid (hB.trans (hb4.mono hB.size))
                  clear hb4
                  rcases Bool.eq_false_or_eq_true (addOk t sh) with hok | hok
                  · have HOK := Lib.hid (HO.out hok)
                    generalize addS t sh = t' at *
                    go_wp2
                    go_roundg (go - 1)
                    case measure => omega
                    case rel => exact ⟨i + 1, t', by omega, by go_num, rfl, HOK.out, hB4.out⟩
                  · have HFF := Lib.hid (HN.out (HF.out hok))
                    go_wp2
                    go_ret2
                    exact ⟨by rw [HFF.out]; rfl, hB4.out⟩
        · obtain rfl : i = b.size := by omega
          have HR := Lib.hid (HS.out t HM.out)
          go_wp2
          go_ret2
          exact ⟨by rw [HR.out]; rfl, hB⟩
    · have H := Lib.hid (timesV_no (a := a) (b := b) (Or.inr hvb))
      go_enter Tryd.func32, Tryd.ntmps32
      go_wp2_with (first | (go_at_call 13; refine (sDigitsValid_c _ _).mono ?_; rintro e w1 ⟨rfl, rfl⟩))
      go_ret2
      exact ⟨by rw [H.out]; rfl, by (repeat' (first | assumption | exact Below.refl _ _ | apply Blw.alloc | apply Blw.drew | apply Blw.drewN | (refine Blw.after ?_ (by assumption)) | (refine Blw.set ?_ (by first | (dsimp only; omega) | (simp; done) | (simp; omega)) _)))⟩
  · have H := Lib.hid (timesV_no (a := a) (b := b) (Or.inl ha))
    go_enter Tryd.func32, Tryd.ntmps32
    go_wp2_with (first | (go_at_call 13; refine (sDigitsValid_c _ _).mono ?_; rintro e w1 ⟨rfl, rfl⟩))
    go_ret2
    exact ⟨by rw [H.out]; rfl, by (repeat' (first | assumption | exact Below.refl _ _ | apply Blw.alloc | apply Blw.drew | apply Blw.drewN | (refine Blw.after ?_ (by assumption)) | (refine Blw.set ?_ (by first | (dsimp only; omega) | (simp; done) | (simp; omega)) _)))⟩
end Go.Proofs.YtlcafjdinjdllaaDoor

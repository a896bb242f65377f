/- Chapter 3: texts cut at the point, of both sides. -/
import Derived.Test.YtlcafjdinjdllabCut
import Derived.Laws.Externs
import Derived.Lib.Walk
import Derived.Lib.Slices
import Derived.Deep.QuietTactic
import Derived.Deep.Cut
namespace Go.Proofs.Ytlcafjdinjdllab
set_option linter.unusedSimpArgs false
set_option linter.unusedVariables false
open Go.RowKit

def AtRel (s : ByteArray) (w : World) (m : Nat) (v : Value) (wr : World) : Prop := ∃ k : Nat, k + m = s.size ∧ k ≤ atP s ∧ wr = w ∧ v = .int .i64 k
theorem cutS_none {s : ByteArray} (h : ¬ atP s < s.size) : cutS s = .tuple #[.string ⟨#[]⟩, .string ⟨#[]⟩, .bool false] := by
  have h1 : dotB s = false := by simp [dotB, h]
  unfold cutS cutB pickS; rw [h1]; rfl
theorem cutS_bad {s : ByteArray} (h : onlyB (tlS s) = false) : cutS s = .tuple #[.string ⟨#[]⟩, .string ⟨#[]⟩, .bool false] := by
  have h1 : dotB s = false := by simp [dotB, h]
  unfold cutS cutB pickS; rw [h1]; rfl
theorem cutS_good {s : ByteArray} (h0 : atP s < s.size) (h : onlyB (tlS s) = true) : cutS s = .tuple #[.string (hdS s), .string (tlS s), .bool (vldB (hdS s) && decide ((tlS s).size ≤ 320))] := by
  have h1 : dotB s = true := by simp [dotB, h, h0]
  unfold cutS cutB pickS; rw [h1]; rfl
set_option maxHeartbeats 2000000 in
theorem l3Cut_c (s : ByteArray) (w : World) (hsz : s.size ≤ 2000000) : Calls Try.prog 38 #[.string s] w fun e w' => e = .returned (cutS s) ∧ Below w.heap.size w w' := by
  go_enter Try.func38, Try.ntmps38
  go_wp2
  go_loopg [5] s.size (fun m v wr => AtRel s w m v wr)
  case atStart => exact ⟨0, by omega, by omega, rfl, rfl⟩
  case round =>
    obtain ⟨k, hk, ha, rfl, rfl⟩ := hrel
    by_cases hlt : k < s.size
    · by_cases e46 : s[k].toNat = 46
      · have HA := atP_at ha hlt e46
        have a1 : ((s[k].toNat : Int) != 46) = false := by simp [e46]
        have HL := Lib.hid (show atP s < s.size by omega)
        have HT := Lib.hid (show tlS s = s.extract (k + 1) s.size by unfold tlS; rw [HA])
        have HH := Lib.hid (show hdS s = s.extract 0 k by unfold hdS; rw [HA])
        have hts := tlS_size s
        rw [HA, HT.out] at hts
        clear e46 HA
        have hs1 : s.size - (k + 1) ≤ 2000000 := by omega
        have hk1 : k + 1 ≤ s.size := by omega
        have hkk : k ≤ s.size := by omega
        go_wp2
        generalize hT : s.extract (k + 1) s.size = T at *
        clear hT
        go_loopg [7] T.size (fun m v wx => VRel T wr m v wx)
        case atStart => exact ⟨0, by omega, rfl, rfl, by simp⟩
        case round =>
          obtain ⟨j, hj, rfl, rfl, hb⟩ := hrel
          have HB := Lib.hid hb
          clear hb
          by_cases hlj : j < T.size
          · by_cases e8 : T[j].toNat = 48
            · have HS := Lib.hid (VRel.step hlj HB.out (Or.inl e8))
              have a1 : ((T[j].toNat : Int) != 48) = false := by simp [e8]
              clear e8
              go_wp2
              go_roundg (gk - 1)
              case measure => omega
              case rel => exact ⟨j + 1, by omega, by go_num, rfl, HS.out⟩
            · by_cases e9 : T[j].toNat = 49
              · have HS := Lib.hid (VRel.step hlj HB.out (Or.inr e9))
                have a1 : ((T[j].toNat : Int) != 48) = true := by simp [e9]
                have a2 : ((T[j].toNat : Int) != 49) = false := by simp [e9]
                clear e8 e9
                go_wp2
                go_roundg (gk - 1)
                case measure => omega
                case rel => exact ⟨j + 1, by omega, by go_num, rfl, HS.out⟩
              · have HN := Lib.hid (cutS_bad (s := s) (by rw [HT.out]; exact onlyB_bad j hlj (by omega)))
                have a1 : ((T[j].toNat : Int) != 48) = true := by simp; omega
                have a2 : ((T[j].toNat : Int) != 49) = true := by simp; omega
                clear e8 e9
                go_wp2
                go_ret3
                exact ⟨by rw [HN.out]; rfl, by (repeat' (first | assumption | exact Below.refl _ _ | apply Blw.alloc | apply Blw.drew | apply Blw.drewN | (refine Blw.after ?_ (by assumption)) | (refine Blw.set ?_ (by first | (dsimp only; omega) | (simp; done) | (simp; omega)) _)))⟩
          · have HO := onlyB_good (s := T) (by rw [← take_allB T j (by omega)]; exact HB.out)
            have HG := Lib.hid (cutS_good HL.out (by rw [HT.out]; exact HO))
            rw [HT.out, HH.out] at HG
            have h3 : decide (T.size ≤ 320) = decide (((s.size - (k + 1) : Nat) : Int) ≤ 320) := by rw [hts]; exact decide_eq_decide.2 (by omega)
            rw [h3] at HG
            clear h3
            clear HO
            rcases Bool.eq_false_or_eq_true (vldB (s.extract 0 k)) with hv | hv
            all_goals
              rw [hv] at HG
              go_upto_region 12 with fail
              go_quiet (first | (go_at_call 30; refine Calls.quiet_of_same ((sDigitsValid_c _ _).mono (fun _ _ h => ⟨h.1, h.2.symm⟩))))
              go_wp2
              go_ret3
              exact ⟨by rw [HG.out]; rfl, by (repeat' (first | assumption | exact Below.refl _ _ | apply Blw.alloc | apply Blw.drew | apply Blw.drewN | (refine Blw.after ?_ (by assumption)) | (refine Blw.set ?_ (by first | (dsimp only; omega) | (simp; done) | (simp; omega)) _)))⟩
      · have HS := atP_lt ha hlt e46
        have a1 : ((s[k].toNat : Int) != 46) = true := by simp; omega
        clear e46
        go_wp2
        go_roundg (gk - 1)
        case measure => omega
        case rel => exact ⟨k + 1, by omega, HS, rfl, by go_num⟩
    · have HN := Lib.hid (cutS_none (s := s) (by omega))
      have hkk : k = s.size := by omega
      subst hkk
      go_wp2
      go_ret3
      exact ⟨by rw [HN.out]; rfl, by (repeat' (first | assumption | exact Below.refl _ _ | apply Blw.alloc | apply Blw.drew | apply Blw.drewN | (refine Blw.after ?_ (by assumption)) | (refine Blw.set ?_ (by first | (dsimp only; omega) | (simp; done) | (simp; omega)) _)))⟩

/-! ### the program's side -/
theorem ixS_c (s : ByteArray) (n : Int) (hn : Lib.indexByte s.data.toList 46 = n) (w : World) : Calls Try.prog 66 #[.string s, .int .u8 46] w fun e w' => e = .returned (.int .i64 n) ∧ w = w' := by
  have H := Lib.hid hn
  go_enter Try.func66, Try.ntmps66
  go_wp2
  rw [run_callFunc_extern Try.func77 (by kernel_rfl) (by kernel_rfl) (by kernel_rfl) (e := Extern.BytealgIndexByte.indexByte) (by kernel_rfl), Lib.run_indexByteString]
  simp only [Result.andThen]
  rw [Oper.upon_value]
  rw [show Lib.indexByte s.data.toList (Int.toNat 46).toUInt8 = n from H.out]
  go_wp2
  go_ret
  exact ⟨rfl, rfl⟩
theorem ix1_c (s : ByteArray) (n : Int) (hn : Lib.indexByte s.data.toList 46 = n) (w : World) : Calls Try.prog 83 #[.string s, .string ⟨#[46]⟩] w fun e w' => e = .returned (.int .i64 n) ∧ w = w' := by
  have H := Lib.hid hn
  clear hn
  rcases Bool.eq_false_or_eq_true ([46] == s.toList) with h | h
  · have h0 : n = 0 := by
      rw [← H.out, show s.data.toList = [46] from (toList_toL s).symm.trans (beq_iff_eq.1 h).symm]; rfl
    subst h0
    go_enter Try.func83, Try.ntmps83
    go_wp2
    go_ret
    exact ⟨rfl, rfl⟩
  · go_enter Try.func83, Try.ntmps83
    go_wp2_with (go_at_call 66; refine (ixS_c _ _ H.out _).mono ?_; rintro e w1 ⟨rfl, rfl⟩)
    go_ret
    exact ⟨rfl, rfl⟩
theorem cutL_c (s : ByteArray) (w : World) (hsz : s.size ≤ 2000000) : Calls Try.prog 75 #[.string s, .string ⟨#[46]⟩] w fun e w' => e = .returned (if atP s < s.size then .tuple #[.string (hdS s), .string (tlS s), .bool true] else .tuple #[.string s, .string ⟨#[]⟩, .bool false]) ∧ Below w.heap.size w w' := by
  by_cases h : atP s < s.size
  · have HX : ∀ w, Calls Try.prog 83 #[.string s, .string ⟨#[46]⟩] w fun e w' => e = .returned (.int .i64 (atP s : Nat)) ∧ w = w' := fun w => ix1_c s _ (by rw [index_dot, if_pos h]) w
    rw [if_pos h]
    generalize hk : atP s = k at *
    have h1 : k ≤ s.size := by omega
    have h2 : k + 1 ≤ s.size := by omega
    have HR := Lib.hid (show hdS s = s.extract 0 k ∧ tlS s = s.extract (k + 1) s.size by unfold hdS tlS; rw [hk]; exact ⟨rfl, rfl⟩)
    clear hk
    go_enter Try.func75, Try.ntmps75
    go_wp2_with (go_at_call 83; refine (HX _).mono ?_; rintro e w1 ⟨rfl, rfl⟩)
    go_region
    go_wp2
    go_ret3
    exact ⟨by rw [HR.out.1, HR.out.2]; rfl, by (repeat' (first | assumption | exact Below.refl _ _ | apply Blw.alloc | apply Blw.drew | apply Blw.drewN | (refine Blw.after ?_ (by assumption)) | (refine Blw.set ?_ (by first | (dsimp only; omega) | (simp; done) | (simp; omega)) _)))⟩
  · have HX : ∀ w, Calls Try.prog 83 #[.string s, .string ⟨#[46]⟩] w fun e w' => e = .returned (.int .i64 (-1)) ∧ w = w' := fun w => ix1_c s _ (by rw [index_dot, if_neg h]) w
    rw [if_neg h]
    go_enter Try.func75, Try.ntmps75
    go_wp2_with (go_at_call 83; refine (HX _).mono ?_; rintro e w1 ⟨rfl, rfl⟩)
    go_ret3
    exact ⟨rfl, by (repeat' (first | assumption | exact Below.refl _ _ | apply Blw.alloc | apply Blw.drew | apply Blw.drewN | (refine Blw.after ?_ (by assumption)) | (refine Blw.set ?_ (by first | (dsimp only; omega) | (simp; done) | (simp; omega)) _)))⟩
theorem cutT_c (s : ByteArray) (w : World) (hsz : s.size ≤ 2000000) : Calls Try.prog 58 #[.string s, .string ⟨#[46]⟩] w fun e w' => e = .returned (if atP s < s.size then .tuple #[.string (hdS s), .string (tlS s), .bool true] else .tuple #[.string s, .string ⟨#[]⟩, .bool false]) ∧ Below w.heap.size w w' := by
  by_cases h : atP s < s.size
  · have HX : ∀ w, Calls Try.prog 75 #[.string s, .string ⟨#[46]⟩] w fun e w' => e = .returned (.tuple #[.string (hdS s), .string (tlS s), .bool true]) ∧ Below w.heap.size w w' := fun w => by
      have := cutL_c s w hsz
      rw [if_pos h] at this
      exact this
    rw [if_pos h]
    go_enter Try.func58, Try.ntmps58
    go_wp2_with (go_at_call 75; refine (HX _).mono ?_; rintro e w1 ⟨rfl, hb⟩)
    go_ret3
    exact ⟨rfl, by (repeat' (first | assumption | exact Below.refl _ _ | apply Blw.alloc | apply Blw.drew | apply Blw.drewN | (refine Blw.after ?_ (by assumption)) | (refine Blw.set ?_ (by first | (dsimp only; omega) | (simp; done) | (simp; omega)) _)))⟩
  · have HX : ∀ w, Calls Try.prog 75 #[.string s, .string ⟨#[46]⟩] w fun e w' => e = .returned (.tuple #[.string s, .string ⟨#[]⟩, .bool false]) ∧ Below w.heap.size w w' := fun w => by
      have := cutL_c s w hsz
      rw [if_neg h] at this
      exact this
    rw [if_neg h]
    go_enter Try.func58, Try.ntmps58
    go_wp2_with (go_at_call 75; refine (HX _).mono ?_; rintro e w1 ⟨rfl, hb⟩)
    go_ret3
    exact ⟨rfl, by (repeat' (first | assumption | exact Below.refl _ _ | apply Blw.alloc | apply Blw.drew | apply Blw.drewN | (refine Blw.after ?_ (by assumption)) | (refine Blw.set ?_ (by first | (dsimp only; omega) | (simp; done) | (simp; omega)) _)))⟩
theorem cutI_c (s : ByteArray) (w : World) (hsz : s.size ≤ 2000000) : Calls Try.prog 37 #[.string s] w fun e w' => e = .returned (cutI s) ∧ Below w.heap.size w w' := by
  by_cases h : atP s < s.size
  · have HX : ∀ w, Calls Try.prog 58 #[.string s, .string ⟨#[46]⟩] w fun e w' => e = .returned (.tuple #[.string (hdS s), .string (tlS s), .bool true]) ∧ Below w.heap.size w w' := fun w => by
      have := cutT_c s w hsz
      rw [if_pos h] at this
      exact this
    have HD : cutB s = (onlyB (tlS s) && (vldB (hdS s) && decide ((tlS s).size ≤ 320))) := by simp [cutB, dotB, h]
    have HV := Lib.hid (show cutI s = .tuple #[.string (pickS (cutB s) (hdS s)), .string (pickS (cutB s) (tlS s)), .bool (cutB s)] from rfl)
    rw [HD] at HV
    clear HD h
    generalize hdS s = a at *
    generalize tlS s = b at *
    rcases Bool.eq_false_or_eq_true (vldB a) with h1 | h1
    · by_cases h2 : b.size ≤ 320
      · rcases Bool.eq_false_or_eq_true (onlyB b) with h3 | h3
        · have HR := Lib.hid (show cutI s = .tuple #[.string a, .string b, .bool true] by rw [HV.out]; simp [h1, h2, h3, pickS])
          clear HV
          go_enter Try.func37, Try.ntmps37
          go_wp2_with (first | (go_at_call 58; refine (HX _).mono ?_; rintro e w1 ⟨rfl, hb⟩) | (go_at_call 31; refine (iDigitsValid_c _ _).mono ?_; rintro e w1 ⟨rfl, hb⟩; obtain ⟨hc, hf⟩ := bcell hb; have hz := bsize hb; have hs := hb.size; try simp at hs) | (go_at_call 52; refine (iOnly_c _ _).mono ?_; rintro e w1 ⟨rfl, hb⟩; obtain ⟨hc, hf⟩ := bcell hb; have hz := bsize hb; have hs := hb.size; try simp at hs))
          go_ret3
          exact ⟨by rw [HR.out]; rfl, by (repeat' (first | assumption | exact Below.refl _ _ | apply Blw.alloc | apply Blw.drew | apply Blw.drewN | (refine Blw.after ?_ (by assumption)) | (refine Blw.set ?_ (by first | (dsimp only; omega) | (simp; done) | (simp; omega)) _)))⟩
        · have HR := Lib.hid (show cutI s = .tuple #[.string ⟨#[]⟩, .string ⟨#[]⟩, .bool false] by rw [HV.out]; simp [h1, h2, h3, pickS])
          clear HV
          go_enter Try.func37, Try.ntmps37
          go_wp2_with (first | (go_at_call 58; refine (HX _).mono ?_; rintro e w1 ⟨rfl, hb⟩) | (go_at_call 31; refine (iDigitsValid_c _ _).mono ?_; rintro e w1 ⟨rfl, hb⟩; obtain ⟨hc, hf⟩ := bcell hb; have hz := bsize hb; have hs := hb.size; try simp at hs) | (go_at_call 52; refine (iOnly_c _ _).mono ?_; rintro e w1 ⟨rfl, hb⟩; obtain ⟨hc, hf⟩ := bcell hb; have hz := bsize hb; have hs := hb.size; try simp at hs))
          go_ret3
          exact ⟨by rw [HR.out]; rfl, by (repeat' (first | assumption | exact Below.refl _ _ | apply Blw.alloc | apply Blw.drew | apply Blw.drewN | (refine Blw.after ?_ (by assumption)) | (refine Blw.set ?_ (by first | (dsimp only; omega) | (simp; done) | (simp; omega)) _)))⟩
      · have HR := Lib.hid (show cutI s = .tuple #[.string ⟨#[]⟩, .string ⟨#[]⟩, .bool false] by rw [HV.out]; simp [h1, h2, pickS])
        clear HV
        go_enter Try.func37, Try.ntmps37
        go_wp2_with (first | (go_at_call 58; refine (HX _).mono ?_; rintro e w1 ⟨rfl, hb⟩) | (go_at_call 31; refine (iDigitsValid_c _ _).mono ?_; rintro e w1 ⟨rfl, hb⟩; obtain ⟨hc, hf⟩ := bcell hb; have hz := bsize hb; have hs := hb.size; try simp at hs) | (go_at_call 52; refine (iOnly_c _ _).mono ?_; rintro e w1 ⟨rfl, hb⟩; obtain ⟨hc, hf⟩ := bcell hb; have hz := bsize hb; have hs := hb.size; try simp at hs))
        go_ret3
        exact ⟨by rw [HR.out]; rfl, by (repeat' (first | assumption | exact Below.refl _ _ | apply Blw.alloc | apply Blw.drew | apply Blw.drewN | (refine Blw.after ?_ (by assumption)) | (refine Blw.set ?_ (by first | (dsimp only; omega) | (simp; done) | (simp; omega)) _)))⟩
    · have HR := Lib.hid (show cutI s = .tuple #[.string ⟨#[]⟩, .string ⟨#[]⟩, .bool false] by rw [HV.out]; simp [h1, pickS])
      clear HV
      go_enter Try.func37, Try.ntmps37
      go_wp2_with (first | (go_at_call 58; refine (HX _).mono ?_; rintro e w1 ⟨rfl, hb⟩) | (go_at_call 31; refine (iDigitsValid_c _ _).mono ?_; rintro e w1 ⟨rfl, hb⟩; obtain ⟨hc, hf⟩ := bcell hb; have hz := bsize hb; have hs := hb.size; try simp at hs) | (go_at_call 52; refine (iOnly_c _ _).mono ?_; rintro e w1 ⟨rfl, hb⟩; obtain ⟨hc, hf⟩ := bcell hb; have hz := bsize hb; have hs := hb.size; try simp at hs))
      go_ret3
      exact ⟨by rw [HR.out]; rfl, by (repeat' (first | assumption | exact Below.refl _ _ | apply Blw.alloc | apply Blw.drew | apply Blw.drewN | (refine Blw.after ?_ (by assumption)) | (refine Blw.set ?_ (by first | (dsimp only; omega) | (simp; done) | (simp; omega)) _)))⟩
  · have HX : ∀ w, Calls Try.prog 58 #[.string s, .string ⟨#[46]⟩] w fun e w' => e = .returned (.tuple #[.string s, .string ⟨#[]⟩, .bool false]) ∧ Below w.heap.size w w' := fun w => by
      have := cutT_c s w hsz
      rw [if_neg h] at this
      exact this
    have HR := Lib.hid (cutI_no (s := s) (by simp [cutB, dotB, h]))
    clear h
    go_enter Try.func37, Try.ntmps37
    go_wp2_with (first | (go_at_call 58; refine (HX _).mono ?_; rintro e w1 ⟨rfl, hb⟩) | (go_at_call 31; refine (iDigitsValid_c _ _).mono ?_; rintro e w1 ⟨rfl, hb⟩; obtain ⟨hc, hf⟩ := bcell hb; have hz := bsize hb; have hs := hb.size; try simp at hs) | (go_at_call 52; refine (iOnly_c _ _).mono ?_; rintro e w1 ⟨rfl, hb⟩; obtain ⟨hc, hf⟩ := bcell hb; have hz := bsize hb; have hs := hb.size; try simp at hs))
    go_ret3
    exact ⟨by rw [HR.out]; rfl, by (repeat' (first | assumption | exact Below.refl _ _ | apply Blw.alloc | apply Blw.drew | apply Blw.drewN | (refine Blw.after ?_ (by assumption)) | (refine Blw.set ?_ (by first | (dsimp only; omega) | (simp; done) | (simp; omega)) _)))⟩
end Go.Proofs.Ytlcafjdinjdllab

/- Chapter 2, the model's side: digits as texts, leading zeros. -/
import Derived.Test.YtlcafjdinjdllabDoorDe
namespace Go.Proofs.YtlcafjdinjdllabDoor
set_option linter.unusedSimpArgs false
set_option linter.unusedVariables false
open Go.RowKit

theorem l2Bit_c (d : Int) (w : World) (h : d = 0 ∨ d = 1) : Calls Tryd.prog 60 #[.int .i64 d] w fun e w' => e = .returned (.string (bs [bitc d])) ∧ w = w' := by
  rcases h with rfl | rfl
  all_goals
    go_enter Tryd.func60, Tryd.ntmps60
    go_wp2
    go_ret
    exact ⟨rfl, rfl⟩

theorem toL_from1 (t : ByteArray) : toL (t.extract 1 t.size) = (toL t).drop 1 := by
  rw [← bs_toL t]
  generalize toL t = l
  show toL ((ByteArray.mk l.toArray).extract 1 _) = _
  rw [ByteArray.extract_mk]
  simp [toL, bs, ByteArray.size]
  exact List.take_of_length_le (by simp)
def DoneRel (s : ByteArray) (w : World) (m : Nat) (v : Value) (wr : World) : Prop := ∃ t : ByteArray, v = .string t ∧ t.size ≤ m ∧ wr = w ∧ strip (toL t) = strip (toL s)
abbrev resD (l : List UInt8) : Value := .tuple #[.string (selS (vldL (strip l)) (strip l)), .bool (vldL (strip l))]
theorem resD_t {l : List UInt8} {t : ByteArray} (h : strip l = toL t) (hv : vldB t = true) : resD l = .tuple #[.string t, .bool true] := by
  unfold resD; rw [h, show vldL (toL t) = true from hv]; simp [selS, bs_toL]
theorem resD_f {l : List UInt8} {t : ByteArray} (h : strip l = toL t) (hv : vldB t = false) : resD l = .tuple #[.string ⟨#[]⟩, .bool false] := by
  unfold resD; rw [h, show vldL (toL t) = false from hv]; simp [selS, bs]
theorem strip_short {l : List UInt8} (h : l.length ≤ 1) : strip l = l := by
  cases l with
  | nil => rfl
  | cons c r =>
    cases r with
    | nil => rfl
    | cons d r => simp at h
theorem strip_cons48 {l : List UInt8} (h0 : 1 < l.length) (h : l[0]? = some 48) : strip (l.drop 1) = strip l := by
  cases l with
  | nil => simp at h0
  | cons c r =>
    cases r with
    | nil => simp at h0
    | cons d r =>
      simp at h
      subst h
      simp [strip]
theorem strip_keep {l : List UInt8} (h : l[0]? ≠ some 48) : strip l = l := by
  cases l with
  | nil => rfl
  | cons c r =>
    cases r with
    | nil => rfl
    | cons d r =>
      simp at h
      simp [strip, h]
set_option maxHeartbeats 1000000 in
theorem l2Done_c (s : ByteArray) (w : World) : Calls Tryd.prog 43 #[.string s] w fun e w' => e = .returned (resD (toL s)) ∧ w = w' := by
  go_enter Tryd.func43, Tryd.ntmps43
  go_wp2
  go_loopg [0] s.size (fun m v wr => DoneRel s w m v wr)
  case atStart => exact ⟨s, rfl, Nat.le_refl _, rfl, rfl⟩
  case round =>
    obtain ⟨t, rfl, ht, rfl, hst⟩ := hrel
    have HT := Lib.hid hst
    clear hst
    by_cases h1 : 1 < t.size
    · have h0 : 0 < t.size := by omega
      have hg := Lib.hid (toL_get t 0 h0)
      by_cases e8 : t[0].toNat = 48
      · have HS := Lib.hid (strip_cons48 (l := toL t) (by rw [toL_len]; omega) (by rw [hg.out]; congr 1; exact UInt8.toNat_inj.1 (by rw [e8]; rfl)))
        have a1 : ((t[0].toNat : Int) == 48) = true := by simp [e8]
        have hsz : t.size - 1 < t.size := by omega
        clear e8
        go_wp2
        go_roundg (gk - 1)
        case measure => omega
        case rel => exact ⟨t.extract 1 t.size, rfl, by simp; omega, rfl, by rw [toL_from1, HS.out, HT.out]⟩
      · have HS := Lib.hid (strip_keep (l := toL t) (by rw [hg.out]; intro e; apply e8; rw [Option.some.injEq] at e; rw [e]; rfl))
        have a1 : ((t[0].toNat : Int) == 48) = false := by simp; omega
        clear e8
        rcases Bool.eq_false_or_eq_true (vldB t) with hv | hv
        all_goals
          first | have HV := Lib.hid (resD_t (HT.out.symm.trans HS.out) hv) | have HV := Lib.hid (resD_f (HT.out.symm.trans HS.out) hv)
          go_wp2_with (first | (go_at_call 41; refine (sDigitsValid_c _ _).mono ?_; rintro e w1 ⟨rfl, rfl⟩))
          go_ret2
          exact ⟨by rw [HV.out]; rfl, rfl⟩
    · have HS := Lib.hid (strip_short (l := toL t) (by rw [toL_len]; omega))
      rcases Bool.eq_false_or_eq_true (vldB t) with hv | hv
      all_goals
        first | have HV := Lib.hid (resD_t (HT.out.symm.trans HS.out) hv) | have HV := Lib.hid (resD_f (HT.out.symm.trans HS.out) hv)
        go_wp2_with (first | (go_at_call 41; refine (sDigitsValid_c _ _).mono ?_; rintro e w1 ⟨rfl, rfl⟩))
        go_ret2
        exact ⟨by rw [HV.out]; rfl, rfl⟩
end Go.Proofs.YtlcafjdinjdllabDoor

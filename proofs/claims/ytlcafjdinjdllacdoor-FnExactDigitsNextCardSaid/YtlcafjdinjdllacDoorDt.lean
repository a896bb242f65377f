/- Chapter 2: the next expansion, of both sides. -/
import Derived.Test.YtlcafjdinjdllacDoorDs
import Derived.Test.YtlcafjdinjdllacDoorDb
namespace Go.Proofs.YtlcafjdinjdllacDoor
set_option linter.unusedSimpArgs false
set_option linter.unusedVariables false
open Go.RowKit

def NextPost (s : ByteArray) (w : World) (e : Ending) (w' : World) : Prop := ∃ l, e = .returned (resD l) ∧ (vldB s = true → Good l (idxF (toL s) + 1)) ∧ (vldB s = false → l = []) ∧ Below w.heap.size w w'
theorem resD_nil : resD [] = .tuple #[.string ⟨#[]⟩, .bool false] := rfl
def NKRel (s : ByteArray) (w : World) (m : Nat) (kv : Value) (wr : World) : Prop :=
  ∃ k : Nat, k = m ∧ k ≤ s.size ∧ kv = .int .i64 k ∧ wr = w ∧ ∀ j, k ≤ j → j < s.size → (toL s)[j]? = some 49
def NZRel (s : ByteArray) (w : World) (k : Nat) (m : Nat) (zv iv : Value) (wr : World) : Prop :=
  ∃ i : Nat, i + m = s.size ∧ k ≤ i ∧ iv = .int .i64 i ∧ wr = w ∧ zv = .string (bs (List.replicate (i - k) 48))


theorem toL_take (s : ByteArray) (k : Nat) : s.extract 0 k = bs ((toL s).take k) := by
  apply toL_ext
  rw [toL_bs, ← bs_toL s]
  show toL ((ByteArray.mk (toL s).toArray).extract 0 k) = _
  rw [ByteArray.extract_mk]
  simp [toL, bs]
set_option maxRecDepth 100000 in
set_option maxHeartbeats 4000000 in
theorem sDigitsNext_c (s : ByteArray) (w : World) : Calls Tryd.prog 4 #[.string s] w (NextPost s w) := by
  rcases Bool.eq_false_or_eq_true (vldB s) with hv | hv
  · have HV := Lib.hid hv
    obtain ⟨l1, l50⟩ := vldB_len hv
    go_enter Tryd.func4, Tryd.ntmps4
    go_wp2_with (first | (go_at_call 6; refine (sDigitsValid_c _ _).mono ?_; rintro e w1 ⟨rfl, rfl⟩))
    clear hv
    have S0 := Lib.hid (show NKRel s w s.size (.int .i64 s.size) w from ⟨s.size, rfl, Nat.le_refl _, rfl, rfl, fun j h1 h2 => by omega⟩)
    go_loopg [4] s.size (fun m kv wr => NKRel s w m kv wr)
    case atStart => exact S0.out
    case round =>
      clear S0
      obtain ⟨k, rfl, hk, rfl, rfl, h1⟩ := hrel
      have H1 := Lib.hid h1
      clear h1
      by_cases hgo : 0 < k ∧ (s[k - 1]!).toNat = 49
      · obtain ⟨k0, k9⟩ := hgo
        have hlt : k - 1 < s.size := by omega
        have e9 : s[k - 1].toNat = 49 := by rw [getElem!_pos s (k - 1) hlt] at k9; exact k9
        have a1 : ((s[k - 1].toNat : Int) == 49) = true := by simp [e9]
        have e1 : ((k : Int) - 1).toNat = k - 1 := by omega
        have HS := Lib.hid (show ∀ j, k - 1 ≤ j → j < s.size → (toL s)[j]? = some 49 from fun j h2 h3 => by
          by_cases h4 : j = k - 1
          · rw [h4, toL_get s (k - 1) hlt]; congr 1; exact UInt8.toNat_inj.1 (by rw [e9]; rfl)
          · exact H1.out j (by omega) h3)
        clear e9 k9
        go_wp2
        go_roundg (k - 1)
        case measure => omega
        case rel => exact ⟨k - 1, rfl, by omega, by congr 1; omega, rfl, HS.out⟩
      · have h0 : 1 ≤ k → (toL s)[k - 1]? = some 48 := by
          intro hk1
          have hlt : k - 1 < s.size := by omega
          rw [toL_get s (k - 1) hlt]
          congr 1
          have := vldB_at HV.out (k - 1) hlt
          have h9 : s[k - 1].toNat ≠ 49 := by
            intro e; apply hgo; refine ⟨by omega, ?_⟩; rw [getElem!_pos s (k - 1) hlt]; exact e
          exact UInt8.toNat_inj.1 (by rw [show s[k - 1].toNat = 48 by omega]; rfl)
        have HG := Lib.hid (next_good (s := toL s) (k := k) HV.out (by rw [toL_len]; exact hk) (fun j h2 h3 => H1.out j h2 (by rw [toL_len] at h3; exact h3)) h0)
        have hc : k = 0 ∨ 0 < k ∧ ∃ h : k - 1 < s.size, ((s[k - 1].toNat : Int) == 49) = false := by
          by_cases hk0 : k = 0
          · exact Or.inl hk0
          · refine Or.inr ⟨by omega, by omega, ?_⟩
            have := h0 (by omega)
            rw [toL_get s (k - 1) (by omega)] at this
            simp only [Option.some.injEq] at this
            rw [this]; rfl
        clear hgo h0
        have SZ := Lib.hid (show NZRel s wr k (s.size - k) (.string ⟨#[]⟩) (.int .i64 k) wr from ⟨k, by omega, Nat.le_refl _, rfl, rfl, by rw [Nat.sub_self]; rfl⟩)
        obtain ⟨wo, rfl⟩ : ∃ wo : World, wo = wr := ⟨_, rfl⟩
        rcases hc with rfl | ⟨hk0, hlt, a1⟩
        · go_wp2_with fail
          go_loopg [5, 6] (s.size - 0) (fun m zv iv wr => NZRel s wo 0 m zv iv wr)
          case atStart => exact SZ.out
          case round =>
            clear SZ
            obtain ⟨i, hi, hki, rfl, rfl, rfl⟩ := hrel
            have hsz : (bs (List.replicate (i - 0) 48)).size ≤ 200 := by rw [bs_sz, List.length_replicate]; omega
            by_cases hil : i < s.size
            · have HQ := Lib.hid (show bs (List.replicate (i - 0) 48) ++ ⟨#[48]⟩ = bs (List.replicate (i + 1 - 0) 48) by
                rw [show (⟨#[48]⟩ : ByteArray) = bs [48] from rfl, bs_cat, ← List.replicate_succ' (n := i - 0), show i - 0 + 1 = i + 1 - 0 by omega])
              generalize bs (List.replicate (i - 0) 48) = T at *
              go_wp2
              go_roundg (gk - 1)
              case measure => omega
              case rel => exact ⟨i + 1, by omega, by omega, by go_num, rfl, by rw [← HQ.out]⟩
            · obtain rfl : i = s.size := by omega
              have HR := Lib.hid (show (⟨#[49]⟩ : ByteArray) ++ bs (List.replicate (s.size - 0) 48) = bs (nextR (toL s) 0) by
                rw [show (⟨#[49]⟩ : ByteArray) = bs [49] from rfl, bs_cat]; unfold nextR; rw [toL_len]; simp)
              generalize bs (List.replicate (s.size - 0) 48) = T at *
              go_wp2_with (first | (go_at_call 7; fail))
              rw [HR.out]
              refine (l2Done_c _ _).mono ?_
              rintro e w' ⟨rfl, rfl⟩
              rw [toL_bs]
              go_wp2
              go_ret2
              exact ⟨nextR (toL s) 0, rfl, fun _ => HG.out, fun h => absurd (HV.out.symm.trans h) (by simp), by (repeat' (first | assumption | exact Below.refl _ _ | apply Blw.alloc | apply Blw.drew | apply Blw.drewN | (refine Blw.after ?_ (by assumption)) | (refine Blw.set ?_ (by first | (dsimp only; omega) | (simp; done) | (simp; omega)) _)))⟩
        · have e1 : ((k : Int) - 1).toNat = k - 1 := by omega
          go_wp2_with fail
          go_loopg [5, 6] (s.size - k) (fun m zv iv wr => NZRel s wo k m zv iv wr)
          case atStart => exact SZ.out
          case round =>
            clear SZ
            obtain ⟨i, hi, hki, rfl, rfl, rfl⟩ := hrel
            have hsz : (bs (List.replicate (i - k) 48)).size ≤ 200 := by rw [bs_sz, List.length_replicate]; omega
            by_cases hil : i < s.size
            · have HQ := Lib.hid (show bs (List.replicate (i - k) 48) ++ ⟨#[48]⟩ = bs (List.replicate (i + 1 - k) 48) by
                rw [show (⟨#[48]⟩ : ByteArray) = bs [48] from rfl, bs_cat, ← List.replicate_succ' (n := i - k), show i - k + 1 = i + 1 - k by omega])
              generalize bs (List.replicate (i - k) 48) = T at *
              go_wp2
              go_roundg (gk - 1)
              case measure => omega
              case rel => exact ⟨i + 1, by omega, by omega, by go_num, rfl, by rw [← HQ.out]⟩
            · obtain rfl : i = s.size := by omega
              have HR := Lib.hid (show s.extract 0 (k - 1) ++ ⟨#[49]⟩ ++ bs (List.replicate (s.size - k) 48) = bs (nextR (toL s) k) by
                rw [toL_take, show (⟨#[49]⟩ : ByteArray) = bs [49] from rfl, bs_cat, bs_cat]; unfold nextR; rw [toL_len])
              have hex : (s.extract 0 (k - 1)).size ≤ 200 := by rw [toL_take, bs_sz, List.length_take, toL_len]; omega
              generalize bs (List.replicate (s.size - k) 48) = T at *
              go_wp2_with (first | (go_at_call 7; fail))
              rw [HR.out]
              refine (l2Done_c _ _).mono ?_
              rintro e w' ⟨rfl, rfl⟩
              rw [toL_bs]
              go_wp2
              go_ret2
              exact ⟨nextR (toL s) k, rfl, fun _ => HG.out, fun h => absurd (HV.out.symm.trans h) (by simp), by (repeat' (first | assumption | exact Below.refl _ _ | apply Blw.alloc | apply Blw.drew | apply Blw.drewN | (refine Blw.after ?_ (by assumption)) | (refine Blw.set ?_ (by first | (dsimp only; omega) | (simp; done) | (simp; omega)) _)))⟩
  · have HV := Lib.hid hv
    go_enter Tryd.func4, Tryd.ntmps4
    go_wp2_with (first | (go_at_call 6; refine (sDigitsValid_c _ _).mono ?_; rintro e w1 ⟨rfl, rfl⟩))
    go_ret2
    exact ⟨[], rfl, fun h => absurd (HV.out.symm.trans h) (by simp), fun _ => rfl, by (repeat' (first | assumption | exact Below.refl _ _ | apply Blw.alloc | apply Blw.drew | apply Blw.drewN | (refine Blw.after ?_ (by assumption)) | (refine Blw.set ?_ (by first | (dsimp only; omega) | (simp; done) | (simp; omega)) _)))⟩
end Go.Proofs.YtlcafjdinjdllacDoor

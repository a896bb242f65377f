/- Chapter 5: CurveWindow, of both sides. No law is stated here. -/
import Derived.Test.YtljmmmkehieboaaWn
namespace Go.Proofs.Ytljmmmkehieboaa
set_option linter.unusedSimpArgs false
set_option linter.unusedVariables false
open Go.RowKit Ieee

theorem wnB_f {L : List SZ} {f t : Int} (h : ¬ (pathZ L = true ∧ 0 ≤ f ∧ f < t ∧ t ≤ (L.length : Int))) : wnB L f t = false := by
  rw [← Bool.not_eq_true, wnB_iff]; exact h
theorem win_cell {Z : List (Int × Int)} {F T : Nat} (hT : T ≤ Z.length) {k : Nat} (hk : k < ((Z.take T).drop F).length) : ∃ h : F + k < Z.length, ((Z.take T).drop F)[k] = Z[F + k] := by
  rw [List.length_drop, List.length_take] at hk
  exact ⟨by omega, by rw [List.getElem_drop, List.getElem_take]⟩
set_option maxRecDepth 100000 in
set_option maxHeartbeats 4000000 in
theorem iCurveWindow_c (a : Option Addr) (c : Nat) (L : List SZ) (f t : Int) (w : World) (hl : L.length ≤ 1000000) (hcap : L.length ≤ c) (hS : ∀ q ∈ L, Bq 400 q) (h : CSl a (L.map encZ) w) : Calls Try.prog 32 #[.slice a L.length c, .int .i64 f, .int .i64 t] w (WnPost L f t w) := by
  have HP := Lib.hid (iCurvePath_c a c L w hl hS h)
  rcases Bool.eq_false_or_eq_true (wnB L f t) with hw | hw
  · obtain ⟨hp, w1, w2, w3⟩ := wnB_iff.1 hw
    have hP := pathZ_iff.1 hp
    have HZB := Lib.hid (val_map_bp hS)
    have hcz : CSl a ((L.map val).map encP) w := by rw [← enc_of hP]; exact h
    have hzl : (L.map val).length = L.length := by rw [List.length_map]
    have h1 := hP.1
    have h2 := hP.2.1
    rw [hp] at HP
    have HA := Lib.hid (wnA_t hw)
    have HW := Lib.hid hw
    generalize L.map val = Z at *
    obtain ⟨g, o, rfl, hg, hcell⟩ := cs_at hcz (by omega)
    have HCL := Lib.hid hcell
    obtain ⟨F, rfl⟩ : ∃ F : Nat, f = (F : Int) := ⟨f.toNat, by omega⟩
    obtain ⟨T, rfl⟩ : ∃ T : Nat, t = (T : Int) := ⟨t.toNat, by omega⟩
    have wF : F < T := by omega
    have wT : T ≤ L.length := by omega
    have wc : T ≤ c := by omega
    have wF2 : F ≤ T := by omega
    clear hP hp hcz hcell hS h hw w1 w2 w3
    go_enter Try.func32, Try.ntmps32
    go_wp2_with fail
    refine HP.out.mono ?_
    rintro e w1 ⟨rfl, hb⟩
    have HB1 := Lib.hid hb
    clear hb HP
    go_wp2_with fail
    have HLF := lessFirst_c g (o + F) (T - F) ((Z.take T).drop F) w1 (by rw [List.length_drop, List.length_take]; omega) (by rw [List.length_drop, List.length_take]; omega)
      (fun z hz => HZB.out z (List.mem_of_mem_take (List.mem_of_mem_drop hz))) (fun k hk => by
        obtain ⟨e1, e2⟩ := win_cell (by omega) hk
        rw [e2, Nat.add_assoc]; exact keepcell HB1.out (HCL.out _ e1))
    rw [show ((Z.take T).drop F).length = T - F by rw [List.length_drop, List.length_take]; omega] at HLF
    refine HLF.mono ?_
    rintro e w2 ⟨v, rfl, ho, hb2⟩
    have HB2 := Lib.hid (Blw.after HB1.out hb2)
    have HO := Lib.hid (show w2.ownsRow w.heap.size 31 1 v (wnA L F T).length ((wnA L F T).map encP) from by
      rw [HA.out]
      unfold wnL
      rw [lessL_len, Int.toNat_natCast, Int.toNat_natCast, show ((Z.take T).drop F).length = T - F by rw [List.length_drop, List.length_take]; omega]
      exact ownsRow_low HB1.out.size ho)
    clear ho hb2 HLF
    go_wp2_with fail
    go_ret2
    exact ⟨v, by rw [HW.out]; rfl, HO.out, HB2.out⟩
  · have HW := Lib.hid hw
    have fin : ∀ w', Below w.heap.size w w' → WnPost L f t w (.returned (.tuple #[.slice none 0 0, .bool false])) w' := fun w' hb => ⟨_, by rw [HW.out], by rw [wnA_f HW.out]; exact World.ownsRow_nil _ _ _ _, hb⟩
    have FIN := Lib.hid fin
    have hn : ¬ (pathZ L = true ∧ 0 ≤ f ∧ f < t ∧ t ≤ (L.length : Int)) := fun e => by rw [wnB_iff.2 e] at hw; cases hw
    clear fin hw hS h
    rcases Bool.eq_false_or_eq_true (pathZ L) with hp | hp
    · rw [hp] at HP
      have hn' : f < 0 ∨ (0 ≤ f ∧ (t ≤ f ∨ (f < t ∧ (L.length : Int) < t))) := by
        by_cases c1 : f < 0
        · exact Or.inl c1
        · by_cases c2 : t ≤ f
          · exact Or.inr ⟨by omega, Or.inl c2⟩
          · by_cases c3 : (L.length : Int) < t
            · exact Or.inr ⟨by omega, Or.inr ⟨by omega, c3⟩⟩
            · exact absurd ⟨hp, by omega, by omega, by omega⟩ hn
      clear hn hp
      rcases hn' with c1 | ⟨c1, c2 | ⟨c2, c3⟩⟩
      all_goals
        go_enter Try.func32, Try.ntmps32
        go_wp2_with fail
        refine HP.out.mono ?_
        rintro e w1 ⟨rfl, hb⟩
        go_wp2_with fail
        go_ret2
        exact FIN.out _ hb
    · rw [hp] at HP
      clear hn hp
      go_enter Try.func32, Try.ntmps32
      go_wp2_with fail
      refine HP.out.mono ?_
      rintro e w1 ⟨rfl, hb⟩
      go_wp2_with fail
      go_ret2
      exact FIN.out _ hb
end Go.Proofs.Ytljmmmkehieboaa

/- Chapter 2: carries, of both sides. -/
import Derived.Test.YtlcafjdinjdllaaDoorDpG
namespace Go.Proofs.YtlcafjdinjdllaaDoor
set_option linter.unusedSimpArgs false
set_option linter.unusedVariables false
open Go.RowKit

def carL (a b : ByteArray) (ok : Bool) : List (Int × Int) := if ok then carA a b (stepsA a b) else []
/-- what a list of carries is, and whose -/
def CPost (a b : ByteArray) (w : World) (e : Ending) (w' : World) : Prop :=
  ∃ (v : Value) (s : ByteArray) (ok : Bool), e = .returned (.tuple #[v, .bool ok]) ∧ addV a b = .tuple #[.string s, .bool ok] ∧ w'.ownsRow w.heap.size 29 2 v (carL a b ok).length (gcells (carL a b ok)) ∧ Below w.heap.size w w'
theorem addV_ok {a b s : ByteArray} (h : addV a b = .tuple #[.string s, .bool true]) : vldB a = true ∧ vldB b = true := by
  unfold addV at h
  cases ha : vldB a <;> cases hb : vldB b <;> simp [ha, hb] at h ⊢
set_option maxRecDepth 100000 in
set_option maxHeartbeats 1000000 in
theorem iDigitsCarries_c (a b : ByteArray) (w : World) (hT : Tab w) : Calls Tryd.prog 25 #[.string a, .string b] w (CPost a b w) := by
  have HT := Lib.hid hT
  clear hT
  go_enter Tryd.func25, Tryd.ntmps25
  go_wp2_with fail
  refine (addDigits_c a b w HT.out).mono ?_
  rintro e w1 ⟨s, ok, v, h1, rfl, h3, h4, hb⟩
  have H1 := Lib.hid h1
  have HO := Lib.hid (show w1.ownsRow w.heap.size 29 2 v (carL a b ok).length (gcells (carL a b ok)) from by
    cases ok with
    | true =>
      have := (h3 rfl).2.2
      unfold carL
      rw [if_pos rfl, carA_len]
      exact this
    | false =>
      rw [h4 rfl]
      exact World.ownsRow_nil _ _ _ _)
  clear h1 h3 h4
  go_wp2
  go_ret2
  exact ⟨v, s, ok, rfl, H1.out, HO.out, hb⟩
set_option maxRecDepth 100000 in
set_option maxHeartbeats 1000000 in
theorem sDigitsCarries_c (a b : ByteArray) (w : World) : Calls Tryd.prog 26 #[.string a, .string b] w (CPost a b w) := by
  obtain ⟨s, ok, hs⟩ := addV_shape a b
  have HS := Lib.hid (fun w => hs ▸ sDigitsAdd_c a b w)
  have HV := Lib.hid hs
  clear hs
  go_enter Tryd.func26, Tryd.ntmps26
  go_wp2_with fail
  refine (HS.out _).mono ?_
  rintro e w1 ⟨rfl, hb1⟩
  have HB1 := Lib.hid hb1
  clear hb1
  cases ok with
  | true =>
    obtain ⟨ha, hvb⟩ := addV_ok HV.out
    have HA := Lib.hid ha
    have HB := Lib.hid hvb
    clear ha hvb
    go_wp2_with fail
    refine (l2Add_c a b w1 HA.out HB.out).mono ?_
    rintro e w2 ⟨v, t, rfl, -, ho, hb2⟩
    have HO := Lib.hid (show w2.ownsRow w.heap.size 29 2 v (carL a b true).length (gcells (carL a b true)) from by
      unfold carL
      rw [if_pos rfl, carA_len]
      exact ownsRow_low HB1.out.size ho)
    have hB := HB1.out.trans (hb2.mono HB1.out.size)
    clear ho hb2
    go_wp2
    go_ret2
    exact ⟨v, s, true, rfl, HV.out, HO.out, hB⟩
  | false =>
    have HO := Lib.hid (show (w1.alloc (.cells #[] 29)).ownsRow w.heap.size 29 2 (.slice (some ⟨w1.heap.size, 0, none⟩) 0 0) (carL a b false).length (gcells (carL a b false)) from
      World.ownsRow_lit w1 #[] 0 HB1.out.size (by unfold maxLen; omega) rfl)
    have hB : Below w.heap.size w (w1.alloc (.cells #[] 29)) := Blw.alloc HB1.out _
    go_wp2
    go_ret2
    exact ⟨_, s, false, rfl, HV.out, HO.out, hB⟩
end Go.Proofs.YtlcafjdinjdllaaDoor

/- Multiplied by the base, exactly: values and the laws' own loop. No law is stated here. -/
import Derived.Test.YtlcafjdinjdllabPo
import Derived.Test.YtlcafjdinjdllabVl
namespace Go.Proofs.Ytlcafjdinjdllab
set_option linter.unusedSimpArgs false
set_option linter.unusedVariables false
open Go.RowKit Ieee

def tb (p : Int × Int) : Int × Int := (-p.1 - p.2, p.1 - p.2)
def tbI : Nat → Int × Int → Int × Int
  | 0, p => p
  | n + 1, p => tb (tbI n p)
/-- two words that stand for two values -/
def Vl2 (k : FloatKind) (x y : Nat) (p : Int × Int) : Prop := Vl k x p.1 ∧ Vl k y p.2
def Okv2 (k : FloatKind) (p : Int × Int) : Prop := Okv k p.1 ∧ Okv k p.2
def TbPost (p : Int × Int) (w : World) (e : Ending) (w' : World) : Prop := ∃ r i, e = .returned (.complex .f64 r i) ∧ Vl2 .f64 r i p ∧ r < 18446744073709551616 ∧ w = w'
def TbRel (k : Nat) (p : Int × Int) (w : World) (m : Nat) (z c : Value) (wr : World) : Prop :=
  ∃ j r i : Nat, j + m = k ∧ c = .int .i64 j ∧ wr = w ∧ z = .complex .f64 r i ∧ Vl2 .f64 r i (tbI j p) ∧ r < 18446744073709551616
theorem tb_step {r i : Nat} {p : Int × Int} (h : Vl2 .f64 r i p) (hr : r < 18446744073709551616) (ho : Okv2 .f64 (tb p)) :
    ∃ a b, floatBits .sub .f64 (Op.negFloat .f64 r) i = some a ∧ floatBits .sub .f64 r i = some b ∧ Vl2 .f64 a b (tb p) ∧ a < 18446744073709551616 := by
  obtain ⟨a, a1, a2⟩ := vl_sub (vl_neg h.1 hr) h.2 ho.1
  obtain ⟨b, b1, b2⟩ := vl_sub h.1 h.2 ho.2
  exact ⟨a, b, a1, b1, ⟨a2, b2⟩, Format.sub_lt _ a1⟩
theorem timesBase_c' (x y k : Nat) (p : Int × Int) (w : World) (hk : k ≤ 1000) (h : Vl2 .f64 x y p) (hx : x < 18446744073709551616) (ho : ∀ j, j < k → Okv2 .f64 (tb (tbI j p))) :
    Calls Try.prog 19 #[.complex .f64 x y, .int .i64 k] w (TbPost (tbI k p) w) := by
  have S0 := Lib.hid (show TbRel k p w k (.complex .f64 x y) (.int .i64 0) w from ⟨0, x, y, by omega, rfl, rfl, rfl, h, hx⟩)
  have HO := Lib.hid ho
  clear h hx ho
  go_enter Try.func19, Try.ntmps19
  go_wp2
  go_loopg [0, 5] k (fun m z c wr => TbRel k p w m z c wr)
  case atStart => exact S0.out
  case round =>
    obtain ⟨j, r, i, hj, rfl, rfl, rfl, hv, hr⟩ := hrel
    clear S0
    by_cases hlt : j < k
    · obtain ⟨a, b, h1, h2, h3, h4⟩ := tb_step hv hr (HO.out j hlt)
      have H3 := Lib.hid h3
      have H4 := Lib.hid h4
      have f0 : ∀ w, (Op.unary .neg (.float .f64 r)).run Try.prog w = .ok (.float .f64 (Op.negFloat .f64 r)) w := fun w => rfl
      have f1 := fun w => run_float_arith (P := Try.prog) w .sub 41 .f64 _ i a h1
      have f2 := fun w => run_float_arith (P := Try.prog) w .sub 41 .f64 r i b h2
      clear h1 h2 h3 h4 hv hr
      go_wp2
      go_roundg (gk - 1)
      case measure => omega
      case rel => exact ⟨j + 1, a, b, by omega, by go_num, rfl, rfl, H3.out, H4.out⟩
    · obtain rfl : j = k := by omega
      have HV := Lib.hid hv
      have HR := Lib.hid hr
      clear hv hr
      go_wp2
      go_ret
      exact ⟨r, i, rfl, HV.out, HR.out, rfl⟩
end Go.Proofs.Ytlcafjdinjdllab

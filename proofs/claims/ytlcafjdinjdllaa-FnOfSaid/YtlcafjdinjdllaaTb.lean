/- Multiplied by the base, exactly: values and the laws' own loop. No law is stated here. -/
import Derived.Test.YtlcafjdinjdllaaPo
import Derived.Test.YtlcafjdinjdllaaVl
namespace Go.Proofs.Ytlcafjdinjdllaa
set_option linter.unusedSimpArgs false
set_option linter.unusedVariables false
open Go.RowKit Ieee

def tb (p : Int × Int) : Int × Int := (-p.1 - p.2, p.1 - p.2)
def tbI : Nat → Int × Int → Int × Int
  | 0, p => p
  | n + 1, p => tb (tbI n p)
/-- two words that stand for two values -/
def Vl2 (k : FloatKind) (x y : Nat) (p : Int × Int) : Prop := Vl k x p.1 ∧ Vl k y p.2
def Okv2 (k : FloatKind) (p : Int × Int) : Prop := Okv k p.1 ∧ Okv k p.2
def TbPost (p : Int × Int) (w : World) (e : Ending) (w' : World) : Prop := ∃ r i, e = .returned (.complex .f64 r i) ∧ Vl2 .f64 r i p ∧ r < 18446744073709551616 ∧ w = w'
def TbRel (k : Nat) (p : Int × Int) (w : World) (m : Nat) (z c : Value) (wr : World) : Prop :=
  ∃ j r i : Nat, j + m = k ∧ c = .int .i64 j ∧ wr = w ∧ z = .complex .f64 r i ∧ Vl2 .f64 r i (tbI j p) ∧ r < 18446744073709551616
theorem tb_step {r i : Nat} {p : Int × Int} (h : Vl2 .f64 r i p) (hr : r < 18446744073709551616) (ho : Okv2 .f64 (tb p)) :
    ∃ a b, floatBits .sub .f64 (Op.negFloat .f64 r) i = some a ∧ floatBits .sub .f64 r i = some b ∧ Vl2 .f64 a b (tb p) ∧ a < 18446744073709551616 := by
  obtain ⟨a, a1, a2⟩ := vl_sub (vl_neg h.1 hr) h.2 ho.1
  obtain ⟨b, b1, b2⟩ := vl_sub h.1 h.2 ho.2
  exact ⟨a, b, a1, b1, ⟨a2, b2⟩, Format.sub_lt _ a1⟩
end Go.Proofs.Ytlcafjdinjdllaa

/-
  No cell of these rows narrows 'for every input' (looked for: loops, veiled, ifaces, maps, wideKeys, modest, calm, conditions, laid).
  DERIVED. THE GIVEN ROWS OF THIS SEAT. 9 by the template 'for every input the law returns true; each argument reads behind the call as it read before'; 0 by the template 'total and deterministic' (their statements: YtfodfapaidfhbaaTotals.lean).
  GIVEN WITH THE SEED: the statements are not yours to turn. If you find one false, say at which input.
  Laid BY PROGRAM, IN A SANDBOX (cutbox-rows.mjs): the forced cells as the released guide's own fill.sh prints them over the translation 190f95aabe9f0462… (all of the seat's roots in one cut). By AI agents, Wed Nov 11 2026. No macro, syntax, notation, axiom, sorry.
-/
import Derived.Test.YtfodfapaidfhbaaChecked
import GoSem.Claim
import GoSem.ClaimJoined
import GoSem.ClaimMapViews
import Derived.JoinedTies
import Derived.KernelRfl
namespace Go.Proofs.Ytfodfapaidfhbaa
/- THE CELL 'sum', in the pinned program and in every row, IS THE sha256 OF THE DUMP (.gsa) THAT YtfodfapaidfhbaaProg.lean LOADS. Nothing in Lean hashes anything: it is a label: what it is worth is what the hold of that sum in a sandbox is worth. -/
noncomputable def Try.pinned : Pinned := { name := "ytfodfapaidfhbaa", sum := "190f95aabe9f04628d07704de224fd8c65d065c19639275e0b2aab8f58dc4229", checked := Try.checked }
namespace Rows
def none {H : Type} : Left H := { results := [], args := [] }

/-- 'laws.FnExactPlacesValid': WHATEVER THE INPUT: true; the input reads as it did. -/
def fnExactPlacesValidSpec : ChangeSpec := { name := "fnExactPlacesValid", fn := fun _ => fun
  | [d] => { results := [.lit (.bool true)], args := [d] }
  | _ => none }
def fnExactPlacesValidRow : OpenClaim := { program := "ytfodfapaidfhbaa", sum := "190f95aabe9f04628d07704de224fd8c65d065c19639275e0b2aab8f58dc4229", func := "loop.example/dragonnumbers/laws.FnExactPlacesValid", spec := "fnExactPlacesValid", inPlace := ["internal/bytealg.IndexByteString", "internal/bytealg.IndexString"], named := ["internal/bytealg.MaxLen"], apart := false }
def FnExactPlacesValidSaid : Prop := fnExactPlacesValidRow.holds Try.pinned (OpenSpec.ofChange fnExactPlacesValidSpec)

/-- ITS FALSE NEIGHBOUR: 'it returns false'. Refute it at one input. -/
def fnExactPlacesValidWrong : ChangeSpec := { name := "fnExactPlacesValid", fn := fun _ => fun
  | [d] => { results := [.lit (.bool false)], args := [d] }
  | _ => none }
def FnExactPlacesValidWrongFalsely : Prop := fnExactPlacesValidRow.holds Try.pinned (OpenSpec.ofChange fnExactPlacesValidWrong)

/-- 'laws.FnExactPlacesExact': WHATEVER THE INPUT: true; the input reads as it did. -/
def fnExactPlacesExactSpec : ChangeSpec := { name := "fnExactPlacesExact", fn := fun _ => fun
  | [d] => { results := [.lit (.bool true)], args := [d] }
  | _ => none }
def fnExactPlacesExactRow : OpenClaim := { program := "ytfodfapaidfhbaa", sum := "190f95aabe9f04628d07704de224fd8c65d065c19639275e0b2aab8f58dc4229", func := "loop.example/dragonnumbers/laws.FnExactPlacesExact", spec := "fnExactPlacesExact", inPlace := ["internal/bytealg.IndexByteString", "internal/bytealg.IndexString"], named := ["internal/bytealg.MaxLen"], apart := false }
def FnExactPlacesExactSaid : Prop := fnExactPlacesExactRow.holds Try.pinned (OpenSpec.ofChange fnExactPlacesExactSpec)

/-- ITS FALSE NEIGHBOUR: 'it returns false'. Refute it at one input. -/
def fnExactPlacesExactWrong : ChangeSpec := { name := "fnExactPlacesExact", fn := fun _ => fun
  | [d] => { results := [.lit (.bool false)], args := [d] }
  | _ => none }
def FnExactPlacesExactWrongFalsely : Prop := fnExactPlacesExactRow.holds Try.pinned (OpenSpec.ofChange fnExactPlacesExactWrong)

/-- 'laws.FnExactPointWide': WHATEVER THE INPUT: true; the input reads as it did. -/
def fnExactPointWideSpec : ChangeSpec := { name := "fnExactPointWide", fn := fun _ => fun
  | [d] => { results := [.lit (.bool true)], args := [d] }
  | _ => none }
def fnExactPointWideRow : OpenClaim := { program := "ytfodfapaidfhbaa", sum := "190f95aabe9f04628d07704de224fd8c65d065c19639275e0b2aab8f58dc4229", func := "loop.example/dragonnumbers/laws.FnExactPointWide", spec := "fnExactPointWide", inPlace := ["internal/bytealg.IndexByteString", "internal/bytealg.IndexString"], named := ["internal/bytealg.MaxLen"], apart := false }
def FnExactPointWideSaid : Prop := fnExactPointWideRow.holds Try.pinned (OpenSpec.ofChange fnExactPointWideSpec)

/-- ITS FALSE NEIGHBOUR: 'it returns false'. Refute it at one input. -/
def fnExactPointWideWrong : ChangeSpec := { name := "fnExactPointWide", fn := fun _ => fun
  | [d] => { results := [.lit (.bool false)], args := [d] }
  | _ => none }
def FnExactPointWideWrongFalsely : Prop := fnExactPointWideRow.holds Try.pinned (OpenSpec.ofChange fnExactPointWideWrong)

/-- 'laws.FnExactPointSingle': WHATEVER THE INPUT: true; the input reads as it did. -/
def fnExactPointSingleSpec : ChangeSpec := { name := "fnExactPointSingle", fn := fun _ => fun
  | [d] => { results := [.lit (.bool true)], args := [d] }
  | _ => none }
def fnExactPointSingleRow : OpenClaim := { program := "ytfodfapaidfhbaa", sum := "190f95aabe9f04628d07704de224fd8c65d065c19639275e0b2aab8f58dc4229", func := "loop.example/dragonnumbers/laws.FnExactPointSingle", spec := "fnExactPointSingle", inPlace := ["internal/bytealg.IndexByteString", "internal/bytealg.IndexString"], named := ["internal/bytealg.MaxLen"], apart := false }
def FnExactPointSingleSaid : Prop := fnExactPointSingleRow.holds Try.pinned (OpenSpec.ofChange fnExactPointSingleSpec)

/-- ITS FALSE NEIGHBOUR: 'it returns false'. Refute it at one input. -/
def fnExactPointSingleWrong : ChangeSpec := { name := "fnExactPointSingle", fn := fun _ => fun
  | [d] => { results := [.lit (.bool false)], args := [d] }
  | _ => none }
def FnExactPointSingleWrongFalsely : Prop := fnExactPointSingleRow.holds Try.pinned (OpenSpec.ofChange fnExactPointSingleWrong)

/-- 'laws.FnExactPowerWide': WHATEVER THE INPUT: true; the input reads as it did. -/
def fnExactPowerWideSpec : ChangeSpec := { name := "fnExactPowerWide", fn := fun _ => fun
  | [d] => { results := [.lit (.bool true)], args := [d] }
  | _ => none }
def fnExactPowerWideRow : OpenClaim := { program := "ytfodfapaidfhbaa", sum := "190f95aabe9f04628d07704de224fd8c65d065c19639275e0b2aab8f58dc4229", func := "loop.example/dragonnumbers/laws.FnExactPowerWide", spec := "fnExactPowerWide", apart := false }
def FnExactPowerWideSaid : Prop := fnExactPowerWideRow.holds Try.pinned (OpenSpec.ofChange fnExactPowerWideSpec)

/-- ITS FALSE NEIGHBOUR: 'it returns false'. Refute it at one input. -/
def fnExactPowerWideWrong : ChangeSpec := { name := "fnExactPowerWide", fn := fun _ => fun
  | [d] => { results := [.lit (.bool false)], args := [d] }
  | _ => none }
def FnExactPowerWideWrongFalsely : Prop := fnExactPowerWideRow.holds Try.pinned (OpenSpec.ofChange fnExactPowerWideWrong)

/-- 'laws.FnExactPowerSingle': WHATEVER THE INPUT: true; the input reads as it did. -/
def fnExactPowerSingleSpec : ChangeSpec := { name := "fnExactPowerSingle", fn := fun _ => fun
  | [d] => { results := [.lit (.bool true)], args := [d] }
  | _ => none }
def fnExactPowerSingleRow : OpenClaim := { program := "ytfodfapaidfhbaa", sum := "190f95aabe9f04628d07704de224fd8c65d065c19639275e0b2aab8f58dc4229", func := "loop.example/dragonnumbers/laws.FnExactPowerSingle", spec := "fnExactPowerSingle", apart := false }
def FnExactPowerSingleSaid : Prop := fnExactPowerSingleRow.holds Try.pinned (OpenSpec.ofChange fnExactPowerSingleSpec)

/-- ITS FALSE NEIGHBOUR: 'it returns false'. Refute it at one input. -/
def fnExactPowerSingleWrong : ChangeSpec := { name := "fnExactPowerSingle", fn := fun _ => fun
  | [d] => { results := [.lit (.bool false)], args := [d] }
  | _ => none }
def FnExactPowerSingleWrongFalsely : Prop := fnExactPowerSingleRow.holds Try.pinned (OpenSpec.ofChange fnExactPowerSingleWrong)

/-- 'laws.FnExactPlacesLost': WHATEVER THE INPUT: true; the input reads as it did. -/
def fnExactPlacesLostSpec : ChangeSpec := { name := "fnExactPlacesLost", fn := fun _ => fun
  | [d] => { results := [.lit (.bool true)], args := [d] }
  | _ => none }
def fnExactPlacesLostRow : OpenClaim := { program := "ytfodfapaidfhbaa", sum := "190f95aabe9f04628d07704de224fd8c65d065c19639275e0b2aab8f58dc4229", func := "loop.example/dragonnumbers/laws.FnExactPlacesLost", spec := "fnExactPlacesLost", inPlace := ["internal/bytealg.IndexByteString", "internal/bytealg.IndexString", "internal/abi.NoEscape", "internal/bytealg.MakeNoZero"], named := ["internal/bytealg.MaxLen"], apart := false }
def FnExactPlacesLostSaid : Prop := fnExactPlacesLostRow.holds Try.pinned (OpenSpec.ofChange fnExactPlacesLostSpec)

/-- ITS FALSE NEIGHBOUR: 'it returns false'. Refute it at one input. -/
def fnExactPlacesLostWrong : ChangeSpec := { name := "fnExactPlacesLost", fn := fun _ => fun
  | [d] => { results := [.lit (.bool false)], args := [d] }
  | _ => none }
def FnExactPlacesLostWrongFalsely : Prop := fnExactPlacesLostRow.holds Try.pinned (OpenSpec.ofChange fnExactPlacesLostWrong)

/-- 'laws.FnPlaces': WHATEVER THE INPUT: true; the input reads as it did. -/
def fnPlacesSpec : ChangeSpec := { name := "fnPlaces", fn := fun _ => fun
  | [d] => { results := [.lit (.bool true)], args := [d] }
  | _ => none }
def fnPlacesRow : OpenClaim := { program := "ytfodfapaidfhbaa", sum := "190f95aabe9f04628d07704de224fd8c65d065c19639275e0b2aab8f58dc4229", func := "loop.example/dragonnumbers/laws.FnPlaces", spec := "fnPlaces", inPlace := ["internal/bytealg.IndexByteString", "internal/bytealg.IndexString"], named := ["internal/bytealg.MaxLen"], apart := false }
def FnPlacesSaid : Prop := fnPlacesRow.holds Try.pinned (OpenSpec.ofChange fnPlacesSpec)

/-- ITS FALSE NEIGHBOUR: 'it returns false'. Refute it at one input. -/
def fnPlacesWrong : ChangeSpec := { name := "fnPlaces", fn := fun _ => fun
  | [d] => { results := [.lit (.bool false)], args := [d] }
  | _ => none }
def FnPlacesWrongFalsely : Prop := fnPlacesRow.holds Try.pinned (OpenSpec.ofChange fnPlacesWrong)

/-- 'laws.FnExact': WHATEVER THE INPUT: true; the input reads as it did. -/
def fnExactSpec : ChangeSpec := { name := "fnExact", fn := fun _ => fun
  | [d] => { results := [.lit (.bool true)], args := [d] }
  | _ => none }
def fnExactRow : OpenClaim := { program := "ytfodfapaidfhbaa", sum := "190f95aabe9f04628d07704de224fd8c65d065c19639275e0b2aab8f58dc4229", func := "loop.example/dragonnumbers/laws.FnExact", spec := "fnExact", inPlace := ["internal/bytealg.IndexByteString", "internal/bytealg.IndexString"], named := ["internal/bytealg.MaxLen"], apart := false }
def FnExactSaid : Prop := fnExactRow.holds Try.pinned (OpenSpec.ofChange fnExactSpec)

/-- ITS FALSE NEIGHBOUR: 'it returns false'. Refute it at one input. -/
def fnExactWrong : ChangeSpec := { name := "fnExact", fn := fun _ => fun
  | [d] => { results := [.lit (.bool false)], args := [d] }
  | _ => none }
def FnExactWrongFalsely : Prop := fnExactRow.holds Try.pinned (OpenSpec.ofChange fnExactWrong)

/- THE SECOND FORM. 'bulk': how many values and letters a reading holds, each counted each time it is reached (what is shared counts as often as it is met; a slice's spare places count too). A statement '..UptoSaid' is the law's where the arguments, and the package variables that the reading takes, are together of bulk at most 1048576: NARROWER than '..Said'. Prove '..Said' where nothing that the law and all that it calls make is longer than what came in: it says more and counts as full. Else prove '..UptoSaid'. A law counts once. -/
mutual
def uptoBulk {H : Type} : DataW H → Nat
  | .lit (.string bytes) => bytes.length + 1
  | .lit _ => 1
  | .nil => 1
  | .ptr d => uptoBulk d + 1
  | .slice elems spare => uptoBulkAll elems + uptoBulkAll spare + 1
  | .agg parts => uptoBulkAll parts + 1
  | .iface _ d => uptoBulk d + 1
  | .map entries => uptoBulkEntries entries + 1
  | .held _ => 1
def uptoBulkAll {H : Type} : List (DataW H) → Nat
  | [] => 0
  | d :: r => uptoBulk d + uptoBulkAll r
def uptoBulkEntries {H : Type} : List (Lit × DataW H) → Nat
  | [] => 0
  | x :: r => uptoBulkEntry x + uptoBulkEntries r
def uptoBulkEntry {H : Type} : Lit × DataW H → Nat
  | (.string bytes, d) => bytes.length + uptoBulk d + 1
  | (_, d) => uptoBulk d + 1
 end
def uptoSmall : (H : Type) → List (DataW H) → Bool := fun _ ds => decide (uptoBulkAll ds ≤ 1048576)
def OpenSpec.upto (s : _root_.Go.ChangeSpec) : _root_.Go.OpenSpec := { _root_.Go.OpenSpec.ofChange s with cond := some uptoSmall }

/-- 'laws.FnExactPlacesValid', WHERE WHAT IT READS IS OF BULK AT MOST 1048576: true; the input reads as it did. -/
def fnExactPlacesValidUptoRow : OpenClaim := { program := "ytfodfapaidfhbaa", sum := "190f95aabe9f04628d07704de224fd8c65d065c19639275e0b2aab8f58dc4229", func := "loop.example/dragonnumbers/laws.FnExactPlacesValid", spec := "fnExactPlacesValid", inPlace := ["internal/bytealg.IndexByteString", "internal/bytealg.IndexString"], named := ["internal/bytealg.MaxLen"], apart := false, narrowed := true }
def FnExactPlacesValidUptoSaid : Prop := fnExactPlacesValidUptoRow.holds Try.pinned (OpenSpec.upto fnExactPlacesValidSpec)

/-- 'laws.FnExactPlacesExact', WHERE WHAT IT READS IS OF BULK AT MOST 1048576: true; the input reads as it did. -/
def fnExactPlacesExactUptoRow : OpenClaim := { program := "ytfodfapaidfhbaa", sum := "190f95aabe9f04628d07704de224fd8c65d065c19639275e0b2aab8f58dc4229", func := "loop.example/dragonnumbers/laws.FnExactPlacesExact", spec := "fnExactPlacesExact", inPlace := ["internal/bytealg.IndexByteString", "internal/bytealg.IndexString"], named := ["internal/bytealg.MaxLen"], apart := false, narrowed := true }
def FnExactPlacesExactUptoSaid : Prop := fnExactPlacesExactUptoRow.holds Try.pinned (OpenSpec.upto fnExactPlacesExactSpec)

/-- 'laws.FnExactPointWide', WHERE WHAT IT READS IS OF BULK AT MOST 1048576: true; the input reads as it did. -/
def fnExactPointWideUptoRow : OpenClaim := { program := "ytfodfapaidfhbaa", sum := "190f95aabe9f04628d07704de224fd8c65d065c19639275e0b2aab8f58dc4229", func := "loop.example/dragonnumbers/laws.FnExactPointWide", spec := "fnExactPointWide", inPlace := ["internal/bytealg.IndexByteString", "internal/bytealg.IndexString"], named := ["internal/bytealg.MaxLen"], apart := false, narrowed := true }
def FnExactPointWideUptoSaid : Prop := fnExactPointWideUptoRow.holds Try.pinned (OpenSpec.upto fnExactPointWideSpec)

/-- 'laws.FnExactPointSingle', WHERE WHAT IT READS IS OF BULK AT MOST 1048576: true; the input reads as it did. -/
def fnExactPointSingleUptoRow : OpenClaim := { program := "ytfodfapaidfhbaa", sum := "190f95aabe9f04628d07704de224fd8c65d065c19639275e0b2aab8f58dc4229", func := "loop.example/dragonnumbers/laws.FnExactPointSingle", spec := "fnExactPointSingle", inPlace := ["internal/bytealg.IndexByteString", "internal/bytealg.IndexString"], named := ["internal/bytealg.MaxLen"], apart := false, narrowed := true }
def FnExactPointSingleUptoSaid : Prop := fnExactPointSingleUptoRow.holds Try.pinned (OpenSpec.upto fnExactPointSingleSpec)

/-- 'laws.FnExactPowerWide', WHERE WHAT IT READS IS OF BULK AT MOST 1048576: true; the input reads as it did. -/
def fnExactPowerWideUptoRow : OpenClaim := { program := "ytfodfapaidfhbaa", sum := "190f95aabe9f04628d07704de224fd8c65d065c19639275e0b2aab8f58dc4229", func := "loop.example/dragonnumbers/laws.FnExactPowerWide", spec := "fnExactPowerWide", apart := false, narrowed := true }
def FnExactPowerWideUptoSaid : Prop := fnExactPowerWideUptoRow.holds Try.pinned (OpenSpec.upto fnExactPowerWideSpec)

/-- 'laws.FnExactPowerSingle', WHERE WHAT IT READS IS OF BULK AT MOST 1048576: true; the input reads as it did. -/
def fnExactPowerSingleUptoRow : OpenClaim := { program := "ytfodfapaidfhbaa", sum := "190f95aabe9f04628d07704de224fd8c65d065c19639275e0b2aab8f58dc4229", func := "loop.example/dragonnumbers/laws.FnExactPowerSingle", spec := "fnExactPowerSingle", apart := false, narrowed := true }
def FnExactPowerSingleUptoSaid : Prop := fnExactPowerSingleUptoRow.holds Try.pinned (OpenSpec.upto fnExactPowerSingleSpec)

/-- 'laws.FnExactPlacesLost', WHERE WHAT IT READS IS OF BULK AT MOST 1048576: true; the input reads as it did. -/
def fnExactPlacesLostUptoRow : OpenClaim := { program := "ytfodfapaidfhbaa", sum := "190f95aabe9f04628d07704de224fd8c65d065c19639275e0b2aab8f58dc4229", func := "loop.example/dragonnumbers/laws.FnExactPlacesLost", spec := "fnExactPlacesLost", inPlace := ["internal/bytealg.IndexByteString", "internal/bytealg.IndexString", "internal/abi.NoEscape", "internal/bytealg.MakeNoZero"], named := ["internal/bytealg.MaxLen"], apart := false, narrowed := true }
def FnExactPlacesLostUptoSaid : Prop := fnExactPlacesLostUptoRow.holds Try.pinned (OpenSpec.upto fnExactPlacesLostSpec)

/-- 'laws.FnPlaces', WHERE WHAT IT READS IS OF BULK AT MOST 1048576: true; the input reads as it did. -/
def fnPlacesUptoRow : OpenClaim := { program := "ytfodfapaidfhbaa", sum := "190f95aabe9f04628d07704de224fd8c65d065c19639275e0b2aab8f58dc4229", func := "loop.example/dragonnumbers/laws.FnPlaces", spec := "fnPlaces", inPlace := ["internal/bytealg.IndexByteString", "internal/bytealg.IndexString"], named := ["internal/bytealg.MaxLen"], apart := false, narrowed := true }
def FnPlacesUptoSaid : Prop := fnPlacesUptoRow.holds Try.pinned (OpenSpec.upto fnPlacesSpec)

/-- 'laws.FnExact', WHERE WHAT IT READS IS OF BULK AT MOST 1048576: true; the input reads as it did. -/
def fnExactUptoRow : OpenClaim := { program := "ytfodfapaidfhbaa", sum := "190f95aabe9f04628d07704de224fd8c65d065c19639275e0b2aab8f58dc4229", func := "loop.example/dragonnumbers/laws.FnExact", spec := "fnExact", inPlace := ["internal/bytealg.IndexByteString", "internal/bytealg.IndexString"], named := ["internal/bytealg.MaxLen"], apart := false, narrowed := true }
def FnExactUptoSaid : Prop := fnExactUptoRow.holds Try.pinned (OpenSpec.upto fnExactSpec)

end Rows
end Go.Proofs.Ytfodfapaidfhbaa

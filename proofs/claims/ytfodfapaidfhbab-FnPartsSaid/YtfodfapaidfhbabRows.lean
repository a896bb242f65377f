/-
  No cell of these rows narrows 'for every input' (looked for: loops, veiled, ifaces, maps, wideKeys, modest, calm, conditions, laid).
  DERIVED. THE GIVEN ROWS OF THIS SEAT. 7 by the template 'for every input the law returns true; each argument reads behind the call as it read before'; 0 by the template 'total and deterministic' (their statements: YtfodfapaidfhbabTotals.lean).
  GIVEN WITH THE SEED: the statements are not yours to turn. If you find one false, say at which input.
  Laid BY PROGRAM, IN A SANDBOX (cutbox-rows.mjs): the forced cells as the released guide's own fill.sh prints them over the translation 0935cb26173144ea… (all of the seat's roots in one cut). By AI agents, Wed Nov 11 2026. No macro, syntax, notation, axiom, sorry.
-/
import Derived.Test.YtfodfapaidfhbabChecked
import GoSem.Claim
import GoSem.ClaimJoined
import GoSem.ClaimMapViews
import Derived.JoinedTies
import Derived.KernelRfl
namespace Go.Proofs.Ytfodfapaidfhbab
/- THE CELL 'sum', in the pinned program and in every row, IS THE sha256 OF THE DUMP (.gsa) THAT YtfodfapaidfhbabProg.lean LOADS. Nothing in Lean hashes anything: it is a label: what it is worth is what the hold of that sum in a sandbox is worth. -/
noncomputable def Try.pinned : Pinned := { name := "ytfodfapaidfhbab", sum := "0935cb26173144ea0c4f1473daf8e2bd45aaaa39c2ced825dbf777f3f571f3ed", checked := Try.checked }
namespace Rows
def none {H : Type} : Left H := { results := [], args := [] }

/-- 'laws.FnPointWide': WHATEVER THE INPUT: true; the input reads as it did. -/
def fnPointWideSpec : ChangeSpec := { name := "fnPointWide", fn := fun _ => fun
  | [d] => { results := [.lit (.bool true)], args := [d] }
  | _ => none }
def fnPointWideRow : OpenClaim := { program := "ytfodfapaidfhbab", sum := "0935cb26173144ea0c4f1473daf8e2bd45aaaa39c2ced825dbf777f3f571f3ed", func := "loop.example/dragonnumbers/laws.FnPointWide", spec := "fnPointWide", inPlace := ["internal/bytealg.IndexByteString", "internal/bytealg.IndexString"], named := ["internal/bytealg.MaxLen"], apart := false }
def FnPointWideSaid : Prop := fnPointWideRow.holds Try.pinned (OpenSpec.ofChange fnPointWideSpec)

/-- ITS FALSE NEIGHBOUR: 'it returns false'. Refute it at one input. -/
def fnPointWideWrong : ChangeSpec := { name := "fnPointWide", fn := fun _ => fun
  | [d] => { results := [.lit (.bool false)], args := [d] }
  | _ => none }
def FnPointWideWrongFalsely : Prop := fnPointWideRow.holds Try.pinned (OpenSpec.ofChange fnPointWideWrong)

/-- 'laws.FnPointSingle': WHATEVER THE INPUT: true; the input reads as it did. -/
def fnPointSingleSpec : ChangeSpec := { name := "fnPointSingle", fn := fun _ => fun
  | [d] => { results := [.lit (.bool true)], args := [d] }
  | _ => none }
def fnPointSingleRow : OpenClaim := { program := "ytfodfapaidfhbab", sum := "0935cb26173144ea0c4f1473daf8e2bd45aaaa39c2ced825dbf777f3f571f3ed", func := "loop.example/dragonnumbers/laws.FnPointSingle", spec := "fnPointSingle", inPlace := ["internal/bytealg.IndexByteString", "internal/bytealg.IndexString"], named := ["internal/bytealg.MaxLen"], apart := false }
def FnPointSingleSaid : Prop := fnPointSingleRow.holds Try.pinned (OpenSpec.ofChange fnPointSingleSpec)

/-- ITS FALSE NEIGHBOUR: 'it returns false'. Refute it at one input. -/
def fnPointSingleWrong : ChangeSpec := { name := "fnPointSingle", fn := fun _ => fun
  | [d] => { results := [.lit (.bool false)], args := [d] }
  | _ => none }
def FnPointSingleWrongFalsely : Prop := fnPointSingleRow.holds Try.pinned (OpenSpec.ofChange fnPointSingleWrong)

/-- 'laws.FnPowerWide': WHATEVER THE INPUT: true; the input reads as it did. -/
def fnPowerWideSpec : ChangeSpec := { name := "fnPowerWide", fn := fun _ => fun
  | [d] => { results := [.lit (.bool true)], args := [d] }
  | _ => none }
def fnPowerWideRow : OpenClaim := { program := "ytfodfapaidfhbab", sum := "0935cb26173144ea0c4f1473daf8e2bd45aaaa39c2ced825dbf777f3f571f3ed", func := "loop.example/dragonnumbers/laws.FnPowerWide", spec := "fnPowerWide", apart := false }
def FnPowerWideSaid : Prop := fnPowerWideRow.holds Try.pinned (OpenSpec.ofChange fnPowerWideSpec)

/-- ITS FALSE NEIGHBOUR: 'it returns false'. Refute it at one input. -/
def fnPowerWideWrong : ChangeSpec := { name := "fnPowerWide", fn := fun _ => fun
  | [d] => { results := [.lit (.bool false)], args := [d] }
  | _ => none }
def FnPowerWideWrongFalsely : Prop := fnPowerWideRow.holds Try.pinned (OpenSpec.ofChange fnPowerWideWrong)

/-- 'laws.FnPowerSingle': WHATEVER THE INPUT: true; the input reads as it did. -/
def fnPowerSingleSpec : ChangeSpec := { name := "fnPowerSingle", fn := fun _ => fun
  | [d] => { results := [.lit (.bool true)], args := [d] }
  | _ => none }
def fnPowerSingleRow : OpenClaim := { program := "ytfodfapaidfhbab", sum := "0935cb26173144ea0c4f1473daf8e2bd45aaaa39c2ced825dbf777f3f571f3ed", func := "loop.example/dragonnumbers/laws.FnPowerSingle", spec := "fnPowerSingle", apart := false }
def FnPowerSingleSaid : Prop := fnPowerSingleRow.holds Try.pinned (OpenSpec.ofChange fnPowerSingleSpec)

/-- ITS FALSE NEIGHBOUR: 'it returns false'. Refute it at one input. -/
def fnPowerSingleWrong : ChangeSpec := { name := "fnPowerSingle", fn := fun _ => fun
  | [d] => { results := [.lit (.bool false)], args := [d] }
  | _ => none }
def FnPowerSingleWrongFalsely : Prop := fnPowerSingleRow.holds Try.pinned (OpenSpec.ofChange fnPowerSingleWrong)

/-- 'laws.FnSubnormal': WHATEVER THE INPUT: true; the input reads as it did. -/
def fnSubnormalSpec : ChangeSpec := { name := "fnSubnormal", fn := fun _ => fun
  | [d] => { results := [.lit (.bool true)], args := [d] }
  | _ => none }
def fnSubnormalRow : OpenClaim := { program := "ytfodfapaidfhbab", sum := "0935cb26173144ea0c4f1473daf8e2bd45aaaa39c2ced825dbf777f3f571f3ed", func := "loop.example/dragonnumbers/laws.FnSubnormal", spec := "fnSubnormal", inPlace := ["math.Float32bits"], apart := false }
def FnSubnormalSaid : Prop := fnSubnormalRow.holds Try.pinned (OpenSpec.ofChange fnSubnormalSpec)

/-- ITS FALSE NEIGHBOUR: 'it returns false'. Refute it at one input. -/
def fnSubnormalWrong : ChangeSpec := { name := "fnSubnormal", fn := fun _ => fun
  | [d] => { results := [.lit (.bool false)], args := [d] }
  | _ => none }
def FnSubnormalWrongFalsely : Prop := fnSubnormalRow.holds Try.pinned (OpenSpec.ofChange fnSubnormalWrong)

/-- 'laws.FnParts': WHATEVER THE INPUT: true; the input reads as it did. -/
def fnPartsSpec : ChangeSpec := { name := "fnParts", fn := fun _ => fun
  | [d] => { results := [.lit (.bool true)], args := [d] }
  | _ => none }
def fnPartsRow : OpenClaim := { program := "ytfodfapaidfhbab", sum := "0935cb26173144ea0c4f1473daf8e2bd45aaaa39c2ced825dbf777f3f571f3ed", func := "loop.example/dragonnumbers/laws.FnParts", spec := "fnParts", inPlace := ["math.Float32bits"], apart := false }
def FnPartsSaid : Prop := fnPartsRow.holds Try.pinned (OpenSpec.ofChange fnPartsSpec)

/-- ITS FALSE NEIGHBOUR: 'it returns false'. Refute it at one input. -/
def fnPartsWrong : ChangeSpec := { name := "fnParts", fn := fun _ => fun
  | [d] => { results := [.lit (.bool false)], args := [d] }
  | _ => none }
def FnPartsWrongFalsely : Prop := fnPartsRow.holds Try.pinned (OpenSpec.ofChange fnPartsWrong)

/-- 'laws.FnLost': WHATEVER THE INPUT: true; the input reads as it did. -/
def fnLostSpec : ChangeSpec := { name := "fnLost", fn := fun _ => fun
  | [d] => { results := [.lit (.bool true)], args := [d] }
  | _ => none }
def fnLostRow : OpenClaim := { program := "ytfodfapaidfhbab", sum := "0935cb26173144ea0c4f1473daf8e2bd45aaaa39c2ced825dbf777f3f571f3ed", func := "loop.example/dragonnumbers/laws.FnLost", spec := "fnLost", inPlace := ["internal/bytealg.IndexByteString", "internal/bytealg.IndexString", "internal/abi.NoEscape", "internal/bytealg.MakeNoZero"], named := ["internal/bytealg.MaxLen"], apart := false }
def FnLostSaid : Prop := fnLostRow.holds Try.pinned (OpenSpec.ofChange fnLostSpec)

/-- ITS FALSE NEIGHBOUR: 'it returns false'. Refute it at one input. -/
def fnLostWrong : ChangeSpec := { name := "fnLost", fn := fun _ => fun
  | [d] => { results := [.lit (.bool false)], args := [d] }
  | _ => none }
def FnLostWrongFalsely : Prop := fnLostRow.holds Try.pinned (OpenSpec.ofChange fnLostWrong)

/- THE SECOND FORM. 'bulk': how many values and letters a reading holds, each counted each time it is reached (what is shared counts as often as it is met; a slice's spare places count too). A statement '..UptoSaid' is the law's where the arguments, and the package variables that the reading takes, are together of bulk at most 1048576: NARROWER than '..Said'. Prove '..Said' where nothing that the law and all that it calls make is longer than what came in: it says more and counts as full. Else prove '..UptoSaid'. A law counts once. -/
mutual
def uptoBulk {H : Type} : DataW H → Nat
  | .lit (.string bytes) => bytes.length + 1
  | .lit _ => 1
  | .nil => 1
  | .ptr d => uptoBulk d + 1
  | .slice elems spare => uptoBulkAll elems + uptoBulkAll spare + 1
  | .agg parts => uptoBulkAll parts + 1
  | .iface _ d => uptoBulk d + 1
  | .map entries => uptoBulkEntries entries + 1
  | .held _ => 1
def uptoBulkAll {H : Type} : List (DataW H) → Nat
  | [] => 0
  | d :: r => uptoBulk d + uptoBulkAll r
def uptoBulkEntries {H : Type} : List (Lit × DataW H) → Nat
  | [] => 0
  | x :: r => uptoBulkEntry x + uptoBulkEntries r
def uptoBulkEntry {H : Type} : Lit × DataW H → Nat
  | (.string bytes, d) => bytes.length + uptoBulk d + 1
  | (_, d) => uptoBulk d + 1
 end
def uptoSmall : (H : Type) → List (DataW H) → Bool := fun _ ds => decide (uptoBulkAll ds ≤ 1048576)
def OpenSpec.upto (s : _root_.Go.ChangeSpec) : _root_.Go.OpenSpec := { _root_.Go.OpenSpec.ofChange s with cond := some uptoSmall }

/-- 'laws.FnPointWide', WHERE WHAT IT READS IS OF BULK AT MOST 1048576: true; the input reads as it did. -/
def fnPointWideUptoRow : OpenClaim := { program := "ytfodfapaidfhbab", sum := "0935cb26173144ea0c4f1473daf8e2bd45aaaa39c2ced825dbf777f3f571f3ed", func := "loop.example/dragonnumbers/laws.FnPointWide", spec := "fnPointWide", inPlace := ["internal/bytealg.IndexByteString", "internal/bytealg.IndexString"], named := ["internal/bytealg.MaxLen"], apart := false, narrowed := true }
def FnPointWideUptoSaid : Prop := fnPointWideUptoRow.holds Try.pinned (OpenSpec.upto fnPointWideSpec)

/-- 'laws.FnPointSingle', WHERE WHAT IT READS IS OF BULK AT MOST 1048576: true; the input reads as it did. -/
def fnPointSingleUptoRow : OpenClaim := { program := "ytfodfapaidfhbab", sum := "0935cb26173144ea0c4f1473daf8e2bd45aaaa39c2ced825dbf777f3f571f3ed", func := "loop.example/dragonnumbers/laws.FnPointSingle", spec := "fnPointSingle", inPlace := ["internal/bytealg.IndexByteString", "internal/bytealg.IndexString"], named := ["internal/bytealg.MaxLen"], apart := false, narrowed := true }
def FnPointSingleUptoSaid : Prop := fnPointSingleUptoRow.holds Try.pinned (OpenSpec.upto fnPointSingleSpec)

/-- 'laws.FnPowerWide', WHERE WHAT IT READS IS OF BULK AT MOST 1048576: true; the input reads as it did. -/
def fnPowerWideUptoRow : OpenClaim := { program := "ytfodfapaidfhbab", sum := "0935cb26173144ea0c4f1473daf8e2bd45aaaa39c2ced825dbf777f3f571f3ed", func := "loop.example/dragonnumbers/laws.FnPowerWide", spec := "fnPowerWide", apart := false, narrowed := true }
def FnPowerWideUptoSaid : Prop := fnPowerWideUptoRow.holds Try.pinned (OpenSpec.upto fnPowerWideSpec)

/-- 'laws.FnPowerSingle', WHERE WHAT IT READS IS OF BULK AT MOST 1048576: true; the input reads as it did. -/
def fnPowerSingleUptoRow : OpenClaim := { program := "ytfodfapaidfhbab", sum := "0935cb26173144ea0c4f1473daf8e2bd45aaaa39c2ced825dbf777f3f571f3ed", func := "loop.example/dragonnumbers/laws.FnPowerSingle", spec := "fnPowerSingle", apart := false, narrowed := true }
def FnPowerSingleUptoSaid : Prop := fnPowerSingleUptoRow.holds Try.pinned (OpenSpec.upto fnPowerSingleSpec)

/-- 'laws.FnSubnormal', WHERE WHAT IT READS IS OF BULK AT MOST 1048576: true; the input reads as it did. -/
def fnSubnormalUptoRow : OpenClaim := { program := "ytfodfapaidfhbab", sum := "0935cb26173144ea0c4f1473daf8e2bd45aaaa39c2ced825dbf777f3f571f3ed", func := "loop.example/dragonnumbers/laws.FnSubnormal", spec := "fnSubnormal", inPlace := ["math.Float32bits"], apart := false, narrowed := true }
def FnSubnormalUptoSaid : Prop := fnSubnormalUptoRow.holds Try.pinned (OpenSpec.upto fnSubnormalSpec)

/-- 'laws.FnParts', WHERE WHAT IT READS IS OF BULK AT MOST 1048576: true; the input reads as it did. -/
def fnPartsUptoRow : OpenClaim := { program := "ytfodfapaidfhbab", sum := "0935cb26173144ea0c4f1473daf8e2bd45aaaa39c2ced825dbf777f3f571f3ed", func := "loop.example/dragonnumbers/laws.FnParts", spec := "fnParts", inPlace := ["math.Float32bits"], apart := false, narrowed := true }
def FnPartsUptoSaid : Prop := fnPartsUptoRow.holds Try.pinned (OpenSpec.upto fnPartsSpec)

/-- 'laws.FnLost', WHERE WHAT IT READS IS OF BULK AT MOST 1048576: true; the input reads as it did. -/
def fnLostUptoRow : OpenClaim := { program := "ytfodfapaidfhbab", sum := "0935cb26173144ea0c4f1473daf8e2bd45aaaa39c2ced825dbf777f3f571f3ed", func := "loop.example/dragonnumbers/laws.FnLost", spec := "fnLost", inPlace := ["internal/bytealg.IndexByteString", "internal/bytealg.IndexString", "internal/abi.NoEscape", "internal/bytealg.MakeNoZero"], named := ["internal/bytealg.MaxLen"], apart := false, narrowed := true }
def FnLostUptoSaid : Prop := fnLostUptoRow.holds Try.pinned (OpenSpec.upto fnLostSpec)

end Rows
end Go.Proofs.Ytfodfapaidfhbab

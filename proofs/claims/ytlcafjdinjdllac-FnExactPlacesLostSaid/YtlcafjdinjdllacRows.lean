/-
  No cell of these rows narrows 'for every input' (looked for: loops, veiled, ifaces, maps, wideKeys, modest, calm, conditions, laid).
  DERIVED. THE GIVEN ROWS OF THIS SEAT. 6 by the template 'for every input the law returns true; each argument reads behind the call as it read before'; 0 by the template 'total and deterministic' (their statements: YtlcafjdinjdllacTotals.lean).
  GIVEN WITH THE SEED: the statements are not yours to turn. If you find one false, say at which input.
  Laid BY PROGRAM, IN A SANDBOX (cutbox-rows.mjs): the forced cells as the released guide's own fill.sh prints them over the translation a93b00df626f999b… (all of the seat's roots in one cut). By AI agents, Wed Nov 11 2026. No macro, syntax, notation, axiom, sorry.
-/
import Derived.Test.YtlcafjdinjdllacChecked
import GoSem.Claim
import GoSem.ClaimJoined
import GoSem.ClaimMapViews
import Derived.JoinedTies
import Derived.KernelRfl
namespace Go.Proofs.Ytlcafjdinjdllac
/- THE CELL 'sum', in the pinned program and in every row, IS THE sha256 OF THE DUMP (.gsa) THAT YtlcafjdinjdllacProg.lean LOADS. Nothing in Lean hashes anything: it is a label: what it is worth is what the hold of that sum in a sandbox is worth. -/
noncomputable def Try.pinned : Pinned := { name := "ytlcafjdinjdllac", sum := "a93b00df626f999b537343451fd028bc2805f2fca2a8027ad753fc1f3f352679", checked := Try.checked }
namespace Rows
def none {H : Type} : Left H := { results := [], args := [] }

/-- 'laws.FnExactDigitsIndex': WHATEVER THE INPUT: true; the input reads as it did. -/
def fnExactDigitsIndexSpec : ChangeSpec := { name := "fnExactDigitsIndex", fn := fun _ => fun
  | [d] => { results := [.lit (.bool true)], args := [d] }
  | _ => none }
def fnExactDigitsIndexRow : OpenClaim := { program := "ytlcafjdinjdllac", sum := "a93b00df626f999b537343451fd028bc2805f2fca2a8027ad753fc1f3f352679", func := "loop.example/dragonnumbers/laws.FnExactDigitsIndex", spec := "fnExactDigitsIndex", apart := false }
def FnExactDigitsIndexSaid : Prop := fnExactDigitsIndexRow.holds Try.pinned (OpenSpec.ofChange fnExactDigitsIndexSpec)

/-- ITS FALSE NEIGHBOUR: 'it returns false'. Refute it at one input. -/
def fnExactDigitsIndexWrong : ChangeSpec := { name := "fnExactDigitsIndex", fn := fun _ => fun
  | [d] => { results := [.lit (.bool false)], args := [d] }
  | _ => none }
def FnExactDigitsIndexWrongFalsely : Prop := fnExactDigitsIndexRow.holds Try.pinned (OpenSpec.ofChange fnExactDigitsIndexWrong)

/-- 'laws.FnExactPlacesValid': WHATEVER THE INPUT: true; the input reads as it did. -/
def fnExactPlacesValidSpec : ChangeSpec := { name := "fnExactPlacesValid", fn := fun _ => fun
  | [d] => { results := [.lit (.bool true)], args := [d] }
  | _ => none }
def fnExactPlacesValidRow : OpenClaim := { program := "ytlcafjdinjdllac", sum := "a93b00df626f999b537343451fd028bc2805f2fca2a8027ad753fc1f3f352679", func := "loop.example/dragonnumbers/laws.FnExactPlacesValid", spec := "fnExactPlacesValid", inPlace := ["internal/bytealg.IndexByteString", "internal/bytealg.IndexString"], named := ["internal/bytealg.MaxLen"], apart := false }
def FnExactPlacesValidSaid : Prop := fnExactPlacesValidRow.holds Try.pinned (OpenSpec.ofChange fnExactPlacesValidSpec)

/-- ITS FALSE NEIGHBOUR: 'it returns false'. Refute it at one input. -/
def fnExactPlacesValidWrong : ChangeSpec := { name := "fnExactPlacesValid", fn := fun _ => fun
  | [d] => { results := [.lit (.bool false)], args := [d] }
  | _ => none }
def FnExactPlacesValidWrongFalsely : Prop := fnExactPlacesValidRow.holds Try.pinned (OpenSpec.ofChange fnExactPlacesValidWrong)

/-- 'laws.FnExactPlacesExact': WHATEVER THE INPUT: true; the input reads as it did. -/
def fnExactPlacesExactSpec : ChangeSpec := { name := "fnExactPlacesExact", fn := fun _ => fun
  | [d] => { results := [.lit (.bool true)], args := [d] }
  | _ => none }
def fnExactPlacesExactRow : OpenClaim := { program := "ytlcafjdinjdllac", sum := "a93b00df626f999b537343451fd028bc2805f2fca2a8027ad753fc1f3f352679", func := "loop.example/dragonnumbers/laws.FnExactPlacesExact", spec := "fnExactPlacesExact", inPlace := ["internal/bytealg.IndexByteString", "internal/bytealg.IndexString"], named := ["internal/bytealg.MaxLen"], apart := false }
def FnExactPlacesExactSaid : Prop := fnExactPlacesExactRow.holds Try.pinned (OpenSpec.ofChange fnExactPlacesExactSpec)

/-- ITS FALSE NEIGHBOUR: 'it returns false'. Refute it at one input. -/
def fnExactPlacesExactWrong : ChangeSpec := { name := "fnExactPlacesExact", fn := fun _ => fun
  | [d] => { results := [.lit (.bool false)], args := [d] }
  | _ => none }
def FnExactPlacesExactWrongFalsely : Prop := fnExactPlacesExactRow.holds Try.pinned (OpenSpec.ofChange fnExactPlacesExactWrong)

/-- 'laws.FnExactPointWide': WHATEVER THE INPUT: true; the input reads as it did. -/
def fnExactPointWideSpec : ChangeSpec := { name := "fnExactPointWide", fn := fun _ => fun
  | [d] => { results := [.lit (.bool true)], args := [d] }
  | _ => none }
def fnExactPointWideRow : OpenClaim := { program := "ytlcafjdinjdllac", sum := "a93b00df626f999b537343451fd028bc2805f2fca2a8027ad753fc1f3f352679", func := "loop.example/dragonnumbers/laws.FnExactPointWide", spec := "fnExactPointWide", inPlace := ["internal/bytealg.IndexByteString", "internal/bytealg.IndexString"], named := ["internal/bytealg.MaxLen"], apart := false }
def FnExactPointWideSaid : Prop := fnExactPointWideRow.holds Try.pinned (OpenSpec.ofChange fnExactPointWideSpec)

/-- ITS FALSE NEIGHBOUR: 'it returns false'. Refute it at one input. -/
def fnExactPointWideWrong : ChangeSpec := { name := "fnExactPointWide", fn := fun _ => fun
  | [d] => { results := [.lit (.bool false)], args := [d] }
  | _ => none }
def FnExactPointWideWrongFalsely : Prop := fnExactPointWideRow.holds Try.pinned (OpenSpec.ofChange fnExactPointWideWrong)

/-- 'laws.FnExactPointSingle': WHATEVER THE INPUT: true; the input reads as it did. -/
def fnExactPointSingleSpec : ChangeSpec := { name := "fnExactPointSingle", fn := fun _ => fun
  | [d] => { results := [.lit (.bool true)], args := [d] }
  | _ => none }
def fnExactPointSingleRow : OpenClaim := { program := "ytlcafjdinjdllac", sum := "a93b00df626f999b537343451fd028bc2805f2fca2a8027ad753fc1f3f352679", func := "loop.example/dragonnumbers/laws.FnExactPointSingle", spec := "fnExactPointSingle", inPlace := ["internal/bytealg.IndexByteString", "internal/bytealg.IndexString"], named := ["internal/bytealg.MaxLen"], apart := false }
def FnExactPointSingleSaid : Prop := fnExactPointSingleRow.holds Try.pinned (OpenSpec.ofChange fnExactPointSingleSpec)

/-- ITS FALSE NEIGHBOUR: 'it returns false'. Refute it at one input. -/
def fnExactPointSingleWrong : ChangeSpec := { name := "fnExactPointSingle", fn := fun _ => fun
  | [d] => { results := [.lit (.bool false)], args := [d] }
  | _ => none }
def FnExactPointSingleWrongFalsely : Prop := fnExactPointSingleRow.holds Try.pinned (OpenSpec.ofChange fnExactPointSingleWrong)

/-- 'laws.FnExactPlacesLost': WHATEVER THE INPUT: true; the input reads as it did. -/
def fnExactPlacesLostSpec : ChangeSpec := { name := "fnExactPlacesLost", fn := fun _ => fun
  | [d] => { results := [.lit (.bool true)], args := [d] }
  | _ => none }
def fnExactPlacesLostRow : OpenClaim := { program := "ytlcafjdinjdllac", sum := "a93b00df626f999b537343451fd028bc2805f2fca2a8027ad753fc1f3f352679", func := "loop.example/dragonnumbers/laws.FnExactPlacesLost", spec := "fnExactPlacesLost", inPlace := ["internal/bytealg.IndexByteString", "internal/bytealg.IndexString", "internal/abi.NoEscape", "internal/bytealg.MakeNoZero"], named := ["internal/bytealg.MaxLen"], apart := false }
def FnExactPlacesLostSaid : Prop := fnExactPlacesLostRow.holds Try.pinned (OpenSpec.ofChange fnExactPlacesLostSpec)

/-- ITS FALSE NEIGHBOUR: 'it returns false'. Refute it at one input. -/
def fnExactPlacesLostWrong : ChangeSpec := { name := "fnExactPlacesLost", fn := fun _ => fun
  | [d] => { results := [.lit (.bool false)], args := [d] }
  | _ => none }
def FnExactPlacesLostWrongFalsely : Prop := fnExactPlacesLostRow.holds Try.pinned (OpenSpec.ofChange fnExactPlacesLostWrong)

/- THE SECOND FORM. 'bulk': how many values and letters a reading holds, each counted each time it is reached (what is shared counts as often as it is met; a slice's spare places count too). A statement '..UptoSaid' is the law's where the arguments, and the package variables that the reading takes, are together of bulk at most 1048576: NARROWER than '..Said'. Prove '..Said' where nothing that the law and all that it calls make is longer than what came in: it says more and counts as full. Else prove '..UptoSaid'. A law counts once. -/
mutual
def uptoBulk {H : Type} : DataW H → Nat
  | .lit (.string bytes) => bytes.length + 1
  | .lit _ => 1
  | .nil => 1
  | .ptr d => uptoBulk d + 1
  | .slice elems spare => uptoBulkAll elems + uptoBulkAll spare + 1
  | .agg parts => uptoBulkAll parts + 1
  | .iface _ d => uptoBulk d + 1
  | .map entries => uptoBulkEntries entries + 1
  | .held _ => 1
def uptoBulkAll {H : Type} : List (DataW H) → Nat
  | [] => 0
  | d :: r => uptoBulk d + uptoBulkAll r
def uptoBulkEntries {H : Type} : List (Lit × DataW H) → Nat
  | [] => 0
  | x :: r => uptoBulkEntry x + uptoBulkEntries r
def uptoBulkEntry {H : Type} : Lit × DataW H → Nat
  | (.string bytes, d) => bytes.length + uptoBulk d + 1
  | (_, d) => uptoBulk d + 1
 end
def uptoSmall : (H : Type) → List (DataW H) → Bool := fun _ ds => decide (uptoBulkAll ds ≤ 1048576)
def OpenSpec.upto (s : _root_.Go.ChangeSpec) : _root_.Go.OpenSpec := { _root_.Go.OpenSpec.ofChange s with cond := some uptoSmall }

/-- 'laws.FnExactDigitsIndex', WHERE WHAT IT READS IS OF BULK AT MOST 1048576: true; the input reads as it did. -/
def fnExactDigitsIndexUptoRow : OpenClaim := { program := "ytlcafjdinjdllac", sum := "a93b00df626f999b537343451fd028bc2805f2fca2a8027ad753fc1f3f352679", func := "loop.example/dragonnumbers/laws.FnExactDigitsIndex", spec := "fnExactDigitsIndex", apart := false, narrowed := true }
def FnExactDigitsIndexUptoSaid : Prop := fnExactDigitsIndexUptoRow.holds Try.pinned (OpenSpec.upto fnExactDigitsIndexSpec)

/-- 'laws.FnExactPlacesValid', WHERE WHAT IT READS IS OF BULK AT MOST 1048576: true; the input reads as it did. -/
def fnExactPlacesValidUptoRow : OpenClaim := { program := "ytlcafjdinjdllac", sum := "a93b00df626f999b537343451fd028bc2805f2fca2a8027ad753fc1f3f352679", func := "loop.example/dragonnumbers/laws.FnExactPlacesValid", spec := "fnExactPlacesValid", inPlace := ["internal/bytealg.IndexByteString", "internal/bytealg.IndexString"], named := ["internal/bytealg.MaxLen"], apart := false, narrowed := true }
def FnExactPlacesValidUptoSaid : Prop := fnExactPlacesValidUptoRow.holds Try.pinned (OpenSpec.upto fnExactPlacesValidSpec)

/-- 'laws.FnExactPlacesExact', WHERE WHAT IT READS IS OF BULK AT MOST 1048576: true; the input reads as it did. -/
def fnExactPlacesExactUptoRow : OpenClaim := { program := "ytlcafjdinjdllac", sum := "a93b00df626f999b537343451fd028bc2805f2fca2a8027ad753fc1f3f352679", func := "loop.example/dragonnumbers/laws.FnExactPlacesExact", spec := "fnExactPlacesExact", inPlace := ["internal/bytealg.IndexByteString", "internal/bytealg.IndexString"], named := ["internal/bytealg.MaxLen"], apart := false, narrowed := true }
def FnExactPlacesExactUptoSaid : Prop := fnExactPlacesExactUptoRow.holds Try.pinned (OpenSpec.upto fnExactPlacesExactSpec)

/-- 'laws.FnExactPointWide', WHERE WHAT IT READS IS OF BULK AT MOST 1048576: true; the input reads as it did. -/
def fnExactPointWideUptoRow : OpenClaim := { program := "ytlcafjdinjdllac", sum := "a93b00df626f999b537343451fd028bc2805f2fca2a8027ad753fc1f3f352679", func := "loop.example/dragonnumbers/laws.FnExactPointWide", spec := "fnExactPointWide", inPlace := ["internal/bytealg.IndexByteString", "internal/bytealg.IndexString"], named := ["internal/bytealg.MaxLen"], apart := false, narrowed := true }
def FnExactPointWideUptoSaid : Prop := fnExactPointWideUptoRow.holds Try.pinned (OpenSpec.upto fnExactPointWideSpec)

/-- 'laws.FnExactPointSingle', WHERE WHAT IT READS IS OF BULK AT MOST 1048576: true; the input reads as it did. -/
def fnExactPointSingleUptoRow : OpenClaim := { program := "ytlcafjdinjdllac", sum := "a93b00df626f999b537343451fd028bc2805f2fca2a8027ad753fc1f3f352679", func := "loop.example/dragonnumbers/laws.FnExactPointSingle", spec := "fnExactPointSingle", inPlace := ["internal/bytealg.IndexByteString", "internal/bytealg.IndexString"], named := ["internal/bytealg.MaxLen"], apart := false, narrowed := true }
def FnExactPointSingleUptoSaid : Prop := fnExactPointSingleUptoRow.holds Try.pinned (OpenSpec.upto fnExactPointSingleSpec)

/-- 'laws.FnExactPlacesLost', WHERE WHAT IT READS IS OF BULK AT MOST 1048576: true; the input reads as it did. -/
def fnExactPlacesLostUptoRow : OpenClaim := { program := "ytlcafjdinjdllac", sum := "a93b00df626f999b537343451fd028bc2805f2fca2a8027ad753fc1f3f352679", func := "loop.example/dragonnumbers/laws.FnExactPlacesLost", spec := "fnExactPlacesLost", inPlace := ["internal/bytealg.IndexByteString", "internal/bytealg.IndexString", "internal/abi.NoEscape", "internal/bytealg.MakeNoZero"], named := ["internal/bytealg.MaxLen"], apart := false, narrowed := true }
def FnExactPlacesLostUptoSaid : Prop := fnExactPlacesLostUptoRow.holds Try.pinned (OpenSpec.upto fnExactPlacesLostSpec)

end Rows
end Go.Proofs.Ytlcafjdinjdllac

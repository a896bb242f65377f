/-
  No cell of these rows narrows 'for every input' (looked for: loops, veiled, ifaces, maps, wideKeys, modest, calm, conditions, laid).
  DERIVED. THE GIVEN ROWS OF THIS SEAT. 7 by the template 'for every input the law returns true; each argument reads behind the call as it read before'; 0 by the template 'total and deterministic' (their statements: YtlcafjdinjdllabTotals.lean).
  GIVEN WITH THE SEED: the statements are not yours to turn. If you find one false, say at which input.
  Laid BY PROGRAM, IN A SANDBOX (cutbox-rows.mjs): the forced cells as the released guide's own fill.sh prints them over the translation 0d36fef754055407… (all of the seat's roots in one cut). By AI agents, Wed Nov 11 2026. No macro, syntax, notation, axiom, sorry.
-/
import Derived.Test.YtlcafjdinjdllabChecked
import GoSem.Claim
import GoSem.ClaimJoined
import GoSem.ClaimMapViews
import Derived.JoinedTies
import Derived.KernelRfl
namespace Go.Proofs.Ytlcafjdinjdllab
/- THE CELL 'sum', in the pinned program and in every row, IS THE sha256 OF THE DUMP (.gsa) THAT YtlcafjdinjdllabProg.lean LOADS. Nothing in Lean hashes anything: it is a label: what it is worth is what the hold of that sum in a sandbox is worth. -/
noncomputable def Try.pinned : Pinned := { name := "ytlcafjdinjdllab", sum := "0d36fef7540554079ef49b862385a8e1ea4fa7e678add890d75d44e48c1cb127", checked := Try.checked }
namespace Rows
def none {H : Type} : Left H := { results := [], args := [] }

/-- 'laws.FnPlaces': WHATEVER THE INPUT: true; the input reads as it did. -/
def fnPlacesSpec : ChangeSpec := { name := "fnPlaces", fn := fun _ => fun
  | [d] => { results := [.lit (.bool true)], args := [d] }
  | _ => none }
def fnPlacesRow : OpenClaim := { program := "ytlcafjdinjdllab", sum := "0d36fef7540554079ef49b862385a8e1ea4fa7e678add890d75d44e48c1cb127", func := "loop.example/dragonnumbers/laws.FnPlaces", spec := "fnPlaces", inPlace := ["internal/bytealg.IndexByteString", "internal/bytealg.IndexString"], named := ["internal/bytealg.MaxLen"], apart := false }
def FnPlacesSaid : Prop := fnPlacesRow.holds Try.pinned (OpenSpec.ofChange fnPlacesSpec)

/-- ITS FALSE NEIGHBOUR: 'it returns false'. Refute it at one input. -/
def fnPlacesWrong : ChangeSpec := { name := "fnPlaces", fn := fun _ => fun
  | [d] => { results := [.lit (.bool false)], args := [d] }
  | _ => none }
def FnPlacesWrongFalsely : Prop := fnPlacesRow.holds Try.pinned (OpenSpec.ofChange fnPlacesWrong)

/-- 'laws.FnExact': WHATEVER THE INPUT: true; the input reads as it did. -/
def fnExactSpec : ChangeSpec := { name := "fnExact", fn := fun _ => fun
  | [d] => { results := [.lit (.bool true)], args := [d] }
  | _ => none }
def fnExactRow : OpenClaim := { program := "ytlcafjdinjdllab", sum := "0d36fef7540554079ef49b862385a8e1ea4fa7e678add890d75d44e48c1cb127", func := "loop.example/dragonnumbers/laws.FnExact", spec := "fnExact", inPlace := ["internal/bytealg.IndexByteString", "internal/bytealg.IndexString"], named := ["internal/bytealg.MaxLen"], apart := false }
def FnExactSaid : Prop := fnExactRow.holds Try.pinned (OpenSpec.ofChange fnExactSpec)

/-- ITS FALSE NEIGHBOUR: 'it returns false'. Refute it at one input. -/
def fnExactWrong : ChangeSpec := { name := "fnExact", fn := fun _ => fun
  | [d] => { results := [.lit (.bool false)], args := [d] }
  | _ => none }
def FnExactWrongFalsely : Prop := fnExactRow.holds Try.pinned (OpenSpec.ofChange fnExactWrong)

/-- 'laws.FnPointWide': WHATEVER THE INPUT: true; the input reads as it did. -/
def fnPointWideSpec : ChangeSpec := { name := "fnPointWide", fn := fun _ => fun
  | [d] => { results := [.lit (.bool true)], args := [d] }
  | _ => none }
def fnPointWideRow : OpenClaim := { program := "ytlcafjdinjdllab", sum := "0d36fef7540554079ef49b862385a8e1ea4fa7e678add890d75d44e48c1cb127", func := "loop.example/dragonnumbers/laws.FnPointWide", spec := "fnPointWide", inPlace := ["internal/bytealg.IndexByteString", "internal/bytealg.IndexString"], named := ["internal/bytealg.MaxLen"], apart := false }
def FnPointWideSaid : Prop := fnPointWideRow.holds Try.pinned (OpenSpec.ofChange fnPointWideSpec)

/-- ITS FALSE NEIGHBOUR: 'it returns false'. Refute it at one input. -/
def fnPointWideWrong : ChangeSpec := { name := "fnPointWide", fn := fun _ => fun
  | [d] => { results := [.lit (.bool false)], args := [d] }
  | _ => none }
def FnPointWideWrongFalsely : Prop := fnPointWideRow.holds Try.pinned (OpenSpec.ofChange fnPointWideWrong)

/-- 'laws.FnPointSingle': WHATEVER THE INPUT: true; the input reads as it did. -/
def fnPointSingleSpec : ChangeSpec := { name := "fnPointSingle", fn := fun _ => fun
  | [d] => { results := [.lit (.bool true)], args := [d] }
  | _ => none }
def fnPointSingleRow : OpenClaim := { program := "ytlcafjdinjdllab", sum := "0d36fef7540554079ef49b862385a8e1ea4fa7e678add890d75d44e48c1cb127", func := "loop.example/dragonnumbers/laws.FnPointSingle", spec := "fnPointSingle", inPlace := ["internal/bytealg.IndexByteString", "internal/bytealg.IndexString"], named := ["internal/bytealg.MaxLen"], apart := false }
def FnPointSingleSaid : Prop := fnPointSingleRow.holds Try.pinned (OpenSpec.ofChange fnPointSingleSpec)

/-- ITS FALSE NEIGHBOUR: 'it returns false'. Refute it at one input. -/
def fnPointSingleWrong : ChangeSpec := { name := "fnPointSingle", fn := fun _ => fun
  | [d] => { results := [.lit (.bool false)], args := [d] }
  | _ => none }
def FnPointSingleWrongFalsely : Prop := fnPointSingleRow.holds Try.pinned (OpenSpec.ofChange fnPointSingleWrong)

/-- 'laws.FnLost': WHATEVER THE INPUT: true; the input reads as it did. -/
def fnLostSpec : ChangeSpec := { name := "fnLost", fn := fun _ => fun
  | [d] => { results := [.lit (.bool true)], args := [d] }
  | _ => none }
def fnLostRow : OpenClaim := { program := "ytlcafjdinjdllab", sum := "0d36fef7540554079ef49b862385a8e1ea4fa7e678add890d75d44e48c1cb127", func := "loop.example/dragonnumbers/laws.FnLost", spec := "fnLost", inPlace := ["internal/bytealg.IndexByteString", "internal/bytealg.IndexString", "internal/abi.NoEscape", "internal/bytealg.MakeNoZero"], named := ["internal/bytealg.MaxLen"], apart := false }
def FnLostSaid : Prop := fnLostRow.holds Try.pinned (OpenSpec.ofChange fnLostSpec)

/-- ITS FALSE NEIGHBOUR: 'it returns false'. Refute it at one input. -/
def fnLostWrong : ChangeSpec := { name := "fnLost", fn := fun _ => fun
  | [d] => { results := [.lit (.bool false)], args := [d] }
  | _ => none }
def FnLostWrongFalsely : Prop := fnLostRow.holds Try.pinned (OpenSpec.ofChange fnLostWrong)

/-- 'laws.FnExactDigitsValid': WHATEVER THE INPUT: true; the input reads as it did. -/
def fnExactDigitsValidSpec : ChangeSpec := { name := "fnExactDigitsValid", fn := fun _ => fun
  | [d] => { results := [.lit (.bool true)], args := [d] }
  | _ => none }
def fnExactDigitsValidRow : OpenClaim := { program := "ytlcafjdinjdllab", sum := "0d36fef7540554079ef49b862385a8e1ea4fa7e678add890d75d44e48c1cb127", func := "loop.example/dragonnumbers/laws.FnExactDigitsValid", spec := "fnExactDigitsValid", apart := false }
def FnExactDigitsValidSaid : Prop := fnExactDigitsValidRow.holds Try.pinned (OpenSpec.ofChange fnExactDigitsValidSpec)

/-- ITS FALSE NEIGHBOUR: 'it returns false'. Refute it at one input. -/
def fnExactDigitsValidWrong : ChangeSpec := { name := "fnExactDigitsValid", fn := fun _ => fun
  | [d] => { results := [.lit (.bool false)], args := [d] }
  | _ => none }
def FnExactDigitsValidWrongFalsely : Prop := fnExactDigitsValidRow.holds Try.pinned (OpenSpec.ofChange fnExactDigitsValidWrong)

/-- 'laws.FnExactDigitsValue': WHATEVER THE INPUT: true; the input reads as it did. -/
def fnExactDigitsValueSpec : ChangeSpec := { name := "fnExactDigitsValue", fn := fun _ => fun
  | [d] => { results := [.lit (.bool true)], args := [d] }
  | _ => none }
def fnExactDigitsValueRow : OpenClaim := { program := "ytlcafjdinjdllab", sum := "0d36fef7540554079ef49b862385a8e1ea4fa7e678add890d75d44e48c1cb127", func := "loop.example/dragonnumbers/laws.FnExactDigitsValue", spec := "fnExactDigitsValue", apart := false }
def FnExactDigitsValueSaid : Prop := fnExactDigitsValueRow.holds Try.pinned (OpenSpec.ofChange fnExactDigitsValueSpec)

/-- ITS FALSE NEIGHBOUR: 'it returns false'. Refute it at one input. -/
def fnExactDigitsValueWrong : ChangeSpec := { name := "fnExactDigitsValue", fn := fun _ => fun
  | [d] => { results := [.lit (.bool false)], args := [d] }
  | _ => none }
def FnExactDigitsValueWrongFalsely : Prop := fnExactDigitsValueRow.holds Try.pinned (OpenSpec.ofChange fnExactDigitsValueWrong)

/- THE SECOND FORM. 'bulk': how many values and letters a reading holds, each counted each time it is reached (what is shared counts as often as it is met; a slice's spare places count too). A statement '..UptoSaid' is the law's where the arguments, and the package variables that the reading takes, are together of bulk at most 1048576: NARROWER than '..Said'. Prove '..Said' where nothing that the law and all that it calls make is longer than what came in: it says more and counts as full. Else prove '..UptoSaid'. A law counts once. -/
mutual
def uptoBulk {H : Type} : DataW H → Nat
  | .lit (.string bytes) => bytes.length + 1
  | .lit _ => 1
  | .nil => 1
  | .ptr d => uptoBulk d + 1
  | .slice elems spare => uptoBulkAll elems + uptoBulkAll spare + 1
  | .agg parts => uptoBulkAll parts + 1
  | .iface _ d => uptoBulk d + 1
  | .map entries => uptoBulkEntries entries + 1
  | .held _ => 1
def uptoBulkAll {H : Type} : List (DataW H) → Nat
  | [] => 0
  | d :: r => uptoBulk d + uptoBulkAll r
def uptoBulkEntries {H : Type} : List (Lit × DataW H) → Nat
  | [] => 0
  | x :: r => uptoBulkEntry x + uptoBulkEntries r
def uptoBulkEntry {H : Type} : Lit × DataW H → Nat
  | (.string bytes, d) => bytes.length + uptoBulk d + 1
  | (_, d) => uptoBulk d + 1
 end
def uptoSmall : (H : Type) → List (DataW H) → Bool := fun _ ds => decide (uptoBulkAll ds ≤ 1048576)
def OpenSpec.upto (s : _root_.Go.ChangeSpec) : _root_.Go.OpenSpec := { _root_.Go.OpenSpec.ofChange s with cond := some uptoSmall }

/-- 'laws.FnPlaces', WHERE WHAT IT READS IS OF BULK AT MOST 1048576: true; the input reads as it did. -/
def fnPlacesUptoRow : OpenClaim := { program := "ytlcafjdinjdllab", sum := "0d36fef7540554079ef49b862385a8e1ea4fa7e678add890d75d44e48c1cb127", func := "loop.example/dragonnumbers/laws.FnPlaces", spec := "fnPlaces", inPlace := ["internal/bytealg.IndexByteString", "internal/bytealg.IndexString"], named := ["internal/bytealg.MaxLen"], apart := false, narrowed := true }
def FnPlacesUptoSaid : Prop := fnPlacesUptoRow.holds Try.pinned (OpenSpec.upto fnPlacesSpec)

/-- 'laws.FnExact', WHERE WHAT IT READS IS OF BULK AT MOST 1048576: true; the input reads as it did. -/
def fnExactUptoRow : OpenClaim := { program := "ytlcafjdinjdllab", sum := "0d36fef7540554079ef49b862385a8e1ea4fa7e678add890d75d44e48c1cb127", func := "loop.example/dragonnumbers/laws.FnExact", spec := "fnExact", inPlace := ["internal/bytealg.IndexByteString", "internal/bytealg.IndexString"], named := ["internal/bytealg.MaxLen"], apart := false, narrowed := true }
def FnExactUptoSaid : Prop := fnExactUptoRow.holds Try.pinned (OpenSpec.upto fnExactSpec)

/-- 'laws.FnPointWide', WHERE WHAT IT READS IS OF BULK AT MOST 1048576: true; the input reads as it did. -/
def fnPointWideUptoRow : OpenClaim := { program := "ytlcafjdinjdllab", sum := "0d36fef7540554079ef49b862385a8e1ea4fa7e678add890d75d44e48c1cb127", func := "loop.example/dragonnumbers/laws.FnPointWide", spec := "fnPointWide", inPlace := ["internal/bytealg.IndexByteString", "internal/bytealg.IndexString"], named := ["internal/bytealg.MaxLen"], apart := false, narrowed := true }
def FnPointWideUptoSaid : Prop := fnPointWideUptoRow.holds Try.pinned (OpenSpec.upto fnPointWideSpec)

/-- 'laws.FnPointSingle', WHERE WHAT IT READS IS OF BULK AT MOST 1048576: true; the input reads as it did. -/
def fnPointSingleUptoRow : OpenClaim := { program := "ytlcafjdinjdllab", sum := "0d36fef7540554079ef49b862385a8e1ea4fa7e678add890d75d44e48c1cb127", func := "loop.example/dragonnumbers/laws.FnPointSingle", spec := "fnPointSingle", inPlace := ["internal/bytealg.IndexByteString", "internal/bytealg.IndexString"], named := ["internal/bytealg.MaxLen"], apart := false, narrowed := true }
def FnPointSingleUptoSaid : Prop := fnPointSingleUptoRow.holds Try.pinned (OpenSpec.upto fnPointSingleSpec)

/-- 'laws.FnLost', WHERE WHAT IT READS IS OF BULK AT MOST 1048576: true; the input reads as it did. -/
def fnLostUptoRow : OpenClaim := { program := "ytlcafjdinjdllab", sum := "0d36fef7540554079ef49b862385a8e1ea4fa7e678add890d75d44e48c1cb127", func := "loop.example/dragonnumbers/laws.FnLost", spec := "fnLost", inPlace := ["internal/bytealg.IndexByteString", "internal/bytealg.IndexString", "internal/abi.NoEscape", "internal/bytealg.MakeNoZero"], named := ["internal/bytealg.MaxLen"], apart := false, narrowed := true }
def FnLostUptoSaid : Prop := fnLostUptoRow.holds Try.pinned (OpenSpec.upto fnLostSpec)

/-- 'laws.FnExactDigitsValid', WHERE WHAT IT READS IS OF BULK AT MOST 1048576: true; the input reads as it did. -/
def fnExactDigitsValidUptoRow : OpenClaim := { program := "ytlcafjdinjdllab", sum := "0d36fef7540554079ef49b862385a8e1ea4fa7e678add890d75d44e48c1cb127", func := "loop.example/dragonnumbers/laws.FnExactDigitsValid", spec := "fnExactDigitsValid", apart := false, narrowed := true }
def FnExactDigitsValidUptoSaid : Prop := fnExactDigitsValidUptoRow.holds Try.pinned (OpenSpec.upto fnExactDigitsValidSpec)

/-- 'laws.FnExactDigitsValue', WHERE WHAT IT READS IS OF BULK AT MOST 1048576: true; the input reads as it did. -/
def fnExactDigitsValueUptoRow : OpenClaim := { program := "ytlcafjdinjdllab", sum := "0d36fef7540554079ef49b862385a8e1ea4fa7e678add890d75d44e48c1cb127", func := "loop.example/dragonnumbers/laws.FnExactDigitsValue", spec := "fnExactDigitsValue", apart := false, narrowed := true }
def FnExactDigitsValueUptoSaid : Prop := fnExactDigitsValueUptoRow.holds Try.pinned (OpenSpec.upto fnExactDigitsValueSpec)

end Rows
end Go.Proofs.Ytlcafjdinjdllab

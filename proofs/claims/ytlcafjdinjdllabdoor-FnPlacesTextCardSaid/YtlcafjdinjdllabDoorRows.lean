/-
  NARROWER THAN 'FOR EVERY INPUT', by the rows' own cells (each row's printed sentence says how): FnPlacesText: laid · FnExactDigitsAdd: laid · FnExactDigitsCarries: laid · FnExactDigitsTimes: laid · FnExactDigitsNegate: laid.
  DERIVED. THE GIVEN ROWS OF THIS SEAT. 5 by the template 'for every input the law returns true; each argument reads behind the call as it read before'; 0 by the template 'total and deterministic' (their statements: YtlcafjdinjdllabDoorTotals.lean).
  GIVEN WITH THE SEED: the statements are not yours to turn. If you find one false, say at which input.
  Laid BY PROGRAM, IN A SANDBOX (cutbox-rows.mjs): the forced cells as the released guide's own fill.sh prints them over the translation 7b1df419969099d0… (all of the seat's roots in one cut). By AI agents, Wed Nov 11 2026. No macro, syntax, notation, axiom, sorry.
-/
import Derived.Test.YtlcafjdinjdllabDoorChecked
import GoSem.PinnedTables
import GoSem.Claim
import GoSem.ClaimJoined
import GoSem.ClaimMapViews
import Derived.JoinedTies
import Derived.KernelRfl
namespace Go.Proofs.YtlcafjdinjdllabDoor
/- THE CELL 'sum', in the pinned program and in every row, IS THE sha256 OF THE DUMP (.gsa) THAT YtlcafjdinjdllabDoorProg.lean LOADS. Nothing in Lean hashes anything: it is a label: what it is worth is what the hold of that sum in a sandbox is worth. -/
noncomputable def Tryd.pinned : Pinned := { name := "ytlcafjdinjdllabdoor", sum := "7b1df419969099d06e8e1b375a4298e5786a59839d8b23d38196a1b4a7dc0904", checked := Tryd.checked }
namespace Rows
def none {H : Type} : Left H := { results := [], args := [] }

/- WHAT THE LISTED PACKAGE-LEVEL VARIABLES READ AS WHEN THE CALL BEGINS. Each datum BY PROGRAM (the guide's laid-datum.mjs) off the statement by which the dump's own 'gosem.cut.vars' lays the variable. In a bare row this is a premise. The card (YtlcafjdinjdllabDoorCards.lean) ties it to the program's text. -/
def laid_unicode_utf8_acceptRanges {H : Type} : DataW H := .agg [.agg [.lit (.int .u8 128), .lit (.int .u8 191)], .agg [.lit (.int .u8 160), .lit (.int .u8 191)], .agg [.lit (.int .u8 128), .lit (.int .u8 159)], .agg [.lit (.int .u8 144), .lit (.int .u8 191)], .agg [.lit (.int .u8 128), .lit (.int .u8 143)], .agg [.lit (.int .u8 0), .lit (.int .u8 0)], .agg [.lit (.int .u8 0), .lit (.int .u8 0)], .agg [.lit (.int .u8 0), .lit (.int .u8 0)], .agg [.lit (.int .u8 0), .lit (.int .u8 0)], .agg [.lit (.int .u8 0), .lit (.int .u8 0)], .agg [.lit (.int .u8 0), .lit (.int .u8 0)], .agg [.lit (.int .u8 0), .lit (.int .u8 0)], .agg [.lit (.int .u8 0), .lit (.int .u8 0)], .agg [.lit (.int .u8 0), .lit (.int .u8 0)], .agg [.lit (.int .u8 0), .lit (.int .u8 0)], .agg [.lit (.int .u8 0), .lit (.int .u8 0)]]
/-- One of Go's own tables, pinned by name: the form's constant. -/
def laid_unicode_utf8_first : DataW Unit := Go.Pinned.utf8First
def laid_loop_example_dragonnumbers_impl_adder {H : Type} : DataW H := .agg [.agg [.agg [.lit (.int .i64 0), .lit (.int .i64 0)], .lit (.string [48, 49, 48]), .agg [.lit (.int .i64 0), .lit (.int .i64 0), .lit (.int .i64 1)]], .agg [.agg [.lit (.int .i64 (-1)), .lit (.int .i64 (-1))], .lit (.string [48, 49, 48]), .agg [.lit (.int .i64 2), .lit (.int .i64 2), .lit (.int .i64 3)]], .agg [.agg [.lit (.int .i64 0), .lit (.int .i64 1)], .lit (.string [49, 48, 49]), .agg [.lit (.int .i64 4), .lit (.int .i64 5), .lit (.int .i64 5)]], .agg [.agg [.lit (.int .i64 (-1)), .lit (.int .i64 0)], .lit (.string [49, 48, 49]), .agg [.lit (.int .i64 6), .lit (.int .i64 0), .lit (.int .i64 0)]], .agg [.agg [.lit (.int .i64 1), .lit (.int .i64 0)], .lit (.string [49, 48, 49]), .agg [.lit (.int .i64 0), .lit (.int .i64 1), .lit (.int .i64 1)]], .agg [.agg [.lit (.int .i64 0), .lit (.int .i64 (-1))], .lit (.string [49, 48, 49]), .agg [.lit (.int .i64 2), .lit (.int .i64 3), .lit (.int .i64 3)]], .agg [.agg [.lit (.int .i64 1), .lit (.int .i64 1)], .lit (.string [48, 49, 48]), .agg [.lit (.int .i64 5), .lit (.int .i64 5), .lit (.int .i64 7)]], .agg [.agg [.lit (.int .i64 (-1)), .lit (.int .i64 (-2))], .lit (.string [49, 48, 49]), .agg [.lit (.int .i64 8), .lit (.int .i64 9), .lit (.int .i64 9)]], .agg [.agg [.lit (.int .i64 0), .lit (.int .i64 2)], .lit (.string [48, 49, 48]), .agg [.lit (.int .i64 10), .lit (.int .i64 10), .lit (.int .i64 11)]], .agg [.agg [.lit (.int .i64 (-1)), .lit (.int .i64 1)], .lit (.string [48, 49, 48]), .agg [.lit (.int .i64 4), .lit (.int .i64 4), .lit (.int .i64 5)]], .agg [.agg [.lit (.int .i64 1), .lit (.int .i64 (-1))], .lit (.string [48, 49, 48]), .agg [.lit (.int .i64 3), .lit (.int .i64 3), .lit (.int .i64 12)]], .agg [.agg [.lit (.int .i64 0), .lit (.int .i64 (-2))], .lit (.string [48, 49, 48]), .agg [.lit (.int .i64 9), .lit (.int .i64 9), .lit (.int .i64 13)]], .agg [.agg [.lit (.int .i64 (-2)), .lit (.int .i64 (-1))], .lit (.string [49, 48, 49]), .agg [.lit (.int .i64 14), .lit (.int .i64 2), .lit (.int .i64 2)]], .agg [.agg [.lit (.int .i64 (-2)), .lit (.int .i64 0)], .lit (.string [48, 49, 48]), .agg [.lit (.int .i64 6), .lit (.int .i64 6), .lit (.int .i64 0)]], .agg [.agg [.lit (.int .i64 1), .lit (.int .i64 2)], .lit (.string [49, 48, 49]), .agg [.lit (.int .i64 10), .lit (.int .i64 11), .lit (.int .i64 11)]]]

/-- 'laws.FnPlacesText': WHATEVER THE INPUT: true; the input reads as it did. -/
def fnPlacesTextSpec : ChangeSpec := { name := "fnPlacesText", fn := fun _ => fun
  | [d] => { results := [.lit (.bool true)], args := [d] }
  | _ => none }
def fnPlacesTextRow : OpenClaim := { program := "ytlcafjdinjdllabdoor", sum := "7b1df419969099d06e8e1b375a4298e5786a59839d8b23d38196a1b4a7dc0904", func := "loop.example/dragonnumbers/laws.FnPlacesText", spec := "fnPlacesText", inPlace := ["internal/bytealg.IndexByteString", "internal/bytealg.IndexString", "internal/abi.NoEscape", "internal/bytealg.MakeNoZero"], named := ["unicode/utf8.first", "unicode/utf8.acceptRanges", "internal/bytealg.MaxLen"], apart := false, laid := [("unicode/utf8.acceptRanges", laid_unicode_utf8_acceptRanges), ("unicode/utf8.first", laid_unicode_utf8_first)] }
def FnPlacesTextSaid : Prop := fnPlacesTextRow.holds Tryd.pinned (OpenSpec.ofChange fnPlacesTextSpec)

/-- ITS FALSE NEIGHBOUR: 'it returns false'. Refute it at one input. -/
def fnPlacesTextWrong : ChangeSpec := { name := "fnPlacesText", fn := fun _ => fun
  | [d] => { results := [.lit (.bool false)], args := [d] }
  | _ => none }
def FnPlacesTextWrongFalsely : Prop := fnPlacesTextRow.holds Tryd.pinned (OpenSpec.ofChange fnPlacesTextWrong)

/-- 'laws.FnExactDigitsAdd': WHATEVER THE INPUT: true; the input reads as it did. -/
def fnExactDigitsAddSpec : ChangeSpec := { name := "fnExactDigitsAdd", vars := ["loop.example/dragonnumbers/impl.adder"], fn := fun _ => fun
  | [d1, d2, g1] => { results := [.lit (.bool true)], args := [d1, d2], vars := [g1] }
  | _ => none }
def fnExactDigitsAddRow : OpenClaim := { program := "ytlcafjdinjdllabdoor", sum := "7b1df419969099d06e8e1b375a4298e5786a59839d8b23d38196a1b4a7dc0904", func := "loop.example/dragonnumbers/laws.FnExactDigitsAdd", spec := "fnExactDigitsAdd", inPlace := ["internal/bytealg.IndexByteString", "internal/bytealg.IndexString"], named := ["loop.example/dragonnumbers/impl.adder", "unicode/utf8.first", "unicode/utf8.acceptRanges", "internal/bytealg.MaxLen"], apart := false, laid := [("unicode/utf8.acceptRanges", laid_unicode_utf8_acceptRanges), ("loop.example/dragonnumbers/impl.adder", laid_loop_example_dragonnumbers_impl_adder), ("unicode/utf8.first", laid_unicode_utf8_first)] }
def FnExactDigitsAddSaid : Prop := fnExactDigitsAddRow.holds Tryd.pinned (OpenSpec.ofChange fnExactDigitsAddSpec)

/-- ITS FALSE NEIGHBOUR: 'it returns false'. Refute it at one input. -/
def fnExactDigitsAddWrong : ChangeSpec := { name := "fnExactDigitsAdd", vars := ["loop.example/dragonnumbers/impl.adder"], fn := fun _ => fun
  | [d1, d2, g1] => { results := [.lit (.bool false)], args := [d1, d2], vars := [g1] }
  | _ => none }
def FnExactDigitsAddWrongFalsely : Prop := fnExactDigitsAddRow.holds Tryd.pinned (OpenSpec.ofChange fnExactDigitsAddWrong)

/-- 'laws.FnExactDigitsCarries': WHATEVER THE INPUT: true; the input reads as it did. -/
def fnExactDigitsCarriesSpec : ChangeSpec := { name := "fnExactDigitsCarries", vars := ["loop.example/dragonnumbers/impl.adder"], fn := fun _ => fun
  | [d1, d2, g1] => { results := [.lit (.bool true)], args := [d1, d2], vars := [g1] }
  | _ => none }
def fnExactDigitsCarriesRow : OpenClaim := { program := "ytlcafjdinjdllabdoor", sum := "7b1df419969099d06e8e1b375a4298e5786a59839d8b23d38196a1b4a7dc0904", func := "loop.example/dragonnumbers/laws.FnExactDigitsCarries", spec := "fnExactDigitsCarries", inPlace := ["internal/bytealg.IndexByteString", "internal/bytealg.IndexString"], named := ["loop.example/dragonnumbers/impl.adder", "unicode/utf8.first", "unicode/utf8.acceptRanges", "internal/bytealg.MaxLen"], apart := false, laid := [("unicode/utf8.acceptRanges", laid_unicode_utf8_acceptRanges), ("loop.example/dragonnumbers/impl.adder", laid_loop_example_dragonnumbers_impl_adder), ("unicode/utf8.first", laid_unicode_utf8_first)] }
def FnExactDigitsCarriesSaid : Prop := fnExactDigitsCarriesRow.holds Tryd.pinned (OpenSpec.ofChange fnExactDigitsCarriesSpec)

/-- ITS FALSE NEIGHBOUR: 'it returns false'. Refute it at one input. -/
def fnExactDigitsCarriesWrong : ChangeSpec := { name := "fnExactDigitsCarries", vars := ["loop.example/dragonnumbers/impl.adder"], fn := fun _ => fun
  | [d1, d2, g1] => { results := [.lit (.bool false)], args := [d1, d2], vars := [g1] }
  | _ => none }
def FnExactDigitsCarriesWrongFalsely : Prop := fnExactDigitsCarriesRow.holds Tryd.pinned (OpenSpec.ofChange fnExactDigitsCarriesWrong)

/-- 'laws.FnExactDigitsTimes': WHATEVER THE INPUT: true; the input reads as it did. -/
def fnExactDigitsTimesSpec : ChangeSpec := { name := "fnExactDigitsTimes", vars := ["loop.example/dragonnumbers/impl.adder"], fn := fun _ => fun
  | [d1, d2, g1] => { results := [.lit (.bool true)], args := [d1, d2], vars := [g1] }
  | _ => none }
def fnExactDigitsTimesRow : OpenClaim := { program := "ytlcafjdinjdllabdoor", sum := "7b1df419969099d06e8e1b375a4298e5786a59839d8b23d38196a1b4a7dc0904", func := "loop.example/dragonnumbers/laws.FnExactDigitsTimes", spec := "fnExactDigitsTimes", inPlace := ["internal/abi.NoEscape", "internal/bytealg.MakeNoZero", "internal/bytealg.IndexByteString", "internal/bytealg.IndexString"], named := ["loop.example/dragonnumbers/impl.adder", "unicode/utf8.first", "unicode/utf8.acceptRanges", "internal/bytealg.MaxLen"], apart := false, laid := [("unicode/utf8.acceptRanges", laid_unicode_utf8_acceptRanges), ("loop.example/dragonnumbers/impl.adder", laid_loop_example_dragonnumbers_impl_adder), ("unicode/utf8.first", laid_unicode_utf8_first)] }
def FnExactDigitsTimesSaid : Prop := fnExactDigitsTimesRow.holds Tryd.pinned (OpenSpec.ofChange fnExactDigitsTimesSpec)

/-- ITS FALSE NEIGHBOUR: 'it returns false'. Refute it at one input. -/
def fnExactDigitsTimesWrong : ChangeSpec := { name := "fnExactDigitsTimes", vars := ["loop.example/dragonnumbers/impl.adder"], fn := fun _ => fun
  | [d1, d2, g1] => { results := [.lit (.bool false)], args := [d1, d2], vars := [g1] }
  | _ => none }
def FnExactDigitsTimesWrongFalsely : Prop := fnExactDigitsTimesRow.holds Tryd.pinned (OpenSpec.ofChange fnExactDigitsTimesWrong)

/-- 'laws.FnExactDigitsNegate': WHATEVER THE INPUT: true; the input reads as it did. -/
def fnExactDigitsNegateSpec : ChangeSpec := { name := "fnExactDigitsNegate", vars := ["loop.example/dragonnumbers/impl.adder"], fn := fun _ => fun
  | [d, g1] => { results := [.lit (.bool true)], args := [d], vars := [g1] }
  | _ => none }
def fnExactDigitsNegateRow : OpenClaim := { program := "ytlcafjdinjdllabdoor", sum := "7b1df419969099d06e8e1b375a4298e5786a59839d8b23d38196a1b4a7dc0904", func := "loop.example/dragonnumbers/laws.FnExactDigitsNegate", spec := "fnExactDigitsNegate", inPlace := ["internal/abi.NoEscape", "internal/bytealg.MakeNoZero", "internal/bytealg.IndexByteString", "internal/bytealg.IndexString"], named := ["loop.example/dragonnumbers/impl.adder", "unicode/utf8.first", "unicode/utf8.acceptRanges", "internal/bytealg.MaxLen"], apart := false, laid := [("unicode/utf8.acceptRanges", laid_unicode_utf8_acceptRanges), ("loop.example/dragonnumbers/impl.adder", laid_loop_example_dragonnumbers_impl_adder), ("unicode/utf8.first", laid_unicode_utf8_first)] }
def FnExactDigitsNegateSaid : Prop := fnExactDigitsNegateRow.holds Tryd.pinned (OpenSpec.ofChange fnExactDigitsNegateSpec)

/-- ITS FALSE NEIGHBOUR: 'it returns false'. Refute it at one input. -/
def fnExactDigitsNegateWrong : ChangeSpec := { name := "fnExactDigitsNegate", vars := ["loop.example/dragonnumbers/impl.adder"], fn := fun _ => fun
  | [d, g1] => { results := [.lit (.bool false)], args := [d], vars := [g1] }
  | _ => none }
def FnExactDigitsNegateWrongFalsely : Prop := fnExactDigitsNegateRow.holds Tryd.pinned (OpenSpec.ofChange fnExactDigitsNegateWrong)

/- THE SECOND FORM. 'bulk': how many values and letters a reading holds, each counted each time it is reached (what is shared counts as often as it is met; a slice's spare places count too). A statement '..UptoSaid' is the law's where the arguments, and the package variables that the reading takes, are together of bulk at most 1048576: NARROWER than '..Said'. Prove '..Said' where nothing that the law and all that it calls make is longer than what came in: it says more and counts as full. Else prove '..UptoSaid'. A law counts once. -/
mutual
def uptoBulk {H : Type} : DataW H → Nat
  | .lit (.string bytes) => bytes.length + 1
  | .lit _ => 1
  | .nil => 1
  | .ptr d => uptoBulk d + 1
  | .slice elems spare => uptoBulkAll elems + uptoBulkAll spare + 1
  | .agg parts => uptoBulkAll parts + 1
  | .iface _ d => uptoBulk d + 1
  | .map entries => uptoBulkEntries entries + 1
  | .held _ => 1
def uptoBulkAll {H : Type} : List (DataW H) → Nat
  | [] => 0
  | d :: r => uptoBulk d + uptoBulkAll r
def uptoBulkEntries {H : Type} : List (Lit × DataW H) → Nat
  | [] => 0
  | x :: r => uptoBulkEntry x + uptoBulkEntries r
def uptoBulkEntry {H : Type} : Lit × DataW H → Nat
  | (.string bytes, d) => bytes.length + uptoBulk d + 1
  | (_, d) => uptoBulk d + 1
 end
def uptoSmall : (H : Type) → List (DataW H) → Bool := fun _ ds => decide (uptoBulkAll ds ≤ 1048576)
def OpenSpec.upto (s : _root_.Go.ChangeSpec) : _root_.Go.OpenSpec := { _root_.Go.OpenSpec.ofChange s with cond := some uptoSmall }

/-- 'laws.FnPlacesText', WHERE WHAT IT READS IS OF BULK AT MOST 1048576: true; the input reads as it did. -/
def fnPlacesTextUptoRow : OpenClaim := { program := "ytlcafjdinjdllabdoor", sum := "7b1df419969099d06e8e1b375a4298e5786a59839d8b23d38196a1b4a7dc0904", func := "loop.example/dragonnumbers/laws.FnPlacesText", spec := "fnPlacesText", inPlace := ["internal/bytealg.IndexByteString", "internal/bytealg.IndexString", "internal/abi.NoEscape", "internal/bytealg.MakeNoZero"], named := ["unicode/utf8.first", "unicode/utf8.acceptRanges", "internal/bytealg.MaxLen"], apart := false, laid := [("unicode/utf8.acceptRanges", laid_unicode_utf8_acceptRanges), ("unicode/utf8.first", laid_unicode_utf8_first)], narrowed := true }
def FnPlacesTextUptoSaid : Prop := fnPlacesTextUptoRow.holds Tryd.pinned (OpenSpec.upto fnPlacesTextSpec)

/-- 'laws.FnExactDigitsAdd', WHERE WHAT IT READS IS OF BULK AT MOST 1048576: true; the input reads as it did. -/
def fnExactDigitsAddUptoRow : OpenClaim := { program := "ytlcafjdinjdllabdoor", sum := "7b1df419969099d06e8e1b375a4298e5786a59839d8b23d38196a1b4a7dc0904", func := "loop.example/dragonnumbers/laws.FnExactDigitsAdd", spec := "fnExactDigitsAdd", inPlace := ["internal/bytealg.IndexByteString", "internal/bytealg.IndexString"], named := ["loop.example/dragonnumbers/impl.adder", "unicode/utf8.first", "unicode/utf8.acceptRanges", "internal/bytealg.MaxLen"], apart := false, laid := [("unicode/utf8.acceptRanges", laid_unicode_utf8_acceptRanges), ("loop.example/dragonnumbers/impl.adder", laid_loop_example_dragonnumbers_impl_adder), ("unicode/utf8.first", laid_unicode_utf8_first)], narrowed := true }
def FnExactDigitsAddUptoSaid : Prop := fnExactDigitsAddUptoRow.holds Tryd.pinned (OpenSpec.upto fnExactDigitsAddSpec)

/-- 'laws.FnExactDigitsCarries', WHERE WHAT IT READS IS OF BULK AT MOST 1048576: true; the input reads as it did. -/
def fnExactDigitsCarriesUptoRow : OpenClaim := { program := "ytlcafjdinjdllabdoor", sum := "7b1df419969099d06e8e1b375a4298e5786a59839d8b23d38196a1b4a7dc0904", func := "loop.example/dragonnumbers/laws.FnExactDigitsCarries", spec := "fnExactDigitsCarries", inPlace := ["internal/bytealg.IndexByteString", "internal/bytealg.IndexString"], named := ["loop.example/dragonnumbers/impl.adder", "unicode/utf8.first", "unicode/utf8.acceptRanges", "internal/bytealg.MaxLen"], apart := false, laid := [("unicode/utf8.acceptRanges", laid_unicode_utf8_acceptRanges), ("loop.example/dragonnumbers/impl.adder", laid_loop_example_dragonnumbers_impl_adder), ("unicode/utf8.first", laid_unicode_utf8_first)], narrowed := true }
def FnExactDigitsCarriesUptoSaid : Prop := fnExactDigitsCarriesUptoRow.holds Tryd.pinned (OpenSpec.upto fnExactDigitsCarriesSpec)

/-- 'laws.FnExactDigitsTimes', WHERE WHAT IT READS IS OF BULK AT MOST 1048576: true; the input reads as it did. -/
def fnExactDigitsTimesUptoRow : OpenClaim := { program := "ytlcafjdinjdllabdoor", sum := "7b1df419969099d06e8e1b375a4298e5786a59839d8b23d38196a1b4a7dc0904", func := "loop.example/dragonnumbers/laws.FnExactDigitsTimes", spec := "fnExactDigitsTimes", inPlace := ["internal/abi.NoEscape", "internal/bytealg.MakeNoZero", "internal/bytealg.IndexByteString", "internal/bytealg.IndexString"], named := ["loop.example/dragonnumbers/impl.adder", "unicode/utf8.first", "unicode/utf8.acceptRanges", "internal/bytealg.MaxLen"], apart := false, laid := [("unicode/utf8.acceptRanges", laid_unicode_utf8_acceptRanges), ("loop.example/dragonnumbers/impl.adder", laid_loop_example_dragonnumbers_impl_adder), ("unicode/utf8.first", laid_unicode_utf8_first)], narrowed := true }
def FnExactDigitsTimesUptoSaid : Prop := fnExactDigitsTimesUptoRow.holds Tryd.pinned (OpenSpec.upto fnExactDigitsTimesSpec)

/-- 'laws.FnExactDigitsNegate', WHERE WHAT IT READS IS OF BULK AT MOST 1048576: true; the input reads as it did. -/
def fnExactDigitsNegateUptoRow : OpenClaim := { program := "ytlcafjdinjdllabdoor", sum := "7b1df419969099d06e8e1b375a4298e5786a59839d8b23d38196a1b4a7dc0904", func := "loop.example/dragonnumbers/laws.FnExactDigitsNegate", spec := "fnExactDigitsNegate", inPlace := ["internal/abi.NoEscape", "internal/bytealg.MakeNoZero", "internal/bytealg.IndexByteString", "internal/bytealg.IndexString"], named := ["loop.example/dragonnumbers/impl.adder", "unicode/utf8.first", "unicode/utf8.acceptRanges", "internal/bytealg.MaxLen"], apart := false, laid := [("unicode/utf8.acceptRanges", laid_unicode_utf8_acceptRanges), ("loop.example/dragonnumbers/impl.adder", laid_loop_example_dragonnumbers_impl_adder), ("unicode/utf8.first", laid_unicode_utf8_first)], narrowed := true }
def FnExactDigitsNegateUptoSaid : Prop := fnExactDigitsNegateUptoRow.holds Tryd.pinned (OpenSpec.upto fnExactDigitsNegateSpec)

end Rows
end Go.Proofs.YtlcafjdinjdllabDoor

/-
  NARROWER THAN 'FOR EVERY INPUT', by the rows' own cells (each row's printed sentence says how): FnDigits: laid · FnDigitsOf: laid · FnValue: laid · FnDigitsAdd: laid · FnCarries: laid · FnNegate: laid · FnDigitsTimes: laid · FnNext: laid.
  DERIVED. THE GIVEN ROWS OF THIS SEAT. 8 by the template 'for every input the law returns true; each argument reads behind the call as it read before'; 0 by the template 'total and deterministic' (their statements: YtlcafjdinjdllaaDoorTotals.lean).
  GIVEN WITH THE SEED: the statements are not yours to turn. If you find one false, say at which input.
  Laid BY PROGRAM, IN A SANDBOX (cutbox-rows.mjs): the forced cells as the released guide's own fill.sh prints them over the translation bd34c5e4ff0dbc09… (all of the seat's roots in one cut). By AI agents, Wed Nov 11 2026. No macro, syntax, notation, axiom, sorry.
-/
import Derived.Test.YtlcafjdinjdllaaDoorChecked
import GoSem.PinnedTables
import GoSem.Claim
import GoSem.ClaimJoined
import GoSem.ClaimMapViews
import Derived.JoinedTies
import Derived.KernelRfl
namespace Go.Proofs.YtlcafjdinjdllaaDoor
/- THE CELL 'sum', in the pinned program and in every row, IS THE sha256 OF THE DUMP (.gsa) THAT YtlcafjdinjdllaaDoorProg.lean LOADS. Nothing in Lean hashes anything: it is a label: what it is worth is what the hold of that sum in a sandbox is worth. -/
noncomputable def Tryd.pinned : Pinned := { name := "ytlcafjdinjdllaadoor", sum := "bd34c5e4ff0dbc09b495ef3a9b832e0a9b5790f2d178842c2c5d617658b7bcc3", checked := Tryd.checked }
namespace Rows
def none {H : Type} : Left H := { results := [], args := [] }

/- WHAT THE LISTED PACKAGE-LEVEL VARIABLES READ AS WHEN THE CALL BEGINS. Each datum BY PROGRAM (the guide's laid-datum.mjs) off the statement by which the dump's own 'gosem.cut.vars' lays the variable. In a bare row this is a premise. The card (YtlcafjdinjdllaaDoorCards.lean) ties it to the program's text. -/
def laid_unicode_utf8_acceptRanges {H : Type} : DataW H := .agg [.agg [.lit (.int .u8 128), .lit (.int .u8 191)], .agg [.lit (.int .u8 160), .lit (.int .u8 191)], .agg [.lit (.int .u8 128), .lit (.int .u8 159)], .agg [.lit (.int .u8 144), .lit (.int .u8 191)], .agg [.lit (.int .u8 128), .lit (.int .u8 143)], .agg [.lit (.int .u8 0), .lit (.int .u8 0)], .agg [.lit (.int .u8 0), .lit (.int .u8 0)], .agg [.lit (.int .u8 0), .lit (.int .u8 0)], .agg [.lit (.int .u8 0), .lit (.int .u8 0)], .agg [.lit (.int .u8 0), .lit (.int .u8 0)], .agg [.lit (.int .u8 0), .lit (.int .u8 0)], .agg [.lit (.int .u8 0), .lit (.int .u8 0)], .agg [.lit (.int .u8 0), .lit (.int .u8 0)], .agg [.lit (.int .u8 0), .lit (.int .u8 0)], .agg [.lit (.int .u8 0), .lit (.int .u8 0)], .agg [.lit (.int .u8 0), .lit (.int .u8 0)]]
def laid_loop_example_dragonnumbers_impl_adder {H : Type} : DataW H := .agg [.agg [.agg [.lit (.int .i64 0), .lit (.int .i64 0)], .lit (.string [48, 49, 48]), .agg [.lit (.int .i64 0), .lit (.int .i64 0), .lit (.int .i64 1)]], .agg [.agg [.lit (.int .i64 (-1)), .lit (.int .i64 (-1))], .lit (.string [48, 49, 48]), .agg [.lit (.int .i64 2), .lit (.int .i64 2), .lit (.int .i64 3)]], .agg [.agg [.lit (.int .i64 0), .lit (.int .i64 1)], .lit (.string [49, 48, 49]), .agg [.lit (.int .i64 4), .lit (.int .i64 5), .lit (.int .i64 5)]], .agg [.agg [.lit (.int .i64 (-1)), .lit (.int .i64 0)], .lit (.string [49, 48, 49]), .agg [.lit (.int .i64 6), .lit (.int .i64 0), .lit (.int .i64 0)]], .agg [.agg [.lit (.int .i64 1), .lit (.int .i64 0)], .lit (.string [49, 48, 49]), .agg [.lit (.int .i64 0), .lit (.int .i64 1), .lit (.int .i64 1)]], .agg [.agg [.lit (.int .i64 0), .lit (.int .i64 (-1))], .lit (.string [49, 48, 49]), .agg [.lit (.int .i64 2), .lit (.int .i64 3), .lit (.int .i64 3)]], .agg [.agg [.lit (.int .i64 1), .lit (.int .i64 1)], .lit (.string [48, 49, 48]), .agg [.lit (.int .i64 5), .lit (.int .i64 5), .lit (.int .i64 7)]], .agg [.agg [.lit (.int .i64 (-1)), .lit (.int .i64 (-2))], .lit (.string [49, 48, 49]), .agg [.lit (.int .i64 8), .lit (.int .i64 9), .lit (.int .i64 9)]], .agg [.agg [.lit (.int .i64 0), .lit (.int .i64 2)], .lit (.string [48, 49, 48]), .agg [.lit (.int .i64 10), .lit (.int .i64 10), .lit (.int .i64 11)]], .agg [.agg [.lit (.int .i64 (-1)), .lit (.int .i64 1)], .lit (.string [48, 49, 48]), .agg [.lit (.int .i64 4), .lit (.int .i64 4), .lit (.int .i64 5)]], .agg [.agg [.lit (.int .i64 1), .lit (.int .i64 (-1))], .lit (.string [48, 49, 48]), .agg [.lit (.int .i64 3), .lit (.int .i64 3), .lit (.int .i64 12)]], .agg [.agg [.lit (.int .i64 0), .lit (.int .i64 (-2))], .lit (.string [48, 49, 48]), .agg [.lit (.int .i64 9), .lit (.int .i64 9), .lit (.int .i64 13)]], .agg [.agg [.lit (.int .i64 (-2)), .lit (.int .i64 (-1))], .lit (.string [49, 48, 49]), .agg [.lit (.int .i64 14), .lit (.int .i64 2), .lit (.int .i64 2)]], .agg [.agg [.lit (.int .i64 (-2)), .lit (.int .i64 0)], .lit (.string [48, 49, 48]), .agg [.lit (.int .i64 6), .lit (.int .i64 6), .lit (.int .i64 0)]], .agg [.agg [.lit (.int .i64 1), .lit (.int .i64 2)], .lit (.string [49, 48, 49]), .agg [.lit (.int .i64 10), .lit (.int .i64 11), .lit (.int .i64 11)]]]
/-- One of Go's own tables, pinned by name: the form's constant. -/
def laid_unicode_utf8_first : DataW Unit := Go.Pinned.utf8First
def laid_math_bits_deBruijn32tab {H : Type} : DataW H := .agg [.lit (.int .u8 0), .lit (.int .u8 1), .lit (.int .u8 28), .lit (.int .u8 2), .lit (.int .u8 29), .lit (.int .u8 14), .lit (.int .u8 24), .lit (.int .u8 3), .lit (.int .u8 30), .lit (.int .u8 22), .lit (.int .u8 20), .lit (.int .u8 15), .lit (.int .u8 25), .lit (.int .u8 17), .lit (.int .u8 4), .lit (.int .u8 8), .lit (.int .u8 31), .lit (.int .u8 27), .lit (.int .u8 13), .lit (.int .u8 23), .lit (.int .u8 21), .lit (.int .u8 19), .lit (.int .u8 16), .lit (.int .u8 7), .lit (.int .u8 26), .lit (.int .u8 12), .lit (.int .u8 18), .lit (.int .u8 6), .lit (.int .u8 11), .lit (.int .u8 5), .lit (.int .u8 10), .lit (.int .u8 9)]
def laid_math_bits_deBruijn64tab {H : Type} : DataW H := .agg [.lit (.int .u8 0), .lit (.int .u8 1), .lit (.int .u8 56), .lit (.int .u8 2), .lit (.int .u8 57), .lit (.int .u8 49), .lit (.int .u8 28), .lit (.int .u8 3), .lit (.int .u8 61), .lit (.int .u8 58), .lit (.int .u8 42), .lit (.int .u8 50), .lit (.int .u8 38), .lit (.int .u8 29), .lit (.int .u8 17), .lit (.int .u8 4), .lit (.int .u8 62), .lit (.int .u8 47), .lit (.int .u8 59), .lit (.int .u8 36), .lit (.int .u8 45), .lit (.int .u8 43), .lit (.int .u8 51), .lit (.int .u8 22), .lit (.int .u8 53), .lit (.int .u8 39), .lit (.int .u8 33), .lit (.int .u8 30), .lit (.int .u8 24), .lit (.int .u8 18), .lit (.int .u8 12), .lit (.int .u8 5), .lit (.int .u8 63), .lit (.int .u8 55), .lit (.int .u8 48), .lit (.int .u8 27), .lit (.int .u8 60), .lit (.int .u8 41), .lit (.int .u8 37), .lit (.int .u8 16), .lit (.int .u8 46), .lit (.int .u8 35), .lit (.int .u8 44), .lit (.int .u8 21), .lit (.int .u8 52), .lit (.int .u8 32), .lit (.int .u8 23), .lit (.int .u8 11), .lit (.int .u8 54), .lit (.int .u8 26), .lit (.int .u8 40), .lit (.int .u8 15), .lit (.int .u8 34), .lit (.int .u8 20), .lit (.int .u8 31), .lit (.int .u8 10), .lit (.int .u8 25), .lit (.int .u8 14), .lit (.int .u8 19), .lit (.int .u8 9), .lit (.int .u8 13), .lit (.int .u8 8), .lit (.int .u8 7), .lit (.int .u8 6)]
def laid_internal_strconv_uint64pow10 {H : Type} : DataW H := .agg [.lit (.int .u64 1), .lit (.int .u64 10), .lit (.int .u64 100), .lit (.int .u64 1000), .lit (.int .u64 10000), .lit (.int .u64 100000), .lit (.int .u64 1000000), .lit (.int .u64 10000000), .lit (.int .u64 100000000), .lit (.int .u64 1000000000), .lit (.int .u64 10000000000), .lit (.int .u64 100000000000), .lit (.int .u64 1000000000000), .lit (.int .u64 10000000000000), .lit (.int .u64 100000000000000), .lit (.int .u64 1000000000000000), .lit (.int .u64 10000000000000000), .lit (.int .u64 100000000000000000), .lit (.int .u64 1000000000000000000), .lit (.int .u64 10000000000000000000)]

/-- 'laws.FnDigits': WHATEVER THE INPUT: true; the input reads as it did. -/
def fnDigitsSpec : ChangeSpec := { name := "fnDigits", vars := ["loop.example/dragonnumbers/impl.adder"], fn := fun _ => fun
  | [d, g1] => { results := [.lit (.bool true)], args := [d], vars := [g1] }
  | _ => none }
def fnDigitsRow : OpenClaim := { program := "ytlcafjdinjdllaadoor", sum := "bd34c5e4ff0dbc09b495ef3a9b832e0a9b5790f2d178842c2c5d617658b7bcc3", func := "loop.example/dragonnumbers/laws.FnDigits", spec := "fnDigits", inPlace := ["internal/bytealg.IndexByteString", "internal/bytealg.IndexString", "internal/abi.NoEscape", "internal/bytealg.MakeNoZero"], named := ["loop.example/dragonnumbers/impl.adder", "unicode/utf8.first", "unicode/utf8.acceptRanges", "internal/bytealg.MaxLen"], apart := false, laid := [("unicode/utf8.acceptRanges", laid_unicode_utf8_acceptRanges), ("loop.example/dragonnumbers/impl.adder", laid_loop_example_dragonnumbers_impl_adder), ("unicode/utf8.first", laid_unicode_utf8_first)] }
def FnDigitsSaid : Prop := fnDigitsRow.holds Tryd.pinned (OpenSpec.ofChange fnDigitsSpec)

/-- ITS FALSE NEIGHBOUR: 'it returns false'. Refute it at one input. -/
def fnDigitsWrong : ChangeSpec := { name := "fnDigits", vars := ["loop.example/dragonnumbers/impl.adder"], fn := fun _ => fun
  | [d, g1] => { results := [.lit (.bool false)], args := [d], vars := [g1] }
  | _ => none }
def FnDigitsWrongFalsely : Prop := fnDigitsRow.holds Tryd.pinned (OpenSpec.ofChange fnDigitsWrong)

/-- 'laws.FnDigitsOf': WHATEVER THE INPUT: true; the input reads as it did. -/
def fnDigitsOfSpec : ChangeSpec := { name := "fnDigitsOf", fn := fun _ => fun
  | [d] => { results := [.lit (.bool true)], args := [d] }
  | _ => none }
def fnDigitsOfRow : OpenClaim := { program := "ytlcafjdinjdllaadoor", sum := "bd34c5e4ff0dbc09b495ef3a9b832e0a9b5790f2d178842c2c5d617658b7bcc3", func := "loop.example/dragonnumbers/laws.FnDigitsOf", spec := "fnDigitsOf", inPlace := ["internal/bytealg.IndexByteString", "internal/bytealg.IndexString"], named := ["unicode/utf8.first", "unicode/utf8.acceptRanges", "internal/bytealg.MaxLen"], apart := false, laid := [("unicode/utf8.acceptRanges", laid_unicode_utf8_acceptRanges), ("unicode/utf8.first", laid_unicode_utf8_first)] }
def FnDigitsOfSaid : Prop := fnDigitsOfRow.holds Tryd.pinned (OpenSpec.ofChange fnDigitsOfSpec)

/-- ITS FALSE NEIGHBOUR: 'it returns false'. Refute it at one input. -/
def fnDigitsOfWrong : ChangeSpec := { name := "fnDigitsOf", fn := fun _ => fun
  | [d] => { results := [.lit (.bool false)], args := [d] }
  | _ => none }
def FnDigitsOfWrongFalsely : Prop := fnDigitsOfRow.holds Tryd.pinned (OpenSpec.ofChange fnDigitsOfWrong)

/-- 'laws.FnValue': WHATEVER THE INPUT: true; the input reads as it did. -/
def fnValueSpec : ChangeSpec := { name := "fnValue", fn := fun _ => fun
  | [d] => { results := [.lit (.bool true)], args := [d] }
  | _ => none }
def fnValueRow : OpenClaim := { program := "ytlcafjdinjdllaadoor", sum := "bd34c5e4ff0dbc09b495ef3a9b832e0a9b5790f2d178842c2c5d617658b7bcc3", func := "loop.example/dragonnumbers/laws.FnValue", spec := "fnValue", inPlace := ["internal/bytealg.IndexByteString", "internal/bytealg.IndexString"], named := ["unicode/utf8.first", "unicode/utf8.acceptRanges", "internal/bytealg.MaxLen"], apart := false, laid := [("unicode/utf8.acceptRanges", laid_unicode_utf8_acceptRanges), ("unicode/utf8.first", laid_unicode_utf8_first)] }
def FnValueSaid : Prop := fnValueRow.holds Tryd.pinned (OpenSpec.ofChange fnValueSpec)

/-- ITS FALSE NEIGHBOUR: 'it returns false'. Refute it at one input. -/
def fnValueWrong : ChangeSpec := { name := "fnValue", fn := fun _ => fun
  | [d] => { results := [.lit (.bool false)], args := [d] }
  | _ => none }
def FnValueWrongFalsely : Prop := fnValueRow.holds Tryd.pinned (OpenSpec.ofChange fnValueWrong)

/-- 'laws.FnDigitsAdd': WHATEVER THE INPUT: true; the input reads as it did. -/
def fnDigitsAddSpec : ChangeSpec := { name := "fnDigitsAdd", vars := ["loop.example/dragonnumbers/impl.adder"], fn := fun _ => fun
  | [d, g1] => { results := [.lit (.bool true)], args := [d], vars := [g1] }
  | _ => none }
def fnDigitsAddRow : OpenClaim := { program := "ytlcafjdinjdllaadoor", sum := "bd34c5e4ff0dbc09b495ef3a9b832e0a9b5790f2d178842c2c5d617658b7bcc3", func := "loop.example/dragonnumbers/laws.FnDigitsAdd", spec := "fnDigitsAdd", inPlace := ["internal/bytealg.IndexByteString", "internal/bytealg.IndexString"], named := ["loop.example/dragonnumbers/impl.adder", "unicode/utf8.first", "unicode/utf8.acceptRanges", "internal/bytealg.MaxLen"], apart := false, laid := [("unicode/utf8.acceptRanges", laid_unicode_utf8_acceptRanges), ("loop.example/dragonnumbers/impl.adder", laid_loop_example_dragonnumbers_impl_adder), ("unicode/utf8.first", laid_unicode_utf8_first)] }
def FnDigitsAddSaid : Prop := fnDigitsAddRow.holds Tryd.pinned (OpenSpec.ofChange fnDigitsAddSpec)

/-- ITS FALSE NEIGHBOUR: 'it returns false'. Refute it at one input. -/
def fnDigitsAddWrong : ChangeSpec := { name := "fnDigitsAdd", vars := ["loop.example/dragonnumbers/impl.adder"], fn := fun _ => fun
  | [d, g1] => { results := [.lit (.bool false)], args := [d], vars := [g1] }
  | _ => none }
def FnDigitsAddWrongFalsely : Prop := fnDigitsAddRow.holds Tryd.pinned (OpenSpec.ofChange fnDigitsAddWrong)

/-- 'laws.FnCarries': WHATEVER THE INPUT: true; the input reads as it did. -/
def fnCarriesSpec : ChangeSpec := { name := "fnCarries", vars := ["loop.example/dragonnumbers/impl.adder"], fn := fun _ => fun
  | [d, g1] => { results := [.lit (.bool true)], args := [d], vars := [g1] }
  | _ => none }
def fnCarriesRow : OpenClaim := { program := "ytlcafjdinjdllaadoor", sum := "bd34c5e4ff0dbc09b495ef3a9b832e0a9b5790f2d178842c2c5d617658b7bcc3", func := "loop.example/dragonnumbers/laws.FnCarries", spec := "fnCarries", inPlace := ["internal/bytealg.IndexByteString", "internal/bytealg.IndexString"], named := ["loop.example/dragonnumbers/impl.adder", "unicode/utf8.first", "unicode/utf8.acceptRanges", "internal/bytealg.MaxLen"], apart := false, laid := [("unicode/utf8.acceptRanges", laid_unicode_utf8_acceptRanges), ("loop.example/dragonnumbers/impl.adder", laid_loop_example_dragonnumbers_impl_adder), ("unicode/utf8.first", laid_unicode_utf8_first)] }
def FnCarriesSaid : Prop := fnCarriesRow.holds Tryd.pinned (OpenSpec.ofChange fnCarriesSpec)

/-- ITS FALSE NEIGHBOUR: 'it returns false'. Refute it at one input. -/
def fnCarriesWrong : ChangeSpec := { name := "fnCarries", vars := ["loop.example/dragonnumbers/impl.adder"], fn := fun _ => fun
  | [d, g1] => { results := [.lit (.bool false)], args := [d], vars := [g1] }
  | _ => none }
def FnCarriesWrongFalsely : Prop := fnCarriesRow.holds Tryd.pinned (OpenSpec.ofChange fnCarriesWrong)

/-- 'laws.FnNegate': WHATEVER THE INPUT: true; the input reads as it did. -/
def fnNegateSpec : ChangeSpec := { name := "fnNegate", vars := ["loop.example/dragonnumbers/impl.adder"], fn := fun _ => fun
  | [d, g1] => { results := [.lit (.bool true)], args := [d], vars := [g1] }
  | _ => none }
def fnNegateRow : OpenClaim := { program := "ytlcafjdinjdllaadoor", sum := "bd34c5e4ff0dbc09b495ef3a9b832e0a9b5790f2d178842c2c5d617658b7bcc3", func := "loop.example/dragonnumbers/laws.FnNegate", spec := "fnNegate", inPlace := ["internal/abi.NoEscape", "internal/bytealg.MakeNoZero", "internal/bytealg.IndexByteString", "internal/bytealg.IndexString"], named := ["loop.example/dragonnumbers/impl.adder", "unicode/utf8.first", "unicode/utf8.acceptRanges", "internal/bytealg.MaxLen"], apart := false, laid := [("unicode/utf8.acceptRanges", laid_unicode_utf8_acceptRanges), ("loop.example/dragonnumbers/impl.adder", laid_loop_example_dragonnumbers_impl_adder), ("unicode/utf8.first", laid_unicode_utf8_first)] }
def FnNegateSaid : Prop := fnNegateRow.holds Tryd.pinned (OpenSpec.ofChange fnNegateSpec)

/-- ITS FALSE NEIGHBOUR: 'it returns false'. Refute it at one input. -/
def fnNegateWrong : ChangeSpec := { name := "fnNegate", vars := ["loop.example/dragonnumbers/impl.adder"], fn := fun _ => fun
  | [d, g1] => { results := [.lit (.bool false)], args := [d], vars := [g1] }
  | _ => none }
def FnNegateWrongFalsely : Prop := fnNegateRow.holds Tryd.pinned (OpenSpec.ofChange fnNegateWrong)

/-- 'laws.FnDigitsTimes': WHATEVER THE INPUT: true; the input reads as it did. -/
def fnDigitsTimesSpec : ChangeSpec := { name := "fnDigitsTimes", vars := ["loop.example/dragonnumbers/impl.adder"], fn := fun _ => fun
  | [d, g1] => { results := [.lit (.bool true)], args := [d], vars := [g1] }
  | _ => none }
def fnDigitsTimesRow : OpenClaim := { program := "ytlcafjdinjdllaadoor", sum := "bd34c5e4ff0dbc09b495ef3a9b832e0a9b5790f2d178842c2c5d617658b7bcc3", func := "loop.example/dragonnumbers/laws.FnDigitsTimes", spec := "fnDigitsTimes", inPlace := ["internal/abi.NoEscape", "internal/bytealg.MakeNoZero", "internal/bytealg.IndexByteString", "internal/bytealg.IndexString"], named := ["loop.example/dragonnumbers/impl.adder", "unicode/utf8.first", "unicode/utf8.acceptRanges", "internal/bytealg.MaxLen"], apart := false, laid := [("unicode/utf8.acceptRanges", laid_unicode_utf8_acceptRanges), ("loop.example/dragonnumbers/impl.adder", laid_loop_example_dragonnumbers_impl_adder), ("unicode/utf8.first", laid_unicode_utf8_first)] }
def FnDigitsTimesSaid : Prop := fnDigitsTimesRow.holds Tryd.pinned (OpenSpec.ofChange fnDigitsTimesSpec)

/-- ITS FALSE NEIGHBOUR: 'it returns false'. Refute it at one input. -/
def fnDigitsTimesWrong : ChangeSpec := { name := "fnDigitsTimes", vars := ["loop.example/dragonnumbers/impl.adder"], fn := fun _ => fun
  | [d, g1] => { results := [.lit (.bool false)], args := [d], vars := [g1] }
  | _ => none }
def FnDigitsTimesWrongFalsely : Prop := fnDigitsTimesRow.holds Tryd.pinned (OpenSpec.ofChange fnDigitsTimesWrong)

/-- 'laws.FnNext': WHATEVER THE INPUT: true; the input reads as it did. -/
def fnNextSpec : ChangeSpec := { name := "fnNext", fn := fun _ => fun
  | [d] => { results := [.lit (.bool true)], args := [d] }
  | _ => none }
def fnNextRow : OpenClaim := { program := "ytlcafjdinjdllaadoor", sum := "bd34c5e4ff0dbc09b495ef3a9b832e0a9b5790f2d178842c2c5d617658b7bcc3", func := "loop.example/dragonnumbers/laws.FnNext", spec := "fnNext", named := ["internal/strconv.uint64pow10", "math/bits.deBruijn32tab", "math/bits.deBruijn64tab"], apart := false, laid := [("math/bits.deBruijn32tab", laid_math_bits_deBruijn32tab), ("math/bits.deBruijn64tab", laid_math_bits_deBruijn64tab), ("internal/strconv.uint64pow10", laid_internal_strconv_uint64pow10)] }
def FnNextSaid : Prop := fnNextRow.holds Tryd.pinned (OpenSpec.ofChange fnNextSpec)

/-- ITS FALSE NEIGHBOUR: 'it returns false'. Refute it at one input. -/
def fnNextWrong : ChangeSpec := { name := "fnNext", fn := fun _ => fun
  | [d] => { results := [.lit (.bool false)], args := [d] }
  | _ => none }
def FnNextWrongFalsely : Prop := fnNextRow.holds Tryd.pinned (OpenSpec.ofChange fnNextWrong)

/- THE SECOND FORM. 'bulk': how many values and letters a reading holds, each counted each time it is reached (what is shared counts as often as it is met; a slice's spare places count too). A statement '..UptoSaid' is the law's where the arguments, and the package variables that the reading takes, are together of bulk at most 1048576: NARROWER than '..Said'. Prove '..Said' where nothing that the law and all that it calls make is longer than what came in: it says more and counts as full. Else prove '..UptoSaid'. A law counts once. -/
mutual
def uptoBulk {H : Type} : DataW H → Nat
  | .lit (.string bytes) => bytes.length + 1
  | .lit _ => 1
  | .nil => 1
  | .ptr d => uptoBulk d + 1
  | .slice elems spare => uptoBulkAll elems + uptoBulkAll spare + 1
  | .agg parts => uptoBulkAll parts + 1
  | .iface _ d => uptoBulk d + 1
  | .map entries => uptoBulkEntries entries + 1
  | .held _ => 1
def uptoBulkAll {H : Type} : List (DataW H) → Nat
  | [] => 0
  | d :: r => uptoBulk d + uptoBulkAll r
def uptoBulkEntries {H : Type} : List (Lit × DataW H) → Nat
  | [] => 0
  | x :: r => uptoBulkEntry x + uptoBulkEntries r
def uptoBulkEntry {H : Type} : Lit × DataW H → Nat
  | (.string bytes, d) => bytes.length + uptoBulk d + 1
  | (_, d) => uptoBulk d + 1
 end
def uptoSmall : (H : Type) → List (DataW H) → Bool := fun _ ds => decide (uptoBulkAll ds ≤ 1048576)
def OpenSpec.upto (s : _root_.Go.ChangeSpec) : _root_.Go.OpenSpec := { _root_.Go.OpenSpec.ofChange s with cond := some uptoSmall }

/-- 'laws.FnDigits', WHERE WHAT IT READS IS OF BULK AT MOST 1048576: true; the input reads as it did. -/
def fnDigitsUptoRow : OpenClaim := { program := "ytlcafjdinjdllaadoor", sum := "bd34c5e4ff0dbc09b495ef3a9b832e0a9b5790f2d178842c2c5d617658b7bcc3", func := "loop.example/dragonnumbers/laws.FnDigits", spec := "fnDigits", inPlace := ["internal/bytealg.IndexByteString", "internal/bytealg.IndexString", "internal/abi.NoEscape", "internal/bytealg.MakeNoZero"], named := ["loop.example/dragonnumbers/impl.adder", "unicode/utf8.first", "unicode/utf8.acceptRanges", "internal/bytealg.MaxLen"], apart := false, laid := [("unicode/utf8.acceptRanges", laid_unicode_utf8_acceptRanges), ("loop.example/dragonnumbers/impl.adder", laid_loop_example_dragonnumbers_impl_adder), ("unicode/utf8.first", laid_unicode_utf8_first)], narrowed := true }
def FnDigitsUptoSaid : Prop := fnDigitsUptoRow.holds Tryd.pinned (OpenSpec.upto fnDigitsSpec)

/-- 'laws.FnDigitsOf', WHERE WHAT IT READS IS OF BULK AT MOST 1048576: true; the input reads as it did. -/
def fnDigitsOfUptoRow : OpenClaim := { program := "ytlcafjdinjdllaadoor", sum := "bd34c5e4ff0dbc09b495ef3a9b832e0a9b5790f2d178842c2c5d617658b7bcc3", func := "loop.example/dragonnumbers/laws.FnDigitsOf", spec := "fnDigitsOf", inPlace := ["internal/bytealg.IndexByteString", "internal/bytealg.IndexString"], named := ["unicode/utf8.first", "unicode/utf8.acceptRanges", "internal/bytealg.MaxLen"], apart := false, laid := [("unicode/utf8.acceptRanges", laid_unicode_utf8_acceptRanges), ("unicode/utf8.first", laid_unicode_utf8_first)], narrowed := true }
def FnDigitsOfUptoSaid : Prop := fnDigitsOfUptoRow.holds Tryd.pinned (OpenSpec.upto fnDigitsOfSpec)

/-- 'laws.FnValue', WHERE WHAT IT READS IS OF BULK AT MOST 1048576: true; the input reads as it did. -/
def fnValueUptoRow : OpenClaim := { program := "ytlcafjdinjdllaadoor", sum := "bd34c5e4ff0dbc09b495ef3a9b832e0a9b5790f2d178842c2c5d617658b7bcc3", func := "loop.example/dragonnumbers/laws.FnValue", spec := "fnValue", inPlace := ["internal/bytealg.IndexByteString", "internal/bytealg.IndexString"], named := ["unicode/utf8.first", "unicode/utf8.acceptRanges", "internal/bytealg.MaxLen"], apart := false, laid := [("unicode/utf8.acceptRanges", laid_unicode_utf8_acceptRanges), ("unicode/utf8.first", laid_unicode_utf8_first)], narrowed := true }
def FnValueUptoSaid : Prop := fnValueUptoRow.holds Tryd.pinned (OpenSpec.upto fnValueSpec)

/-- 'laws.FnDigitsAdd', WHERE WHAT IT READS IS OF BULK AT MOST 1048576: true; the input reads as it did. -/
def fnDigitsAddUptoRow : OpenClaim := { program := "ytlcafjdinjdllaadoor", sum := "bd34c5e4ff0dbc09b495ef3a9b832e0a9b5790f2d178842c2c5d617658b7bcc3", func := "loop.example/dragonnumbers/laws.FnDigitsAdd", spec := "fnDigitsAdd", inPlace := ["internal/bytealg.IndexByteString", "internal/bytealg.IndexString"], named := ["loop.example/dragonnumbers/impl.adder", "unicode/utf8.first", "unicode/utf8.acceptRanges", "internal/bytealg.MaxLen"], apart := false, laid := [("unicode/utf8.acceptRanges", laid_unicode_utf8_acceptRanges), ("loop.example/dragonnumbers/impl.adder", laid_loop_example_dragonnumbers_impl_adder), ("unicode/utf8.first", laid_unicode_utf8_first)], narrowed := true }
def FnDigitsAddUptoSaid : Prop := fnDigitsAddUptoRow.holds Tryd.pinned (OpenSpec.upto fnDigitsAddSpec)

/-- 'laws.FnCarries', WHERE WHAT IT READS IS OF BULK AT MOST 1048576: true; the input reads as it did. -/
def fnCarriesUptoRow : OpenClaim := { program := "ytlcafjdinjdllaadoor", sum := "bd34c5e4ff0dbc09b495ef3a9b832e0a9b5790f2d178842c2c5d617658b7bcc3", func := "loop.example/dragonnumbers/laws.FnCarries", spec := "fnCarries", inPlace := ["internal/bytealg.IndexByteString", "internal/bytealg.IndexString"], named := ["loop.example/dragonnumbers/impl.adder", "unicode/utf8.first", "unicode/utf8.acceptRanges", "internal/bytealg.MaxLen"], apart := false, laid := [("unicode/utf8.acceptRanges", laid_unicode_utf8_acceptRanges), ("loop.example/dragonnumbers/impl.adder", laid_loop_example_dragonnumbers_impl_adder), ("unicode/utf8.first", laid_unicode_utf8_first)], narrowed := true }
def FnCarriesUptoSaid : Prop := fnCarriesUptoRow.holds Tryd.pinned (OpenSpec.upto fnCarriesSpec)

/-- 'laws.FnNegate', WHERE WHAT IT READS IS OF BULK AT MOST 1048576: true; the input reads as it did. -/
def fnNegateUptoRow : OpenClaim := { program := "ytlcafjdinjdllaadoor", sum := "bd34c5e4ff0dbc09b495ef3a9b832e0a9b5790f2d178842c2c5d617658b7bcc3", func := "loop.example/dragonnumbers/laws.FnNegate", spec := "fnNegate", inPlace := ["internal/abi.NoEscape", "internal/bytealg.MakeNoZero", "internal/bytealg.IndexByteString", "internal/bytealg.IndexString"], named := ["loop.example/dragonnumbers/impl.adder", "unicode/utf8.first", "unicode/utf8.acceptRanges", "internal/bytealg.MaxLen"], apart := false, laid := [("unicode/utf8.acceptRanges", laid_unicode_utf8_acceptRanges), ("loop.example/dragonnumbers/impl.adder", laid_loop_example_dragonnumbers_impl_adder), ("unicode/utf8.first", laid_unicode_utf8_first)], narrowed := true }
def FnNegateUptoSaid : Prop := fnNegateUptoRow.holds Tryd.pinned (OpenSpec.upto fnNegateSpec)

/-- 'laws.FnDigitsTimes', WHERE WHAT IT READS IS OF BULK AT MOST 1048576: true; the input reads as it did. -/
def fnDigitsTimesUptoRow : OpenClaim := { program := "ytlcafjdinjdllaadoor", sum := "bd34c5e4ff0dbc09b495ef3a9b832e0a9b5790f2d178842c2c5d617658b7bcc3", func := "loop.example/dragonnumbers/laws.FnDigitsTimes", spec := "fnDigitsTimes", inPlace := ["internal/abi.NoEscape", "internal/bytealg.MakeNoZero", "internal/bytealg.IndexByteString", "internal/bytealg.IndexString"], named := ["loop.example/dragonnumbers/impl.adder", "unicode/utf8.first", "unicode/utf8.acceptRanges", "internal/bytealg.MaxLen"], apart := false, laid := [("unicode/utf8.acceptRanges", laid_unicode_utf8_acceptRanges), ("loop.example/dragonnumbers/impl.adder", laid_loop_example_dragonnumbers_impl_adder), ("unicode/utf8.first", laid_unicode_utf8_first)], narrowed := true }
def FnDigitsTimesUptoSaid : Prop := fnDigitsTimesUptoRow.holds Tryd.pinned (OpenSpec.upto fnDigitsTimesSpec)

/-- 'laws.FnNext', WHERE WHAT IT READS IS OF BULK AT MOST 1048576: true; the input reads as it did. -/
def fnNextUptoRow : OpenClaim := { program := "ytlcafjdinjdllaadoor", sum := "bd34c5e4ff0dbc09b495ef3a9b832e0a9b5790f2d178842c2c5d617658b7bcc3", func := "loop.example/dragonnumbers/laws.FnNext", spec := "fnNext", named := ["internal/strconv.uint64pow10", "math/bits.deBruijn32tab", "math/bits.deBruijn64tab"], apart := false, laid := [("math/bits.deBruijn32tab", laid_math_bits_deBruijn32tab), ("math/bits.deBruijn64tab", laid_math_bits_deBruijn64tab), ("internal/strconv.uint64pow10", laid_internal_strconv_uint64pow10)], narrowed := true }
def FnNextUptoSaid : Prop := fnNextUptoRow.holds Tryd.pinned (OpenSpec.upto fnNextSpec)

end Rows
end Go.Proofs.YtlcafjdinjdllaaDoor

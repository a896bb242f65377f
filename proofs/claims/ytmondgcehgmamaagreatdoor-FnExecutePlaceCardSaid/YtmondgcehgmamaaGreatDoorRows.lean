/-
  NARROWER THAN 'FOR EVERY INPUT', by the rows' own cells (each row's printed sentence says how): FnExecuteNone: laid · FnExecuteWhat: laid · FnExecuteTwice: laid · FnExecuteAdd: laid · FnExecutePlace: laid · FnExecuteEnd: laid · FnExactExecute: laid.
  DERIVED. THE GIVEN ROWS OF THIS SEAT. 7 by the template 'for every input the law returns true; each argument reads behind the call as it read before'; 0 by the template 'total and deterministic' (their statements: YtmondgcehgmamaaGreatDoorTotals.lean).
  GIVEN WITH THE SEED: the statements are not yours to turn. If you find one false, say at which input.
  Laid BY PROGRAM, IN A SANDBOX (cutbox-rows.mjs): the forced cells as the released guide's own fill.sh prints them over the translation c855171e9fd9f992… (all of the seat's roots in one cut). By AI agents, Wed Nov 11 2026. No macro, syntax, notation, axiom, sorry.
-/
import Derived.Test.YtmondgcehgmamaaGreatDoorChecked
import GoSem.PinnedTables
import GoSem.Claim
import GoSem.ClaimJoined
import GoSem.ClaimMapViews
import Derived.JoinedTies
import Derived.KernelRfl
namespace Go.Proofs.YtmondgcehgmamaaGreatDoor
/- THE CELL 'sum', in the pinned program and in every row, IS THE sha256 OF THE DUMP (.gsa) THAT YtmondgcehgmamaaGreatDoorProg.lean LOADS. Nothing in Lean hashes anything: it is a label: what it is worth is what the hold of that sum in a sandbox is worth. -/
noncomputable def Tryz.pinned : Pinned := { name := "ytmondgcehgmamaagreatdoor", sum := "c855171e9fd9f992ec1c26b2d5ffbd36b8f2b6de528a39fe6809ff8d0bab61c7", checked := Tryz.checked }
namespace Rows
def none {H : Type} : Left H := { results := [], args := [] }

/- WHAT THE LISTED PACKAGE-LEVEL VARIABLES READ AS WHEN THE CALL BEGINS. Each datum BY PROGRAM (the guide's laid-datum.mjs) off the statement by which the dump's own 'gosem.cut.vars' lays the variable. In a bare row this is a premise. The card (YtmondgcehgmamaaGreatDoorCards.lean) ties it to the program's text. -/
def laid_math_bits_deBruijn32tab {H : Type} : DataW H := .agg [.lit (.int .u8 0), .lit (.int .u8 1), .lit (.int .u8 28), .lit (.int .u8 2), .lit (.int .u8 29), .lit (.int .u8 14), .lit (.int .u8 24), .lit (.int .u8 3), .lit (.int .u8 30), .lit (.int .u8 22), .lit (.int .u8 20), .lit (.int .u8 15), .lit (.int .u8 25), .lit (.int .u8 17), .lit (.int .u8 4), .lit (.int .u8 8), .lit (.int .u8 31), .lit (.int .u8 27), .lit (.int .u8 13), .lit (.int .u8 23), .lit (.int .u8 21), .lit (.int .u8 19), .lit (.int .u8 16), .lit (.int .u8 7), .lit (.int .u8 26), .lit (.int .u8 12), .lit (.int .u8 18), .lit (.int .u8 6), .lit (.int .u8 11), .lit (.int .u8 5), .lit (.int .u8 10), .lit (.int .u8 9)]
def laid_math_bits_deBruijn64tab {H : Type} : DataW H := .agg [.lit (.int .u8 0), .lit (.int .u8 1), .lit (.int .u8 56), .lit (.int .u8 2), .lit (.int .u8 57), .lit (.int .u8 49), .lit (.int .u8 28), .lit (.int .u8 3), .lit (.int .u8 61), .lit (.int .u8 58), .lit (.int .u8 42), .lit (.int .u8 50), .lit (.int .u8 38), .lit (.int .u8 29), .lit (.int .u8 17), .lit (.int .u8 4), .lit (.int .u8 62), .lit (.int .u8 47), .lit (.int .u8 59), .lit (.int .u8 36), .lit (.int .u8 45), .lit (.int .u8 43), .lit (.int .u8 51), .lit (.int .u8 22), .lit (.int .u8 53), .lit (.int .u8 39), .lit (.int .u8 33), .lit (.int .u8 30), .lit (.int .u8 24), .lit (.int .u8 18), .lit (.int .u8 12), .lit (.int .u8 5), .lit (.int .u8 63), .lit (.int .u8 55), .lit (.int .u8 48), .lit (.int .u8 27), .lit (.int .u8 60), .lit (.int .u8 41), .lit (.int .u8 37), .lit (.int .u8 16), .lit (.int .u8 46), .lit (.int .u8 35), .lit (.int .u8 44), .lit (.int .u8 21), .lit (.int .u8 52), .lit (.int .u8 32), .lit (.int .u8 23), .lit (.int .u8 11), .lit (.int .u8 54), .lit (.int .u8 26), .lit (.int .u8 40), .lit (.int .u8 15), .lit (.int .u8 34), .lit (.int .u8 20), .lit (.int .u8 31), .lit (.int .u8 10), .lit (.int .u8 25), .lit (.int .u8 14), .lit (.int .u8 19), .lit (.int .u8 9), .lit (.int .u8 13), .lit (.int .u8 8), .lit (.int .u8 7), .lit (.int .u8 6)]
def laid_internal_strconv_uint64pow10 {H : Type} : DataW H := .agg [.lit (.int .u64 1), .lit (.int .u64 10), .lit (.int .u64 100), .lit (.int .u64 1000), .lit (.int .u64 10000), .lit (.int .u64 100000), .lit (.int .u64 1000000), .lit (.int .u64 10000000), .lit (.int .u64 100000000), .lit (.int .u64 1000000000), .lit (.int .u64 10000000000), .lit (.int .u64 100000000000), .lit (.int .u64 1000000000000), .lit (.int .u64 10000000000000), .lit (.int .u64 100000000000000), .lit (.int .u64 1000000000000000), .lit (.int .u64 10000000000000000), .lit (.int .u64 100000000000000000), .lit (.int .u64 1000000000000000000), .lit (.int .u64 10000000000000000000)]
def laid_unicode_utf8_acceptRanges {H : Type} : DataW H := .agg [.agg [.lit (.int .u8 128), .lit (.int .u8 191)], .agg [.lit (.int .u8 160), .lit (.int .u8 191)], .agg [.lit (.int .u8 128), .lit (.int .u8 159)], .agg [.lit (.int .u8 144), .lit (.int .u8 191)], .agg [.lit (.int .u8 128), .lit (.int .u8 143)], .agg [.lit (.int .u8 0), .lit (.int .u8 0)], .agg [.lit (.int .u8 0), .lit (.int .u8 0)], .agg [.lit (.int .u8 0), .lit (.int .u8 0)], .agg [.lit (.int .u8 0), .lit (.int .u8 0)], .agg [.lit (.int .u8 0), .lit (.int .u8 0)], .agg [.lit (.int .u8 0), .lit (.int .u8 0)], .agg [.lit (.int .u8 0), .lit (.int .u8 0)], .agg [.lit (.int .u8 0), .lit (.int .u8 0)], .agg [.lit (.int .u8 0), .lit (.int .u8 0)], .agg [.lit (.int .u8 0), .lit (.int .u8 0)], .agg [.lit (.int .u8 0), .lit (.int .u8 0)]]
def laid_strconv_ErrRange {H : Type} : DataW H := .iface "*errors.errorString" (.ptr (.agg [.lit (.string [118, 97, 108, 117, 101, 32, 111, 117, 116, 32, 111, 102, 32, 114, 97, 110, 103, 101])]))
def laid_strconv_ErrSyntax {H : Type} : DataW H := .iface "*errors.errorString" (.ptr (.agg [.lit (.string [105, 110, 118, 97, 108, 105, 100, 32, 115, 121, 110, 116, 97, 120])]))
def laid_loop_example_dragonnumbers_impl_adder {H : Type} : DataW H := .agg [.agg [.agg [.lit (.int .i64 0), .lit (.int .i64 0)], .lit (.string [48, 49, 48]), .agg [.lit (.int .i64 0), .lit (.int .i64 0), .lit (.int .i64 1)]], .agg [.agg [.lit (.int .i64 (-1)), .lit (.int .i64 (-1))], .lit (.string [48, 49, 48]), .agg [.lit (.int .i64 2), .lit (.int .i64 2), .lit (.int .i64 3)]], .agg [.agg [.lit (.int .i64 0), .lit (.int .i64 1)], .lit (.string [49, 48, 49]), .agg [.lit (.int .i64 4), .lit (.int .i64 5), .lit (.int .i64 5)]], .agg [.agg [.lit (.int .i64 (-1)), .lit (.int .i64 0)], .lit (.string [49, 48, 49]), .agg [.lit (.int .i64 6), .lit (.int .i64 0), .lit (.int .i64 0)]], .agg [.agg [.lit (.int .i64 1), .lit (.int .i64 0)], .lit (.string [49, 48, 49]), .agg [.lit (.int .i64 0), .lit (.int .i64 1), .lit (.int .i64 1)]], .agg [.agg [.lit (.int .i64 0), .lit (.int .i64 (-1))], .lit (.string [49, 48, 49]), .agg [.lit (.int .i64 2), .lit (.int .i64 3), .lit (.int .i64 3)]], .agg [.agg [.lit (.int .i64 1), .lit (.int .i64 1)], .lit (.string [48, 49, 48]), .agg [.lit (.int .i64 5), .lit (.int .i64 5), .lit (.int .i64 7)]], .agg [.agg [.lit (.int .i64 (-1)), .lit (.int .i64 (-2))], .lit (.string [49, 48, 49]), .agg [.lit (.int .i64 8), .lit (.int .i64 9), .lit (.int .i64 9)]], .agg [.agg [.lit (.int .i64 0), .lit (.int .i64 2)], .lit (.string [48, 49, 48]), .agg [.lit (.int .i64 10), .lit (.int .i64 10), .lit (.int .i64 11)]], .agg [.agg [.lit (.int .i64 (-1)), .lit (.int .i64 1)], .lit (.string [48, 49, 48]), .agg [.lit (.int .i64 4), .lit (.int .i64 4), .lit (.int .i64 5)]], .agg [.agg [.lit (.int .i64 1), .lit (.int .i64 (-1))], .lit (.string [48, 49, 48]), .agg [.lit (.int .i64 3), .lit (.int .i64 3), .lit (.int .i64 12)]], .agg [.agg [.lit (.int .i64 0), .lit (.int .i64 (-2))], .lit (.string [48, 49, 48]), .agg [.lit (.int .i64 9), .lit (.int .i64 9), .lit (.int .i64 13)]], .agg [.agg [.lit (.int .i64 (-2)), .lit (.int .i64 (-1))], .lit (.string [49, 48, 49]), .agg [.lit (.int .i64 14), .lit (.int .i64 2), .lit (.int .i64 2)]], .agg [.agg [.lit (.int .i64 (-2)), .lit (.int .i64 0)], .lit (.string [48, 49, 48]), .agg [.lit (.int .i64 6), .lit (.int .i64 6), .lit (.int .i64 0)]], .agg [.agg [.lit (.int .i64 1), .lit (.int .i64 2)], .lit (.string [49, 48, 49]), .agg [.lit (.int .i64 10), .lit (.int .i64 11), .lit (.int .i64 11)]]]
/-- One of Go's own tables, pinned by name: the form's constant. -/
def laid_unicode_utf8_first : DataW Unit := Go.Pinned.utf8First

/-- 'laws.FnExecuteNone': WHATEVER THE INPUT: true; the input reads as it did. -/
def fnExecuteNoneSpec : ChangeSpec := { name := "fnExecuteNone", vars := ["loop.example/dragonnumbers/impl.adder"], fn := fun _ => fun
  | [d, g1] => { results := [.lit (.bool true)], args := [d], vars := [g1] }
  | _ => none }
def fnExecuteNoneRow : OpenClaim := { program := "ytmondgcehgmamaagreatdoor", sum := "c855171e9fd9f992ec1c26b2d5ffbd36b8f2b6de528a39fe6809ff8d0bab61c7", func := "loop.example/dragonnumbers/laws.FnExecuteNone", spec := "fnExecuteNone", inPlace := ["internal/bytealg.CountString", "internal/bytealg.IndexByteString", "internal/bytealg.IndexString", "internal/abi.NoEscape", "internal/bytealg.MakeNoZero", "math.Float32bits"], unfollowed := true, recurses := true, named := ["unicode/utf8.first", "unicode/utf8.acceptRanges", "internal/bytealg.MaxLen", "loop.example/dragonnumbers/impl.adder", "strconv.ErrSyntax", "strconv.ErrRange", "internal/strconv.uint64pow10", "math/bits.deBruijn32tab", "math/bits.deBruijn64tab"], apart := false, laid := [("math/bits.deBruijn32tab", laid_math_bits_deBruijn32tab), ("math/bits.deBruijn64tab", laid_math_bits_deBruijn64tab), ("internal/strconv.uint64pow10", laid_internal_strconv_uint64pow10), ("unicode/utf8.acceptRanges", laid_unicode_utf8_acceptRanges), ("strconv.ErrRange", laid_strconv_ErrRange), ("strconv.ErrSyntax", laid_strconv_ErrSyntax), ("loop.example/dragonnumbers/impl.adder", laid_loop_example_dragonnumbers_impl_adder), ("unicode/utf8.first", laid_unicode_utf8_first)] }
def FnExecuteNoneSaid : Prop := fnExecuteNoneRow.holds Tryz.pinned (OpenSpec.ofChange fnExecuteNoneSpec)

/-- ITS FALSE NEIGHBOUR: 'it returns false'. Refute it at one input. -/
def fnExecuteNoneWrong : ChangeSpec := { name := "fnExecuteNone", vars := ["loop.example/dragonnumbers/impl.adder"], fn := fun _ => fun
  | [d, g1] => { results := [.lit (.bool false)], args := [d], vars := [g1] }
  | _ => none }
def FnExecuteNoneWrongFalsely : Prop := fnExecuteNoneRow.holds Tryz.pinned (OpenSpec.ofChange fnExecuteNoneWrong)

/-- 'laws.FnExecuteWhat': WHATEVER THE INPUT: true; the input reads as it did. -/
def fnExecuteWhatSpec : ChangeSpec := { name := "fnExecuteWhat", vars := ["loop.example/dragonnumbers/impl.adder"], fn := fun _ => fun
  | [d, g1] => { results := [.lit (.bool true)], args := [d], vars := [g1] }
  | _ => none }
def fnExecuteWhatRow : OpenClaim := { program := "ytmondgcehgmamaagreatdoor", sum := "c855171e9fd9f992ec1c26b2d5ffbd36b8f2b6de528a39fe6809ff8d0bab61c7", func := "loop.example/dragonnumbers/laws.FnExecuteWhat", spec := "fnExecuteWhat", inPlace := ["internal/bytealg.CountString", "internal/bytealg.IndexByteString", "internal/bytealg.IndexString", "internal/abi.NoEscape", "internal/bytealg.MakeNoZero", "math.Float32bits"], unfollowed := true, recurses := true, named := ["unicode/utf8.first", "unicode/utf8.acceptRanges", "internal/bytealg.MaxLen", "loop.example/dragonnumbers/impl.adder", "strconv.ErrSyntax", "strconv.ErrRange", "internal/strconv.uint64pow10", "math/bits.deBruijn32tab", "math/bits.deBruijn64tab"], apart := false, laid := [("math/bits.deBruijn32tab", laid_math_bits_deBruijn32tab), ("math/bits.deBruijn64tab", laid_math_bits_deBruijn64tab), ("internal/strconv.uint64pow10", laid_internal_strconv_uint64pow10), ("unicode/utf8.acceptRanges", laid_unicode_utf8_acceptRanges), ("strconv.ErrRange", laid_strconv_ErrRange), ("strconv.ErrSyntax", laid_strconv_ErrSyntax), ("loop.example/dragonnumbers/impl.adder", laid_loop_example_dragonnumbers_impl_adder), ("unicode/utf8.first", laid_unicode_utf8_first)] }
def FnExecuteWhatSaid : Prop := fnExecuteWhatRow.holds Tryz.pinned (OpenSpec.ofChange fnExecuteWhatSpec)

/-- ITS FALSE NEIGHBOUR: 'it returns false'. Refute it at one input. -/
def fnExecuteWhatWrong : ChangeSpec := { name := "fnExecuteWhat", vars := ["loop.example/dragonnumbers/impl.adder"], fn := fun _ => fun
  | [d, g1] => { results := [.lit (.bool false)], args := [d], vars := [g1] }
  | _ => none }
def FnExecuteWhatWrongFalsely : Prop := fnExecuteWhatRow.holds Tryz.pinned (OpenSpec.ofChange fnExecuteWhatWrong)

/-- 'laws.FnExecuteTwice': WHATEVER THE INPUT: true; the input reads as it did. -/
def fnExecuteTwiceSpec : ChangeSpec := { name := "fnExecuteTwice", vars := ["loop.example/dragonnumbers/impl.adder"], fn := fun _ => fun
  | [d, g1] => { results := [.lit (.bool true)], args := [d], vars := [g1] }
  | _ => none }
def fnExecuteTwiceRow : OpenClaim := { program := "ytmondgcehgmamaagreatdoor", sum := "c855171e9fd9f992ec1c26b2d5ffbd36b8f2b6de528a39fe6809ff8d0bab61c7", func := "loop.example/dragonnumbers/laws.FnExecuteTwice", spec := "fnExecuteTwice", inPlace := ["internal/bytealg.CountString", "internal/bytealg.IndexByteString", "internal/bytealg.IndexString", "internal/abi.NoEscape", "internal/bytealg.MakeNoZero", "math.Float32bits"], unfollowed := true, recurses := true, named := ["unicode/utf8.first", "unicode/utf8.acceptRanges", "internal/bytealg.MaxLen", "loop.example/dragonnumbers/impl.adder", "strconv.ErrSyntax", "strconv.ErrRange", "internal/strconv.uint64pow10", "math/bits.deBruijn32tab", "math/bits.deBruijn64tab"], apart := false, laid := [("math/bits.deBruijn32tab", laid_math_bits_deBruijn32tab), ("math/bits.deBruijn64tab", laid_math_bits_deBruijn64tab), ("internal/strconv.uint64pow10", laid_internal_strconv_uint64pow10), ("unicode/utf8.acceptRanges", laid_unicode_utf8_acceptRanges), ("strconv.ErrRange", laid_strconv_ErrRange), ("strconv.ErrSyntax", laid_strconv_ErrSyntax), ("loop.example/dragonnumbers/impl.adder", laid_loop_example_dragonnumbers_impl_adder), ("unicode/utf8.first", laid_unicode_utf8_first)] }
def FnExecuteTwiceSaid : Prop := fnExecuteTwiceRow.holds Tryz.pinned (OpenSpec.ofChange fnExecuteTwiceSpec)

/-- ITS FALSE NEIGHBOUR: 'it returns false'. Refute it at one input. -/
def fnExecuteTwiceWrong : ChangeSpec := { name := "fnExecuteTwice", vars := ["loop.example/dragonnumbers/impl.adder"], fn := fun _ => fun
  | [d, g1] => { results := [.lit (.bool false)], args := [d], vars := [g1] }
  | _ => none }
def FnExecuteTwiceWrongFalsely : Prop := fnExecuteTwiceRow.holds Tryz.pinned (OpenSpec.ofChange fnExecuteTwiceWrong)

/-- 'laws.FnExecuteAdd': WHATEVER THE INPUT: true; the input reads as it did. -/
def fnExecuteAddSpec : ChangeSpec := { name := "fnExecuteAdd", vars := ["loop.example/dragonnumbers/impl.adder"], fn := fun _ => fun
  | [d, g1] => { results := [.lit (.bool true)], args := [d], vars := [g1] }
  | _ => none }
def fnExecuteAddRow : OpenClaim := { program := "ytmondgcehgmamaagreatdoor", sum := "c855171e9fd9f992ec1c26b2d5ffbd36b8f2b6de528a39fe6809ff8d0bab61c7", func := "loop.example/dragonnumbers/laws.FnExecuteAdd", spec := "fnExecuteAdd", inPlace := ["internal/bytealg.IndexByteString", "internal/bytealg.IndexString", "internal/bytealg.CountString", "internal/abi.NoEscape", "internal/bytealg.MakeNoZero", "math.Float32bits"], unfollowed := true, recurses := true, named := ["loop.example/dragonnumbers/impl.adder", "unicode/utf8.first", "unicode/utf8.acceptRanges", "internal/bytealg.MaxLen", "strconv.ErrSyntax", "strconv.ErrRange", "internal/strconv.uint64pow10", "math/bits.deBruijn32tab", "math/bits.deBruijn64tab"], apart := false, laid := [("math/bits.deBruijn32tab", laid_math_bits_deBruijn32tab), ("math/bits.deBruijn64tab", laid_math_bits_deBruijn64tab), ("internal/strconv.uint64pow10", laid_internal_strconv_uint64pow10), ("unicode/utf8.acceptRanges", laid_unicode_utf8_acceptRanges), ("strconv.ErrRange", laid_strconv_ErrRange), ("strconv.ErrSyntax", laid_strconv_ErrSyntax), ("loop.example/dragonnumbers/impl.adder", laid_loop_example_dragonnumbers_impl_adder), ("unicode/utf8.first", laid_unicode_utf8_first)] }
def FnExecuteAddSaid : Prop := fnExecuteAddRow.holds Tryz.pinned (OpenSpec.ofChange fnExecuteAddSpec)

/-- ITS FALSE NEIGHBOUR: 'it returns false'. Refute it at one input. -/
def fnExecuteAddWrong : ChangeSpec := { name := "fnExecuteAdd", vars := ["loop.example/dragonnumbers/impl.adder"], fn := fun _ => fun
  | [d, g1] => { results := [.lit (.bool false)], args := [d], vars := [g1] }
  | _ => none }
def FnExecuteAddWrongFalsely : Prop := fnExecuteAddRow.holds Tryz.pinned (OpenSpec.ofChange fnExecuteAddWrong)

/-- 'laws.FnExecutePlace': WHATEVER THE INPUT: true; the input reads as it did. -/
def fnExecutePlaceSpec : ChangeSpec := { name := "fnExecutePlace", vars := ["loop.example/dragonnumbers/impl.adder"], fn := fun _ => fun
  | [d, g1] => { results := [.lit (.bool true)], args := [d], vars := [g1] }
  | _ => none }
def fnExecutePlaceRow : OpenClaim := { program := "ytmondgcehgmamaagreatdoor", sum := "c855171e9fd9f992ec1c26b2d5ffbd36b8f2b6de528a39fe6809ff8d0bab61c7", func := "loop.example/dragonnumbers/laws.FnExecutePlace", spec := "fnExecutePlace", inPlace := ["internal/bytealg.CountString", "internal/bytealg.IndexByteString", "internal/bytealg.IndexString", "internal/abi.NoEscape", "internal/bytealg.MakeNoZero", "math.Float32bits"], unfollowed := true, recurses := true, named := ["unicode/utf8.first", "unicode/utf8.acceptRanges", "internal/bytealg.MaxLen", "loop.example/dragonnumbers/impl.adder", "strconv.ErrSyntax", "strconv.ErrRange", "internal/strconv.uint64pow10", "math/bits.deBruijn32tab", "math/bits.deBruijn64tab"], apart := false, laid := [("math/bits.deBruijn32tab", laid_math_bits_deBruijn32tab), ("math/bits.deBruijn64tab", laid_math_bits_deBruijn64tab), ("internal/strconv.uint64pow10", laid_internal_strconv_uint64pow10), ("unicode/utf8.acceptRanges", laid_unicode_utf8_acceptRanges), ("strconv.ErrRange", laid_strconv_ErrRange), ("strconv.ErrSyntax", laid_strconv_ErrSyntax), ("loop.example/dragonnumbers/impl.adder", laid_loop_example_dragonnumbers_impl_adder), ("unicode/utf8.first", laid_unicode_utf8_first)] }
def FnExecutePlaceSaid : Prop := fnExecutePlaceRow.holds Tryz.pinned (OpenSpec.ofChange fnExecutePlaceSpec)

/-- ITS FALSE NEIGHBOUR: 'it returns false'. Refute it at one input. -/
def fnExecutePlaceWrong : ChangeSpec := { name := "fnExecutePlace", vars := ["loop.example/dragonnumbers/impl.adder"], fn := fun _ => fun
  | [d, g1] => { results := [.lit (.bool false)], args := [d], vars := [g1] }
  | _ => none }
def FnExecutePlaceWrongFalsely : Prop := fnExecutePlaceRow.holds Tryz.pinned (OpenSpec.ofChange fnExecutePlaceWrong)

/-- 'laws.FnExecuteEnd': WHATEVER THE INPUT: true; the input reads as it did. -/
def fnExecuteEndSpec : ChangeSpec := { name := "fnExecuteEnd", vars := ["loop.example/dragonnumbers/impl.adder"], fn := fun _ => fun
  | [d, g1] => { results := [.lit (.bool true)], args := [d], vars := [g1] }
  | _ => none }
def fnExecuteEndRow : OpenClaim := { program := "ytmondgcehgmamaagreatdoor", sum := "c855171e9fd9f992ec1c26b2d5ffbd36b8f2b6de528a39fe6809ff8d0bab61c7", func := "loop.example/dragonnumbers/laws.FnExecuteEnd", spec := "fnExecuteEnd", inPlace := ["internal/bytealg.CountString", "internal/bytealg.IndexByteString", "internal/bytealg.IndexString", "internal/abi.NoEscape", "internal/bytealg.MakeNoZero", "math.Float32bits"], unfollowed := true, recurses := true, named := ["unicode/utf8.first", "unicode/utf8.acceptRanges", "internal/bytealg.MaxLen", "loop.example/dragonnumbers/impl.adder", "strconv.ErrSyntax", "strconv.ErrRange", "internal/strconv.uint64pow10", "math/bits.deBruijn32tab", "math/bits.deBruijn64tab"], apart := false, laid := [("math/bits.deBruijn32tab", laid_math_bits_deBruijn32tab), ("math/bits.deBruijn64tab", laid_math_bits_deBruijn64tab), ("internal/strconv.uint64pow10", laid_internal_strconv_uint64pow10), ("unicode/utf8.acceptRanges", laid_unicode_utf8_acceptRanges), ("strconv.ErrRange", laid_strconv_ErrRange), ("strconv.ErrSyntax", laid_strconv_ErrSyntax), ("loop.example/dragonnumbers/impl.adder", laid_loop_example_dragonnumbers_impl_adder), ("unicode/utf8.first", laid_unicode_utf8_first)] }
def FnExecuteEndSaid : Prop := fnExecuteEndRow.holds Tryz.pinned (OpenSpec.ofChange fnExecuteEndSpec)

/-- ITS FALSE NEIGHBOUR: 'it returns false'. Refute it at one input. -/
def fnExecuteEndWrong : ChangeSpec := { name := "fnExecuteEnd", vars := ["loop.example/dragonnumbers/impl.adder"], fn := fun _ => fun
  | [d, g1] => { results := [.lit (.bool false)], args := [d], vars := [g1] }
  | _ => none }
def FnExecuteEndWrongFalsely : Prop := fnExecuteEndRow.holds Tryz.pinned (OpenSpec.ofChange fnExecuteEndWrong)

/-- 'laws.FnExactExecute': WHATEVER THE INPUT: true; the input reads as it did. -/
def fnExactExecuteSpec : ChangeSpec := { name := "fnExactExecute", vars := ["loop.example/dragonnumbers/impl.adder"], fn := fun _ => fun
  | [d, g1] => { results := [.lit (.bool true)], args := [d], vars := [g1] }
  | _ => none }
def fnExactExecuteRow : OpenClaim := { program := "ytmondgcehgmamaagreatdoor", sum := "c855171e9fd9f992ec1c26b2d5ffbd36b8f2b6de528a39fe6809ff8d0bab61c7", func := "loop.example/dragonnumbers/laws.FnExactExecute", spec := "fnExactExecute", inPlace := ["math.Float32bits", "internal/bytealg.CountString", "internal/bytealg.IndexByteString", "internal/bytealg.IndexString", "internal/abi.NoEscape", "internal/bytealg.MakeNoZero"], unfollowed := true, recurses := true, named := ["unicode/utf8.first", "unicode/utf8.acceptRanges", "internal/bytealg.MaxLen", "loop.example/dragonnumbers/impl.adder", "strconv.ErrSyntax", "strconv.ErrRange", "internal/strconv.uint64pow10", "math/bits.deBruijn32tab", "math/bits.deBruijn64tab"], apart := false, laid := [("math/bits.deBruijn32tab", laid_math_bits_deBruijn32tab), ("math/bits.deBruijn64tab", laid_math_bits_deBruijn64tab), ("internal/strconv.uint64pow10", laid_internal_strconv_uint64pow10), ("unicode/utf8.acceptRanges", laid_unicode_utf8_acceptRanges), ("strconv.ErrRange", laid_strconv_ErrRange), ("strconv.ErrSyntax", laid_strconv_ErrSyntax), ("loop.example/dragonnumbers/impl.adder", laid_loop_example_dragonnumbers_impl_adder), ("unicode/utf8.first", laid_unicode_utf8_first)] }
def FnExactExecuteSaid : Prop := fnExactExecuteRow.holds Tryz.pinned (OpenSpec.ofChange fnExactExecuteSpec)

/-- ITS FALSE NEIGHBOUR: 'it returns false'. Refute it at one input. -/
def fnExactExecuteWrong : ChangeSpec := { name := "fnExactExecute", vars := ["loop.example/dragonnumbers/impl.adder"], fn := fun _ => fun
  | [d, g1] => { results := [.lit (.bool false)], args := [d], vars := [g1] }
  | _ => none }
def FnExactExecuteWrongFalsely : Prop := fnExactExecuteRow.holds Tryz.pinned (OpenSpec.ofChange fnExactExecuteWrong)

/- THE SECOND FORM. 'bulk': how many values and letters a reading holds, each counted each time it is reached (what is shared counts as often as it is met; a slice's spare places count too). A statement '..UptoSaid' is the law's where the arguments, and the package variables that the reading takes, are together of bulk at most 1048576: NARROWER than '..Said'. Prove '..Said' where nothing that the law and all that it calls make is longer than what came in: it says more and counts as full. Else prove '..UptoSaid'. A law counts once. -/
mutual
def uptoBulk {H : Type} : DataW H → Nat
  | .lit (.string bytes) => bytes.length + 1
  | .lit _ => 1
  | .nil => 1
  | .ptr d => uptoBulk d + 1
  | .slice elems spare => uptoBulkAll elems + uptoBulkAll spare + 1
  | .agg parts => uptoBulkAll parts + 1
  | .iface _ d => uptoBulk d + 1
  | .map entries => uptoBulkEntries entries + 1
  | .held _ => 1
def uptoBulkAll {H : Type} : List (DataW H) → Nat
  | [] => 0
  | d :: r => uptoBulk d + uptoBulkAll r
def uptoBulkEntries {H : Type} : List (Lit × DataW H) → Nat
  | [] => 0
  | x :: r => uptoBulkEntry x + uptoBulkEntries r
def uptoBulkEntry {H : Type} : Lit × DataW H → Nat
  | (.string bytes, d) => bytes.length + uptoBulk d + 1
  | (_, d) => uptoBulk d + 1
 end
def uptoSmall : (H : Type) → List (DataW H) → Bool := fun _ ds => decide (uptoBulkAll ds ≤ 1048576)
def OpenSpec.upto (s : _root_.Go.ChangeSpec) : _root_.Go.OpenSpec := { _root_.Go.OpenSpec.ofChange s with cond := some uptoSmall }

/-- 'laws.FnExecuteNone', WHERE WHAT IT READS IS OF BULK AT MOST 1048576: true; the input reads as it did. -/
def fnExecuteNoneUptoRow : OpenClaim := { program := "ytmondgcehgmamaagreatdoor", sum := "c855171e9fd9f992ec1c26b2d5ffbd36b8f2b6de528a39fe6809ff8d0bab61c7", func := "loop.example/dragonnumbers/laws.FnExecuteNone", spec := "fnExecuteNone", inPlace := ["internal/bytealg.CountString", "internal/bytealg.IndexByteString", "internal/bytealg.IndexString", "internal/abi.NoEscape", "internal/bytealg.MakeNoZero", "math.Float32bits"], unfollowed := true, recurses := true, named := ["unicode/utf8.first", "unicode/utf8.acceptRanges", "internal/bytealg.MaxLen", "loop.example/dragonnumbers/impl.adder", "strconv.ErrSyntax", "strconv.ErrRange", "internal/strconv.uint64pow10", "math/bits.deBruijn32tab", "math/bits.deBruijn64tab"], apart := false, laid := [("math/bits.deBruijn32tab", laid_math_bits_deBruijn32tab), ("math/bits.deBruijn64tab", laid_math_bits_deBruijn64tab), ("internal/strconv.uint64pow10", laid_internal_strconv_uint64pow10), ("unicode/utf8.acceptRanges", laid_unicode_utf8_acceptRanges), ("strconv.ErrRange", laid_strconv_ErrRange), ("strconv.ErrSyntax", laid_strconv_ErrSyntax), ("loop.example/dragonnumbers/impl.adder", laid_loop_example_dragonnumbers_impl_adder), ("unicode/utf8.first", laid_unicode_utf8_first)], narrowed := true }
def FnExecuteNoneUptoSaid : Prop := fnExecuteNoneUptoRow.holds Tryz.pinned (OpenSpec.upto fnExecuteNoneSpec)

/-- 'laws.FnExecuteWhat', WHERE WHAT IT READS IS OF BULK AT MOST 1048576: true; the input reads as it did. -/
def fnExecuteWhatUptoRow : OpenClaim := { program := "ytmondgcehgmamaagreatdoor", sum := "c855171e9fd9f992ec1c26b2d5ffbd36b8f2b6de528a39fe6809ff8d0bab61c7", func := "loop.example/dragonnumbers/laws.FnExecuteWhat", spec := "fnExecuteWhat", inPlace := ["internal/bytealg.CountString", "internal/bytealg.IndexByteString", "internal/bytealg.IndexString", "internal/abi.NoEscape", "internal/bytealg.MakeNoZero", "math.Float32bits"], unfollowed := true, recurses := true, named := ["unicode/utf8.first", "unicode/utf8.acceptRanges", "internal/bytealg.MaxLen", "loop.example/dragonnumbers/impl.adder", "strconv.ErrSyntax", "strconv.ErrRange", "internal/strconv.uint64pow10", "math/bits.deBruijn32tab", "math/bits.deBruijn64tab"], apart := false, laid := [("math/bits.deBruijn32tab", laid_math_bits_deBruijn32tab), ("math/bits.deBruijn64tab", laid_math_bits_deBruijn64tab), ("internal/strconv.uint64pow10", laid_internal_strconv_uint64pow10), ("unicode/utf8.acceptRanges", laid_unicode_utf8_acceptRanges), ("strconv.ErrRange", laid_strconv_ErrRange), ("strconv.ErrSyntax", laid_strconv_ErrSyntax), ("loop.example/dragonnumbers/impl.adder", laid_loop_example_dragonnumbers_impl_adder), ("unicode/utf8.first", laid_unicode_utf8_first)], narrowed := true }
def FnExecuteWhatUptoSaid : Prop := fnExecuteWhatUptoRow.holds Tryz.pinned (OpenSpec.upto fnExecuteWhatSpec)

/-- 'laws.FnExecuteTwice', WHERE WHAT IT READS IS OF BULK AT MOST 1048576: true; the input reads as it did. -/
def fnExecuteTwiceUptoRow : OpenClaim := { program := "ytmondgcehgmamaagreatdoor", sum := "c855171e9fd9f992ec1c26b2d5ffbd36b8f2b6de528a39fe6809ff8d0bab61c7", func := "loop.example/dragonnumbers/laws.FnExecuteTwice", spec := "fnExecuteTwice", inPlace := ["internal/bytealg.CountString", "internal/bytealg.IndexByteString", "internal/bytealg.IndexString", "internal/abi.NoEscape", "internal/bytealg.MakeNoZero", "math.Float32bits"], unfollowed := true, recurses := true, named := ["unicode/utf8.first", "unicode/utf8.acceptRanges", "internal/bytealg.MaxLen", "loop.example/dragonnumbers/impl.adder", "strconv.ErrSyntax", "strconv.ErrRange", "internal/strconv.uint64pow10", "math/bits.deBruijn32tab", "math/bits.deBruijn64tab"], apart := false, laid := [("math/bits.deBruijn32tab", laid_math_bits_deBruijn32tab), ("math/bits.deBruijn64tab", laid_math_bits_deBruijn64tab), ("internal/strconv.uint64pow10", laid_internal_strconv_uint64pow10), ("unicode/utf8.acceptRanges", laid_unicode_utf8_acceptRanges), ("strconv.ErrRange", laid_strconv_ErrRange), ("strconv.ErrSyntax", laid_strconv_ErrSyntax), ("loop.example/dragonnumbers/impl.adder", laid_loop_example_dragonnumbers_impl_adder), ("unicode/utf8.first", laid_unicode_utf8_first)], narrowed := true }
def FnExecuteTwiceUptoSaid : Prop := fnExecuteTwiceUptoRow.holds Tryz.pinned (OpenSpec.upto fnExecuteTwiceSpec)

/-- 'laws.FnExecuteAdd', WHERE WHAT IT READS IS OF BULK AT MOST 1048576: true; the input reads as it did. -/
def fnExecuteAddUptoRow : OpenClaim := { program := "ytmondgcehgmamaagreatdoor", sum := "c855171e9fd9f992ec1c26b2d5ffbd36b8f2b6de528a39fe6809ff8d0bab61c7", func := "loop.example/dragonnumbers/laws.FnExecuteAdd", spec := "fnExecuteAdd", inPlace := ["internal/bytealg.IndexByteString", "internal/bytealg.IndexString", "internal/bytealg.CountString", "internal/abi.NoEscape", "internal/bytealg.MakeNoZero", "math.Float32bits"], unfollowed := true, recurses := true, named := ["loop.example/dragonnumbers/impl.adder", "unicode/utf8.first", "unicode/utf8.acceptRanges", "internal/bytealg.MaxLen", "strconv.ErrSyntax", "strconv.ErrRange", "internal/strconv.uint64pow10", "math/bits.deBruijn32tab", "math/bits.deBruijn64tab"], apart := false, laid := [("math/bits.deBruijn32tab", laid_math_bits_deBruijn32tab), ("math/bits.deBruijn64tab", laid_math_bits_deBruijn64tab), ("internal/strconv.uint64pow10", laid_internal_strconv_uint64pow10), ("unicode/utf8.acceptRanges", laid_unicode_utf8_acceptRanges), ("strconv.ErrRange", laid_strconv_ErrRange), ("strconv.ErrSyntax", laid_strconv_ErrSyntax), ("loop.example/dragonnumbers/impl.adder", laid_loop_example_dragonnumbers_impl_adder), ("unicode/utf8.first", laid_unicode_utf8_first)], narrowed := true }
def FnExecuteAddUptoSaid : Prop := fnExecuteAddUptoRow.holds Tryz.pinned (OpenSpec.upto fnExecuteAddSpec)

/-- 'laws.FnExecutePlace', WHERE WHAT IT READS IS OF BULK AT MOST 1048576: true; the input reads as it did. -/
def fnExecutePlaceUptoRow : OpenClaim := { program := "ytmondgcehgmamaagreatdoor", sum := "c855171e9fd9f992ec1c26b2d5ffbd36b8f2b6de528a39fe6809ff8d0bab61c7", func := "loop.example/dragonnumbers/laws.FnExecutePlace", spec := "fnExecutePlace", inPlace := ["internal/bytealg.CountString", "internal/bytealg.IndexByteString", "internal/bytealg.IndexString", "internal/abi.NoEscape", "internal/bytealg.MakeNoZero", "math.Float32bits"], unfollowed := true, recurses := true, named := ["unicode/utf8.first", "unicode/utf8.acceptRanges", "internal/bytealg.MaxLen", "loop.example/dragonnumbers/impl.adder", "strconv.ErrSyntax", "strconv.ErrRange", "internal/strconv.uint64pow10", "math/bits.deBruijn32tab", "math/bits.deBruijn64tab"], apart := false, laid := [("math/bits.deBruijn32tab", laid_math_bits_deBruijn32tab), ("math/bits.deBruijn64tab", laid_math_bits_deBruijn64tab), ("internal/strconv.uint64pow10", laid_internal_strconv_uint64pow10), ("unicode/utf8.acceptRanges", laid_unicode_utf8_acceptRanges), ("strconv.ErrRange", laid_strconv_ErrRange), ("strconv.ErrSyntax", laid_strconv_ErrSyntax), ("loop.example/dragonnumbers/impl.adder", laid_loop_example_dragonnumbers_impl_adder), ("unicode/utf8.first", laid_unicode_utf8_first)], narrowed := true }
def FnExecutePlaceUptoSaid : Prop := fnExecutePlaceUptoRow.holds Tryz.pinned (OpenSpec.upto fnExecutePlaceSpec)

/-- 'laws.FnExecuteEnd', WHERE WHAT IT READS IS OF BULK AT MOST 1048576: true; the input reads as it did. -/
def fnExecuteEndUptoRow : OpenClaim := { program := "ytmondgcehgmamaagreatdoor", sum := "c855171e9fd9f992ec1c26b2d5ffbd36b8f2b6de528a39fe6809ff8d0bab61c7", func := "loop.example/dragonnumbers/laws.FnExecuteEnd", spec := "fnExecuteEnd", inPlace := ["internal/bytealg.CountString", "internal/bytealg.IndexByteString", "internal/bytealg.IndexString", "internal/abi.NoEscape", "internal/bytealg.MakeNoZero", "math.Float32bits"], unfollowed := true, recurses := true, named := ["unicode/utf8.first", "unicode/utf8.acceptRanges", "internal/bytealg.MaxLen", "loop.example/dragonnumbers/impl.adder", "strconv.ErrSyntax", "strconv.ErrRange", "internal/strconv.uint64pow10", "math/bits.deBruijn32tab", "math/bits.deBruijn64tab"], apart := false, laid := [("math/bits.deBruijn32tab", laid_math_bits_deBruijn32tab), ("math/bits.deBruijn64tab", laid_math_bits_deBruijn64tab), ("internal/strconv.uint64pow10", laid_internal_strconv_uint64pow10), ("unicode/utf8.acceptRanges", laid_unicode_utf8_acceptRanges), ("strconv.ErrRange", laid_strconv_ErrRange), ("strconv.ErrSyntax", laid_strconv_ErrSyntax), ("loop.example/dragonnumbers/impl.adder", laid_loop_example_dragonnumbers_impl_adder), ("unicode/utf8.first", laid_unicode_utf8_first)], narrowed := true }
def FnExecuteEndUptoSaid : Prop := fnExecuteEndUptoRow.holds Tryz.pinned (OpenSpec.upto fnExecuteEndSpec)

/-- 'laws.FnExactExecute', WHERE WHAT IT READS IS OF BULK AT MOST 1048576: true; the input reads as it did. -/
def fnExactExecuteUptoRow : OpenClaim := { program := "ytmondgcehgmamaagreatdoor", sum := "c855171e9fd9f992ec1c26b2d5ffbd36b8f2b6de528a39fe6809ff8d0bab61c7", func := "loop.example/dragonnumbers/laws.FnExactExecute", spec := "fnExactExecute", inPlace := ["math.Float32bits", "internal/bytealg.CountString", "internal/bytealg.IndexByteString", "internal/bytealg.IndexString", "internal/abi.NoEscape", "internal/bytealg.MakeNoZero"], unfollowed := true, recurses := true, named := ["unicode/utf8.first", "unicode/utf8.acceptRanges", "internal/bytealg.MaxLen", "loop.example/dragonnumbers/impl.adder", "strconv.ErrSyntax", "strconv.ErrRange", "internal/strconv.uint64pow10", "math/bits.deBruijn32tab", "math/bits.deBruijn64tab"], apart := false, laid := [("math/bits.deBruijn32tab", laid_math_bits_deBruijn32tab), ("math/bits.deBruijn64tab", laid_math_bits_deBruijn64tab), ("internal/strconv.uint64pow10", laid_internal_strconv_uint64pow10), ("unicode/utf8.acceptRanges", laid_unicode_utf8_acceptRanges), ("strconv.ErrRange", laid_strconv_ErrRange), ("strconv.ErrSyntax", laid_strconv_ErrSyntax), ("loop.example/dragonnumbers/impl.adder", laid_loop_example_dragonnumbers_impl_adder), ("unicode/utf8.first", laid_unicode_utf8_first)], narrowed := true }
def FnExactExecuteUptoSaid : Prop := fnExactExecuteUptoRow.holds Tryz.pinned (OpenSpec.upto fnExactExecuteSpec)

end Rows
end Go.Proofs.YtmondgcehgmamaaGreatDoor

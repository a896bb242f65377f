/-
  NARROWER THAN 'FOR EVERY INPUT', by the rows' own cells (each row's printed sentence says how): FnTileHas: laid · FnTileSplit: laid · FnPoints: laid · FnEdges: laid · FnShape: laid · FnTileBox: laid · FnExactTileHas: laid · FnExactTileSplit: laid · FnExactTilePoints: laid · FnExactTileEdges: laid · FnExactTileShape: laid.
  DERIVED. THE GIVEN ROWS OF THIS SEAT. 11 by the template 'for every input the law returns true; each argument reads behind the call as it read before'; 0 by the template 'total and deterministic' (their statements: YtaleeoghifcadaaDoorTotals.lean).
  GIVEN WITH THE SEED: the statements are not yours to turn. If you find one false, say at which input.
  Laid BY PROGRAM, IN A SANDBOX (cutbox-rows.mjs): the forced cells as the released guide's own fill.sh prints them over the translation c54870f9c12ef0dd… (all of the seat's roots in one cut). By AI agents, Wed Nov 11 2026. No macro, syntax, notation, axiom, sorry.
-/
import Derived.Test.YtaleeoghifcadaaDoorChecked
import GoSem.PinnedTables
import GoSem.Claim
import GoSem.ClaimJoined
import GoSem.ClaimMapViews
import Derived.JoinedTies
import Derived.KernelRfl
namespace Go.Proofs.YtaleeoghifcadaaDoor
/- THE CELL 'sum', in the pinned program and in every row, IS THE sha256 OF THE DUMP (.gsa) THAT YtaleeoghifcadaaDoorProg.lean LOADS. Nothing in Lean hashes anything: it is a label: what it is worth is what the hold of that sum in a sandbox is worth. -/
noncomputable def Tryd.pinned : Pinned := { name := "ytaleeoghifcadaadoor", sum := "c54870f9c12ef0ddf511e79b224e29b3a7ec27990985cd70e288482b44d7d869", checked := Tryd.checked }
namespace Rows
def none {H : Type} : Left H := { results := [], args := [] }

/- WHAT THE LISTED PACKAGE-LEVEL VARIABLES READ AS WHEN THE CALL BEGINS. Each datum BY PROGRAM (the guide's laid-datum.mjs) off the statement by which the dump's own 'gosem.cut.vars' lays the variable. In a bare row this is a premise. The card (YtaleeoghifcadaaDoorCards.lean) ties it to the program's text. -/
def laid_unicode_utf8_acceptRanges {H : Type} : DataW H := .agg [.agg [.lit (.int .u8 128), .lit (.int .u8 191)], .agg [.lit (.int .u8 160), .lit (.int .u8 191)], .agg [.lit (.int .u8 128), .lit (.int .u8 159)], .agg [.lit (.int .u8 144), .lit (.int .u8 191)], .agg [.lit (.int .u8 128), .lit (.int .u8 143)], .agg [.lit (.int .u8 0), .lit (.int .u8 0)], .agg [.lit (.int .u8 0), .lit (.int .u8 0)], .agg [.lit (.int .u8 0), .lit (.int .u8 0)], .agg [.lit (.int .u8 0), .lit (.int .u8 0)], .agg [.lit (.int .u8 0), .lit (.int .u8 0)], .agg [.lit (.int .u8 0), .lit (.int .u8 0)], .agg [.lit (.int .u8 0), .lit (.int .u8 0)], .agg [.lit (.int .u8 0), .lit (.int .u8 0)], .agg [.lit (.int .u8 0), .lit (.int .u8 0)], .agg [.lit (.int .u8 0), .lit (.int .u8 0)], .agg [.lit (.int .u8 0), .lit (.int .u8 0)]]
/-- One of Go's own tables, pinned by name: the form's constant. -/
def laid_unicode_utf8_first : DataW Unit := Go.Pinned.utf8First
def laid_math_bits_deBruijn32tab {H : Type} : DataW H := .agg [.lit (.int .u8 0), .lit (.int .u8 1), .lit (.int .u8 28), .lit (.int .u8 2), .lit (.int .u8 29), .lit (.int .u8 14), .lit (.int .u8 24), .lit (.int .u8 3), .lit (.int .u8 30), .lit (.int .u8 22), .lit (.int .u8 20), .lit (.int .u8 15), .lit (.int .u8 25), .lit (.int .u8 17), .lit (.int .u8 4), .lit (.int .u8 8), .lit (.int .u8 31), .lit (.int .u8 27), .lit (.int .u8 13), .lit (.int .u8 23), .lit (.int .u8 21), .lit (.int .u8 19), .lit (.int .u8 16), .lit (.int .u8 7), .lit (.int .u8 26), .lit (.int .u8 12), .lit (.int .u8 18), .lit (.int .u8 6), .lit (.int .u8 11), .lit (.int .u8 5), .lit (.int .u8 10), .lit (.int .u8 9)]
def laid_math_bits_deBruijn64tab {H : Type} : DataW H := .agg [.lit (.int .u8 0), .lit (.int .u8 1), .lit (.int .u8 56), .lit (.int .u8 2), .lit (.int .u8 57), .lit (.int .u8 49), .lit (.int .u8 28), .lit (.int .u8 3), .lit (.int .u8 61), .lit (.int .u8 58), .lit (.int .u8 42), .lit (.int .u8 50), .lit (.int .u8 38), .lit (.int .u8 29), .lit (.int .u8 17), .lit (.int .u8 4), .lit (.int .u8 62), .lit (.int .u8 47), .lit (.int .u8 59), .lit (.int .u8 36), .lit (.int .u8 45), .lit (.int .u8 43), .lit (.int .u8 51), .lit (.int .u8 22), .lit (.int .u8 53), .lit (.int .u8 39), .lit (.int .u8 33), .lit (.int .u8 30), .lit (.int .u8 24), .lit (.int .u8 18), .lit (.int .u8 12), .lit (.int .u8 5), .lit (.int .u8 63), .lit (.int .u8 55), .lit (.int .u8 48), .lit (.int .u8 27), .lit (.int .u8 60), .lit (.int .u8 41), .lit (.int .u8 37), .lit (.int .u8 16), .lit (.int .u8 46), .lit (.int .u8 35), .lit (.int .u8 44), .lit (.int .u8 21), .lit (.int .u8 52), .lit (.int .u8 32), .lit (.int .u8 23), .lit (.int .u8 11), .lit (.int .u8 54), .lit (.int .u8 26), .lit (.int .u8 40), .lit (.int .u8 15), .lit (.int .u8 34), .lit (.int .u8 20), .lit (.int .u8 31), .lit (.int .u8 10), .lit (.int .u8 25), .lit (.int .u8 14), .lit (.int .u8 19), .lit (.int .u8 9), .lit (.int .u8 13), .lit (.int .u8 8), .lit (.int .u8 7), .lit (.int .u8 6)]
def laid_internal_strconv_uint64pow10 {H : Type} : DataW H := .agg [.lit (.int .u64 1), .lit (.int .u64 10), .lit (.int .u64 100), .lit (.int .u64 1000), .lit (.int .u64 10000), .lit (.int .u64 100000), .lit (.int .u64 1000000), .lit (.int .u64 10000000), .lit (.int .u64 100000000), .lit (.int .u64 1000000000), .lit (.int .u64 10000000000), .lit (.int .u64 100000000000), .lit (.int .u64 1000000000000), .lit (.int .u64 10000000000000), .lit (.int .u64 100000000000000), .lit (.int .u64 1000000000000000), .lit (.int .u64 10000000000000000), .lit (.int .u64 100000000000000000), .lit (.int .u64 1000000000000000000), .lit (.int .u64 10000000000000000000)]

/-- 'laws.FnTileHas': WHATEVER THE INPUT: true; the input reads as it did. -/
def fnTileHasSpec : ChangeSpec := { name := "fnTileHas", fn := fun _ => fun
  | [d] => { results := [.lit (.bool true)], args := [d] }
  | _ => none }
def fnTileHasRow : OpenClaim := { program := "ytaleeoghifcadaadoor", sum := "c54870f9c12ef0ddf511e79b224e29b3a7ec27990985cd70e288482b44d7d869", func := "loop.example/dragonnumbers/laws.FnTileHas", spec := "fnTileHas", inPlace := ["internal/bytealg.IndexByteString", "internal/bytealg.IndexString"], named := ["unicode/utf8.first", "unicode/utf8.acceptRanges", "internal/bytealg.MaxLen"], apart := false, laid := [("unicode/utf8.acceptRanges", laid_unicode_utf8_acceptRanges), ("unicode/utf8.first", laid_unicode_utf8_first)] }
def FnTileHasSaid : Prop := fnTileHasRow.holds Tryd.pinned (OpenSpec.ofChange fnTileHasSpec)

/-- ITS FALSE NEIGHBOUR: 'it returns false'. Refute it at one input. -/
def fnTileHasWrong : ChangeSpec := { name := "fnTileHas", fn := fun _ => fun
  | [d] => { results := [.lit (.bool false)], args := [d] }
  | _ => none }
def FnTileHasWrongFalsely : Prop := fnTileHasRow.holds Tryd.pinned (OpenSpec.ofChange fnTileHasWrong)

/-- 'laws.FnTileSplit': WHATEVER THE INPUT: true; the input reads as it did. -/
def fnTileSplitSpec : ChangeSpec := { name := "fnTileSplit", fn := fun _ => fun
  | [d] => { results := [.lit (.bool true)], args := [d] }
  | _ => none }
def fnTileSplitRow : OpenClaim := { program := "ytaleeoghifcadaadoor", sum := "c54870f9c12ef0ddf511e79b224e29b3a7ec27990985cd70e288482b44d7d869", func := "loop.example/dragonnumbers/laws.FnTileSplit", spec := "fnTileSplit", inPlace := ["internal/bytealg.IndexByteString", "internal/bytealg.IndexString"], named := ["unicode/utf8.first", "unicode/utf8.acceptRanges", "internal/bytealg.MaxLen"], apart := false, laid := [("unicode/utf8.acceptRanges", laid_unicode_utf8_acceptRanges), ("unicode/utf8.first", laid_unicode_utf8_first)] }
def FnTileSplitSaid : Prop := fnTileSplitRow.holds Tryd.pinned (OpenSpec.ofChange fnTileSplitSpec)

/-- ITS FALSE NEIGHBOUR: 'it returns false'. Refute it at one input. -/
def fnTileSplitWrong : ChangeSpec := { name := "fnTileSplit", fn := fun _ => fun
  | [d] => { results := [.lit (.bool false)], args := [d] }
  | _ => none }
def FnTileSplitWrongFalsely : Prop := fnTileSplitRow.holds Tryd.pinned (OpenSpec.ofChange fnTileSplitWrong)

/-- 'laws.FnPoints': WHATEVER THE INPUT: true; the input reads as it did. -/
def fnPointsSpec : ChangeSpec := { name := "fnPoints", fn := fun _ => fun
  | [d] => { results := [.lit (.bool true)], args := [d] }
  | _ => none }
def fnPointsRow : OpenClaim := { program := "ytaleeoghifcadaadoor", sum := "c54870f9c12ef0ddf511e79b224e29b3a7ec27990985cd70e288482b44d7d869", func := "loop.example/dragonnumbers/laws.FnPoints", spec := "fnPoints", inPlace := ["internal/bytealg.IndexByteString", "internal/bytealg.IndexString"], named := ["internal/strconv.uint64pow10", "math/bits.deBruijn32tab", "math/bits.deBruijn64tab", "unicode/utf8.first", "unicode/utf8.acceptRanges", "internal/bytealg.MaxLen"], apart := false, laid := [("math/bits.deBruijn32tab", laid_math_bits_deBruijn32tab), ("math/bits.deBruijn64tab", laid_math_bits_deBruijn64tab), ("internal/strconv.uint64pow10", laid_internal_strconv_uint64pow10), ("unicode/utf8.acceptRanges", laid_unicode_utf8_acceptRanges), ("unicode/utf8.first", laid_unicode_utf8_first)] }
def FnPointsSaid : Prop := fnPointsRow.holds Tryd.pinned (OpenSpec.ofChange fnPointsSpec)

/-- ITS FALSE NEIGHBOUR: 'it returns false'. Refute it at one input. -/
def fnPointsWrong : ChangeSpec := { name := "fnPoints", fn := fun _ => fun
  | [d] => { results := [.lit (.bool false)], args := [d] }
  | _ => none }
def FnPointsWrongFalsely : Prop := fnPointsRow.holds Tryd.pinned (OpenSpec.ofChange fnPointsWrong)

/-- 'laws.FnEdges': WHATEVER THE INPUT: true; the input reads as it did. -/
def fnEdgesSpec : ChangeSpec := { name := "fnEdges", fn := fun _ => fun
  | [d] => { results := [.lit (.bool true)], args := [d] }
  | _ => none }
def fnEdgesRow : OpenClaim := { program := "ytaleeoghifcadaadoor", sum := "c54870f9c12ef0ddf511e79b224e29b3a7ec27990985cd70e288482b44d7d869", func := "loop.example/dragonnumbers/laws.FnEdges", spec := "fnEdges", inPlace := ["maps.clone"], named := ["internal/strconv.uint64pow10", "math/bits.deBruijn32tab", "math/bits.deBruijn64tab"], apart := false, laid := [("math/bits.deBruijn32tab", laid_math_bits_deBruijn32tab), ("math/bits.deBruijn64tab", laid_math_bits_deBruijn64tab), ("internal/strconv.uint64pow10", laid_internal_strconv_uint64pow10)] }
def FnEdgesSaid : Prop := fnEdgesRow.holds Tryd.pinned (OpenSpec.ofChange fnEdgesSpec)

/-- ITS FALSE NEIGHBOUR: 'it returns false'. Refute it at one input. -/
def fnEdgesWrong : ChangeSpec := { name := "fnEdges", fn := fun _ => fun
  | [d] => { results := [.lit (.bool false)], args := [d] }
  | _ => none }
def FnEdgesWrongFalsely : Prop := fnEdgesRow.holds Tryd.pinned (OpenSpec.ofChange fnEdgesWrong)

/-- 'laws.FnShape': WHATEVER THE INPUT: true; the input reads as it did. -/
def fnShapeSpec : ChangeSpec := { name := "fnShape", fn := fun _ => fun
  | [d] => { results := [.lit (.bool true)], args := [d] }
  | _ => none }
def fnShapeRow : OpenClaim := { program := "ytaleeoghifcadaadoor", sum := "c54870f9c12ef0ddf511e79b224e29b3a7ec27990985cd70e288482b44d7d869", func := "loop.example/dragonnumbers/laws.FnShape", spec := "fnShape", inPlace := ["internal/abi.NoEscape", "internal/bytealg.MakeNoZero"], named := ["internal/strconv.uint64pow10", "math/bits.deBruijn32tab", "math/bits.deBruijn64tab"], apart := false, laid := [("math/bits.deBruijn32tab", laid_math_bits_deBruijn32tab), ("math/bits.deBruijn64tab", laid_math_bits_deBruijn64tab), ("internal/strconv.uint64pow10", laid_internal_strconv_uint64pow10)] }
def FnShapeSaid : Prop := fnShapeRow.holds Tryd.pinned (OpenSpec.ofChange fnShapeSpec)

/-- ITS FALSE NEIGHBOUR: 'it returns false'. Refute it at one input. -/
def fnShapeWrong : ChangeSpec := { name := "fnShape", fn := fun _ => fun
  | [d] => { results := [.lit (.bool false)], args := [d] }
  | _ => none }
def FnShapeWrongFalsely : Prop := fnShapeRow.holds Tryd.pinned (OpenSpec.ofChange fnShapeWrong)

/-- 'laws.FnTileBox': WHATEVER THE INPUT: true; the input reads as it did. -/
def fnTileBoxSpec : ChangeSpec := { name := "fnTileBox", fn := fun _ => fun
  | [d] => { results := [.lit (.bool true)], args := [d] }
  | _ => none }
def fnTileBoxRow : OpenClaim := { program := "ytaleeoghifcadaadoor", sum := "c54870f9c12ef0ddf511e79b224e29b3a7ec27990985cd70e288482b44d7d869", func := "loop.example/dragonnumbers/laws.FnTileBox", spec := "fnTileBox", inPlace := ["internal/abi.NoEscape", "internal/bytealg.MakeNoZero"], named := ["internal/strconv.uint64pow10", "math/bits.deBruijn32tab", "math/bits.deBruijn64tab"], apart := false, laid := [("math/bits.deBruijn32tab", laid_math_bits_deBruijn32tab), ("math/bits.deBruijn64tab", laid_math_bits_deBruijn64tab), ("internal/strconv.uint64pow10", laid_internal_strconv_uint64pow10)] }
def FnTileBoxSaid : Prop := fnTileBoxRow.holds Tryd.pinned (OpenSpec.ofChange fnTileBoxSpec)

/-- ITS FALSE NEIGHBOUR: 'it returns false'. Refute it at one input. -/
def fnTileBoxWrong : ChangeSpec := { name := "fnTileBox", fn := fun _ => fun
  | [d] => { results := [.lit (.bool false)], args := [d] }
  | _ => none }
def FnTileBoxWrongFalsely : Prop := fnTileBoxRow.holds Tryd.pinned (OpenSpec.ofChange fnTileBoxWrong)

/-- 'laws.FnExactTileHas': WHATEVER THE INPUT: true; the input reads as it did. -/
def fnExactTileHasSpec : ChangeSpec := { name := "fnExactTileHas", fn := fun _ => fun
  | [d1, d2] => { results := [.lit (.bool true)], args := [d1, d2] }
  | _ => none }
def fnExactTileHasRow : OpenClaim := { program := "ytaleeoghifcadaadoor", sum := "c54870f9c12ef0ddf511e79b224e29b3a7ec27990985cd70e288482b44d7d869", func := "loop.example/dragonnumbers/laws.FnExactTileHas", spec := "fnExactTileHas", inPlace := ["internal/bytealg.IndexByteString", "internal/bytealg.IndexString"], named := ["unicode/utf8.first", "unicode/utf8.acceptRanges", "internal/bytealg.MaxLen"], apart := false, laid := [("unicode/utf8.acceptRanges", laid_unicode_utf8_acceptRanges), ("unicode/utf8.first", laid_unicode_utf8_first)] }
def FnExactTileHasSaid : Prop := fnExactTileHasRow.holds Tryd.pinned (OpenSpec.ofChange fnExactTileHasSpec)

/-- ITS FALSE NEIGHBOUR: 'it returns false'. Refute it at one input. -/
def fnExactTileHasWrong : ChangeSpec := { name := "fnExactTileHas", fn := fun _ => fun
  | [d1, d2] => { results := [.lit (.bool false)], args := [d1, d2] }
  | _ => none }
def FnExactTileHasWrongFalsely : Prop := fnExactTileHasRow.holds Tryd.pinned (OpenSpec.ofChange fnExactTileHasWrong)

/-- 'laws.FnExactTileSplit': WHATEVER THE INPUT: true; the input reads as it did. -/
def fnExactTileSplitSpec : ChangeSpec := { name := "fnExactTileSplit", fn := fun _ => fun
  | [d1, d2] => { results := [.lit (.bool true)], args := [d1, d2] }
  | _ => none }
def fnExactTileSplitRow : OpenClaim := { program := "ytaleeoghifcadaadoor", sum := "c54870f9c12ef0ddf511e79b224e29b3a7ec27990985cd70e288482b44d7d869", func := "loop.example/dragonnumbers/laws.FnExactTileSplit", spec := "fnExactTileSplit", inPlace := ["internal/bytealg.IndexByteString", "internal/bytealg.IndexString"], named := ["unicode/utf8.first", "unicode/utf8.acceptRanges", "internal/bytealg.MaxLen"], apart := false, laid := [("unicode/utf8.acceptRanges", laid_unicode_utf8_acceptRanges), ("unicode/utf8.first", laid_unicode_utf8_first)] }
def FnExactTileSplitSaid : Prop := fnExactTileSplitRow.holds Tryd.pinned (OpenSpec.ofChange fnExactTileSplitSpec)

/-- ITS FALSE NEIGHBOUR: 'it returns false'. Refute it at one input. -/
def fnExactTileSplitWrong : ChangeSpec := { name := "fnExactTileSplit", fn := fun _ => fun
  | [d1, d2] => { results := [.lit (.bool false)], args := [d1, d2] }
  | _ => none }
def FnExactTileSplitWrongFalsely : Prop := fnExactTileSplitRow.holds Tryd.pinned (OpenSpec.ofChange fnExactTileSplitWrong)

/-- 'laws.FnExactTilePoints': WHATEVER THE INPUT: true; the input reads as it did. -/
def fnExactTilePointsSpec : ChangeSpec := { name := "fnExactTilePoints", fn := fun _ => fun
  | [d] => { results := [.lit (.bool true)], args := [d] }
  | _ => none }
def fnExactTilePointsRow : OpenClaim := { program := "ytaleeoghifcadaadoor", sum := "c54870f9c12ef0ddf511e79b224e29b3a7ec27990985cd70e288482b44d7d869", func := "loop.example/dragonnumbers/laws.FnExactTilePoints", spec := "fnExactTilePoints", named := ["internal/strconv.uint64pow10", "math/bits.deBruijn32tab", "math/bits.deBruijn64tab"], apart := false, laid := [("math/bits.deBruijn32tab", laid_math_bits_deBruijn32tab), ("math/bits.deBruijn64tab", laid_math_bits_deBruijn64tab), ("internal/strconv.uint64pow10", laid_internal_strconv_uint64pow10)] }
def FnExactTilePointsSaid : Prop := fnExactTilePointsRow.holds Tryd.pinned (OpenSpec.ofChange fnExactTilePointsSpec)

/-- ITS FALSE NEIGHBOUR: 'it returns false'. Refute it at one input. -/
def fnExactTilePointsWrong : ChangeSpec := { name := "fnExactTilePoints", fn := fun _ => fun
  | [d] => { results := [.lit (.bool false)], args := [d] }
  | _ => none }
def FnExactTilePointsWrongFalsely : Prop := fnExactTilePointsRow.holds Tryd.pinned (OpenSpec.ofChange fnExactTilePointsWrong)

/-- 'laws.FnExactTileEdges': WHATEVER THE INPUT: true; the input reads as it did. -/
def fnExactTileEdgesSpec : ChangeSpec := { name := "fnExactTileEdges", fn := fun _ => fun
  | [d] => { results := [.lit (.bool true)], args := [d] }
  | _ => none }
def fnExactTileEdgesRow : OpenClaim := { program := "ytaleeoghifcadaadoor", sum := "c54870f9c12ef0ddf511e79b224e29b3a7ec27990985cd70e288482b44d7d869", func := "loop.example/dragonnumbers/laws.FnExactTileEdges", spec := "fnExactTileEdges", inPlace := ["maps.clone"], named := ["internal/strconv.uint64pow10", "math/bits.deBruijn32tab", "math/bits.deBruijn64tab"], apart := false, laid := [("math/bits.deBruijn32tab", laid_math_bits_deBruijn32tab), ("math/bits.deBruijn64tab", laid_math_bits_deBruijn64tab), ("internal/strconv.uint64pow10", laid_internal_strconv_uint64pow10)] }
def FnExactTileEdgesSaid : Prop := fnExactTileEdgesRow.holds Tryd.pinned (OpenSpec.ofChange fnExactTileEdgesSpec)

/-- ITS FALSE NEIGHBOUR: 'it returns false'. Refute it at one input. -/
def fnExactTileEdgesWrong : ChangeSpec := { name := "fnExactTileEdges", fn := fun _ => fun
  | [d] => { results := [.lit (.bool false)], args := [d] }
  | _ => none }
def FnExactTileEdgesWrongFalsely : Prop := fnExactTileEdgesRow.holds Tryd.pinned (OpenSpec.ofChange fnExactTileEdgesWrong)

/-- 'laws.FnExactTileShape': WHATEVER THE INPUT: true; the input reads as it did. -/
def fnExactTileShapeSpec : ChangeSpec := { name := "fnExactTileShape", fn := fun _ => fun
  | [d] => { results := [.lit (.bool true)], args := [d] }
  | _ => none }
def fnExactTileShapeRow : OpenClaim := { program := "ytaleeoghifcadaadoor", sum := "c54870f9c12ef0ddf511e79b224e29b3a7ec27990985cd70e288482b44d7d869", func := "loop.example/dragonnumbers/laws.FnExactTileShape", spec := "fnExactTileShape", inPlace := ["internal/abi.NoEscape", "internal/bytealg.MakeNoZero"], named := ["internal/strconv.uint64pow10", "math/bits.deBruijn32tab", "math/bits.deBruijn64tab"], apart := false, laid := [("math/bits.deBruijn32tab", laid_math_bits_deBruijn32tab), ("math/bits.deBruijn64tab", laid_math_bits_deBruijn64tab), ("internal/strconv.uint64pow10", laid_internal_strconv_uint64pow10)] }
def FnExactTileShapeSaid : Prop := fnExactTileShapeRow.holds Tryd.pinned (OpenSpec.ofChange fnExactTileShapeSpec)

/-- ITS FALSE NEIGHBOUR: 'it returns false'. Refute it at one input. -/
def fnExactTileShapeWrong : ChangeSpec := { name := "fnExactTileShape", fn := fun _ => fun
  | [d] => { results := [.lit (.bool false)], args := [d] }
  | _ => none }
def FnExactTileShapeWrongFalsely : Prop := fnExactTileShapeRow.holds Tryd.pinned (OpenSpec.ofChange fnExactTileShapeWrong)

/- THE SECOND FORM. 'bulk': how many values and letters a reading holds, each counted each time it is reached (what is shared counts as often as it is met; a slice's spare places count too). A statement '..UptoSaid' is the law's where the arguments, and the package variables that the reading takes, are together of bulk at most 1048576: NARROWER than '..Said'. Prove '..Said' where nothing that the law and all that it calls make is longer than what came in: it says more and counts as full. Else prove '..UptoSaid'. A law counts once. -/
mutual
def uptoBulk {H : Type} : DataW H → Nat
  | .lit (.string bytes) => bytes.length + 1
  | .lit _ => 1
  | .nil => 1
  | .ptr d => uptoBulk d + 1
  | .slice elems spare => uptoBulkAll elems + uptoBulkAll spare + 1
  | .agg parts => uptoBulkAll parts + 1
  | .iface _ d => uptoBulk d + 1
  | .map entries => uptoBulkEntries entries + 1
  | .held _ => 1
def uptoBulkAll {H : Type} : List (DataW H) → Nat
  | [] => 0
  | d :: r => uptoBulk d + uptoBulkAll r
def uptoBulkEntries {H : Type} : List (Lit × DataW H) → Nat
  | [] => 0
  | x :: r => uptoBulkEntry x + uptoBulkEntries r
def uptoBulkEntry {H : Type} : Lit × DataW H → Nat
  | (.string bytes, d) => bytes.length + uptoBulk d + 1
  | (_, d) => uptoBulk d + 1
 end
def uptoSmall : (H : Type) → List (DataW H) → Bool := fun _ ds => decide (uptoBulkAll ds ≤ 1048576)
def OpenSpec.upto (s : _root_.Go.ChangeSpec) : _root_.Go.OpenSpec := { _root_.Go.OpenSpec.ofChange s with cond := some uptoSmall }

/-- 'laws.FnTileHas', WHERE WHAT IT READS IS OF BULK AT MOST 1048576: true; the input reads as it did. -/
def fnTileHasUptoRow : OpenClaim := { program := "ytaleeoghifcadaadoor", sum := "c54870f9c12ef0ddf511e79b224e29b3a7ec27990985cd70e288482b44d7d869", func := "loop.example/dragonnumbers/laws.FnTileHas", spec := "fnTileHas", inPlace := ["internal/bytealg.IndexByteString", "internal/bytealg.IndexString"], named := ["unicode/utf8.first", "unicode/utf8.acceptRanges", "internal/bytealg.MaxLen"], apart := false, laid := [("unicode/utf8.acceptRanges", laid_unicode_utf8_acceptRanges), ("unicode/utf8.first", laid_unicode_utf8_first)], narrowed := true }
def FnTileHasUptoSaid : Prop := fnTileHasUptoRow.holds Tryd.pinned (OpenSpec.upto fnTileHasSpec)

/-- 'laws.FnTileSplit', WHERE WHAT IT READS IS OF BULK AT MOST 1048576: true; the input reads as it did. -/
def fnTileSplitUptoRow : OpenClaim := { program := "ytaleeoghifcadaadoor", sum := "c54870f9c12ef0ddf511e79b224e29b3a7ec27990985cd70e288482b44d7d869", func := "loop.example/dragonnumbers/laws.FnTileSplit", spec := "fnTileSplit", inPlace := ["internal/bytealg.IndexByteString", "internal/bytealg.IndexString"], named := ["unicode/utf8.first", "unicode/utf8.acceptRanges", "internal/bytealg.MaxLen"], apart := false, laid := [("unicode/utf8.acceptRanges", laid_unicode_utf8_acceptRanges), ("unicode/utf8.first", laid_unicode_utf8_first)], narrowed := true }
def FnTileSplitUptoSaid : Prop := fnTileSplitUptoRow.holds Tryd.pinned (OpenSpec.upto fnTileSplitSpec)

/-- 'laws.FnPoints', WHERE WHAT IT READS IS OF BULK AT MOST 1048576: true; the input reads as it did. -/
def fnPointsUptoRow : OpenClaim := { program := "ytaleeoghifcadaadoor", sum := "c54870f9c12ef0ddf511e79b224e29b3a7ec27990985cd70e288482b44d7d869", func := "loop.example/dragonnumbers/laws.FnPoints", spec := "fnPoints", inPlace := ["internal/bytealg.IndexByteString", "internal/bytealg.IndexString"], named := ["internal/strconv.uint64pow10", "math/bits.deBruijn32tab", "math/bits.deBruijn64tab", "unicode/utf8.first", "unicode/utf8.acceptRanges", "internal/bytealg.MaxLen"], apart := false, laid := [("math/bits.deBruijn32tab", laid_math_bits_deBruijn32tab), ("math/bits.deBruijn64tab", laid_math_bits_deBruijn64tab), ("internal/strconv.uint64pow10", laid_internal_strconv_uint64pow10), ("unicode/utf8.acceptRanges", laid_unicode_utf8_acceptRanges), ("unicode/utf8.first", laid_unicode_utf8_first)], narrowed := true }
def FnPointsUptoSaid : Prop := fnPointsUptoRow.holds Tryd.pinned (OpenSpec.upto fnPointsSpec)

/-- 'laws.FnEdges', WHERE WHAT IT READS IS OF BULK AT MOST 1048576: true; the input reads as it did. -/
def fnEdgesUptoRow : OpenClaim := { program := "ytaleeoghifcadaadoor", sum := "c54870f9c12ef0ddf511e79b224e29b3a7ec27990985cd70e288482b44d7d869", func := "loop.example/dragonnumbers/laws.FnEdges", spec := "fnEdges", inPlace := ["maps.clone"], named := ["internal/strconv.uint64pow10", "math/bits.deBruijn32tab", "math/bits.deBruijn64tab"], apart := false, laid := [("math/bits.deBruijn32tab", laid_math_bits_deBruijn32tab), ("math/bits.deBruijn64tab", laid_math_bits_deBruijn64tab), ("internal/strconv.uint64pow10", laid_internal_strconv_uint64pow10)], narrowed := true }
def FnEdgesUptoSaid : Prop := fnEdgesUptoRow.holds Tryd.pinned (OpenSpec.upto fnEdgesSpec)

/-- 'laws.FnShape', WHERE WHAT IT READS IS OF BULK AT MOST 1048576: true; the input reads as it did. -/
def fnShapeUptoRow : OpenClaim := { program := "ytaleeoghifcadaadoor", sum := "c54870f9c12ef0ddf511e79b224e29b3a7ec27990985cd70e288482b44d7d869", func := "loop.example/dragonnumbers/laws.FnShape", spec := "fnShape", inPlace := ["internal/abi.NoEscape", "internal/bytealg.MakeNoZero"], named := ["internal/strconv.uint64pow10", "math/bits.deBruijn32tab", "math/bits.deBruijn64tab"], apart := false, laid := [("math/bits.deBruijn32tab", laid_math_bits_deBruijn32tab), ("math/bits.deBruijn64tab", laid_math_bits_deBruijn64tab), ("internal/strconv.uint64pow10", laid_internal_strconv_uint64pow10)], narrowed := true }
def FnShapeUptoSaid : Prop := fnShapeUptoRow.holds Tryd.pinned (OpenSpec.upto fnShapeSpec)

/-- 'laws.FnTileBox', WHERE WHAT IT READS IS OF BULK AT MOST 1048576: true; the input reads as it did. -/
def fnTileBoxUptoRow : OpenClaim := { program := "ytaleeoghifcadaadoor", sum := "c54870f9c12ef0ddf511e79b224e29b3a7ec27990985cd70e288482b44d7d869", func := "loop.example/dragonnumbers/laws.FnTileBox", spec := "fnTileBox", inPlace := ["internal/abi.NoEscape", "internal/bytealg.MakeNoZero"], named := ["internal/strconv.uint64pow10", "math/bits.deBruijn32tab", "math/bits.deBruijn64tab"], apart := false, laid := [("math/bits.deBruijn32tab", laid_math_bits_deBruijn32tab), ("math/bits.deBruijn64tab", laid_math_bits_deBruijn64tab), ("internal/strconv.uint64pow10", laid_internal_strconv_uint64pow10)], narrowed := true }
def FnTileBoxUptoSaid : Prop := fnTileBoxUptoRow.holds Tryd.pinned (OpenSpec.upto fnTileBoxSpec)

/-- 'laws.FnExactTileHas', WHERE WHAT IT READS IS OF BULK AT MOST 1048576: true; the input reads as it did. -/
def fnExactTileHasUptoRow : OpenClaim := { program := "ytaleeoghifcadaadoor", sum := "c54870f9c12ef0ddf511e79b224e29b3a7ec27990985cd70e288482b44d7d869", func := "loop.example/dragonnumbers/laws.FnExactTileHas", spec := "fnExactTileHas", inPlace := ["internal/bytealg.IndexByteString", "internal/bytealg.IndexString"], named := ["unicode/utf8.first", "unicode/utf8.acceptRanges", "internal/bytealg.MaxLen"], apart := false, laid := [("unicode/utf8.acceptRanges", laid_unicode_utf8_acceptRanges), ("unicode/utf8.first", laid_unicode_utf8_first)], narrowed := true }
def FnExactTileHasUptoSaid : Prop := fnExactTileHasUptoRow.holds Tryd.pinned (OpenSpec.upto fnExactTileHasSpec)

/-- 'laws.FnExactTileSplit', WHERE WHAT IT READS IS OF BULK AT MOST 1048576: true; the input reads as it did. -/
def fnExactTileSplitUptoRow : OpenClaim := { program := "ytaleeoghifcadaadoor", sum := "c54870f9c12ef0ddf511e79b224e29b3a7ec27990985cd70e288482b44d7d869", func := "loop.example/dragonnumbers/laws.FnExactTileSplit", spec := "fnExactTileSplit", inPlace := ["internal/bytealg.IndexByteString", "internal/bytealg.IndexString"], named := ["unicode/utf8.first", "unicode/utf8.acceptRanges", "internal/bytealg.MaxLen"], apart := false, laid := [("unicode/utf8.acceptRanges", laid_unicode_utf8_acceptRanges), ("unicode/utf8.first", laid_unicode_utf8_first)], narrowed := true }
def FnExactTileSplitUptoSaid : Prop := fnExactTileSplitUptoRow.holds Tryd.pinned (OpenSpec.upto fnExactTileSplitSpec)

/-- 'laws.FnExactTilePoints', WHERE WHAT IT READS IS OF BULK AT MOST 1048576: true; the input reads as it did. -/
def fnExactTilePointsUptoRow : OpenClaim := { program := "ytaleeoghifcadaadoor", sum := "c54870f9c12ef0ddf511e79b224e29b3a7ec27990985cd70e288482b44d7d869", func := "loop.example/dragonnumbers/laws.FnExactTilePoints", spec := "fnExactTilePoints", named := ["internal/strconv.uint64pow10", "math/bits.deBruijn32tab", "math/bits.deBruijn64tab"], apart := false, laid := [("math/bits.deBruijn32tab", laid_math_bits_deBruijn32tab), ("math/bits.deBruijn64tab", laid_math_bits_deBruijn64tab), ("internal/strconv.uint64pow10", laid_internal_strconv_uint64pow10)], narrowed := true }
def FnExactTilePointsUptoSaid : Prop := fnExactTilePointsUptoRow.holds Tryd.pinned (OpenSpec.upto fnExactTilePointsSpec)

/-- 'laws.FnExactTileEdges', WHERE WHAT IT READS IS OF BULK AT MOST 1048576: true; the input reads as it did. -/
def fnExactTileEdgesUptoRow : OpenClaim := { program := "ytaleeoghifcadaadoor", sum := "c54870f9c12ef0ddf511e79b224e29b3a7ec27990985cd70e288482b44d7d869", func := "loop.example/dragonnumbers/laws.FnExactTileEdges", spec := "fnExactTileEdges", inPlace := ["maps.clone"], named := ["internal/strconv.uint64pow10", "math/bits.deBruijn32tab", "math/bits.deBruijn64tab"], apart := false, laid := [("math/bits.deBruijn32tab", laid_math_bits_deBruijn32tab), ("math/bits.deBruijn64tab", laid_math_bits_deBruijn64tab), ("internal/strconv.uint64pow10", laid_internal_strconv_uint64pow10)], narrowed := true }
def FnExactTileEdgesUptoSaid : Prop := fnExactTileEdgesUptoRow.holds Tryd.pinned (OpenSpec.upto fnExactTileEdgesSpec)

/-- 'laws.FnExactTileShape', WHERE WHAT IT READS IS OF BULK AT MOST 1048576: true; the input reads as it did. -/
def fnExactTileShapeUptoRow : OpenClaim := { program := "ytaleeoghifcadaadoor", sum := "c54870f9c12ef0ddf511e79b224e29b3a7ec27990985cd70e288482b44d7d869", func := "loop.example/dragonnumbers/laws.FnExactTileShape", spec := "fnExactTileShape", inPlace := ["internal/abi.NoEscape", "internal/bytealg.MakeNoZero"], named := ["internal/strconv.uint64pow10", "math/bits.deBruijn32tab", "math/bits.deBruijn64tab"], apart := false, laid := [("math/bits.deBruijn32tab", laid_math_bits_deBruijn32tab), ("math/bits.deBruijn64tab", laid_math_bits_deBruijn64tab), ("internal/strconv.uint64pow10", laid_internal_strconv_uint64pow10)], narrowed := true }
def FnExactTileShapeUptoSaid : Prop := fnExactTileShapeUptoRow.holds Tryd.pinned (OpenSpec.upto fnExactTileShapeSpec)

end Rows
end Go.Proofs.YtaleeoghifcadaaDoor

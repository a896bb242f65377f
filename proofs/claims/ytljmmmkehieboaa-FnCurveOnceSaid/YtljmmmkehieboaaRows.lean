/-
  No cell of these rows narrows 'for every input' (looked for: loops, veiled, ifaces, maps, wideKeys, modest, calm, conditions, laid).
  DERIVED. THE GIVEN ROWS OF THIS SEAT. 8 by the template 'for every input the law returns true; each argument reads behind the call as it read before'; 0 by the template 'total and deterministic' (their statements: YtljmmmkehieboaaTotals.lean).
  GIVEN WITH THE SEED: the statements are not yours to turn. If you find one false, say at which input.
  Laid BY PROGRAM, IN A SANDBOX (cutbox-rows.mjs): the forced cells as the released guide's own fill.sh prints them over the translation 962e2718143d1da6… (all of the seat's roots in one cut). By AI agents, Wed Nov 11 2026. No macro, syntax, notation, axiom, sorry.
-/
import Derived.Test.YtljmmmkehieboaaChecked
import GoSem.Claim
import GoSem.ClaimJoined
import GoSem.ClaimMapViews
import Derived.JoinedTies
import Derived.KernelRfl
namespace Go.Proofs.Ytljmmmkehieboaa
/- THE CELL 'sum', in the pinned program and in every row, IS THE sha256 OF THE DUMP (.gsa) THAT YtljmmmkehieboaaProg.lean LOADS. Nothing in Lean hashes anything: it is a label: what it is worth is what the hold of that sum in a sandbox is worth. -/
noncomputable def Try.pinned : Pinned := { name := "ytljmmmkehieboaa", sum := "962e2718143d1da64901c8365b238fc4a8268cb70d2cb34028e3c2cc2f5b1137", checked := Try.checked }
namespace Rows
def none {H : Type} : Left H := { results := [], args := [] }

/-- 'laws.FnCurve': WHATEVER THE INPUT: true; the input reads as it did. -/
def fnCurveSpec : ChangeSpec := { name := "fnCurve", fn := fun _ => fun
  | [d] => { results := [.lit (.bool true)], args := [d] }
  | _ => none }
def fnCurveRow : OpenClaim := { program := "ytljmmmkehieboaa", sum := "962e2718143d1da64901c8365b238fc4a8268cb70d2cb34028e3c2cc2f5b1137", func := "loop.example/dragonnumbers/laws.FnCurve", spec := "fnCurve", inPlace := ["math.Float32bits"], apart := false }
def FnCurveSaid : Prop := fnCurveRow.holds Try.pinned (OpenSpec.ofChange fnCurveSpec)

/-- ITS FALSE NEIGHBOUR: 'it returns false'. Refute it at one input. -/
def fnCurveWrong : ChangeSpec := { name := "fnCurve", fn := fun _ => fun
  | [d] => { results := [.lit (.bool false)], args := [d] }
  | _ => none }
def FnCurveWrongFalsely : Prop := fnCurveRow.holds Try.pinned (OpenSpec.ofChange fnCurveWrong)

/-- 'laws.FnPath': WHATEVER THE INPUT: true; the input reads as it did. -/
def fnPathSpec : ChangeSpec := { name := "fnPath", fn := fun _ => fun
  | [d] => { results := [.lit (.bool true)], args := [d] }
  | _ => none }
def fnPathRow : OpenClaim := { program := "ytljmmmkehieboaa", sum := "962e2718143d1da64901c8365b238fc4a8268cb70d2cb34028e3c2cc2f5b1137", func := "loop.example/dragonnumbers/laws.FnPath", spec := "fnPath", inPlace := ["math.Float32bits"], apart := false }
def FnPathSaid : Prop := fnPathRow.holds Try.pinned (OpenSpec.ofChange fnPathSpec)

/-- ITS FALSE NEIGHBOUR: 'it returns false'. Refute it at one input. -/
def fnPathWrong : ChangeSpec := { name := "fnPath", fn := fun _ => fun
  | [d] => { results := [.lit (.bool false)], args := [d] }
  | _ => none }
def FnPathWrongFalsely : Prop := fnPathRow.holds Try.pinned (OpenSpec.ofChange fnPathWrong)

/-- 'laws.FnCurveWord': WHATEVER THE INPUT: true; the input reads as it did. -/
def fnCurveWordSpec : ChangeSpec := { name := "fnCurveWord", fn := fun _ => fun
  | [d] => { results := [.lit (.bool true)], args := [d] }
  | _ => none }
def fnCurveWordRow : OpenClaim := { program := "ytljmmmkehieboaa", sum := "962e2718143d1da64901c8365b238fc4a8268cb70d2cb34028e3c2cc2f5b1137", func := "loop.example/dragonnumbers/laws.FnCurveWord", spec := "fnCurveWord", inPlace := ["math.Float32bits"], apart := false }
def FnCurveWordSaid : Prop := fnCurveWordRow.holds Try.pinned (OpenSpec.ofChange fnCurveWordSpec)

/-- ITS FALSE NEIGHBOUR: 'it returns false'. Refute it at one input. -/
def fnCurveWordWrong : ChangeSpec := { name := "fnCurveWord", fn := fun _ => fun
  | [d] => { results := [.lit (.bool false)], args := [d] }
  | _ => none }
def FnCurveWordWrongFalsely : Prop := fnCurveWordRow.holds Try.pinned (OpenSpec.ofChange fnCurveWordWrong)

/-- 'laws.FnCurveOnce': WHATEVER THE INPUT: true; the input reads as it did. -/
def fnCurveOnceSpec : ChangeSpec := { name := "fnCurveOnce", fn := fun _ => fun
  | [d] => { results := [.lit (.bool true)], args := [d] }
  | _ => none }
def fnCurveOnceRow : OpenClaim := { program := "ytljmmmkehieboaa", sum := "962e2718143d1da64901c8365b238fc4a8268cb70d2cb34028e3c2cc2f5b1137", func := "loop.example/dragonnumbers/laws.FnCurveOnce", spec := "fnCurveOnce", inPlace := ["math.Float32bits"], apart := false }
def FnCurveOnceSaid : Prop := fnCurveOnceRow.holds Try.pinned (OpenSpec.ofChange fnCurveOnceSpec)

/-- ITS FALSE NEIGHBOUR: 'it returns false'. Refute it at one input. -/
def fnCurveOnceWrong : ChangeSpec := { name := "fnCurveOnce", fn := fun _ => fun
  | [d] => { results := [.lit (.bool false)], args := [d] }
  | _ => none }
def FnCurveOnceWrongFalsely : Prop := fnCurveOnceRow.holds Try.pinned (OpenSpec.ofChange fnCurveOnceWrong)

/-- 'laws.FnCorners': WHATEVER THE INPUT: true; the input reads as it did. -/
def fnCornersSpec : ChangeSpec := { name := "fnCorners", fn := fun _ => fun
  | [d] => { results := [.lit (.bool true)], args := [d] }
  | _ => none }
def fnCornersRow : OpenClaim := { program := "ytljmmmkehieboaa", sum := "962e2718143d1da64901c8365b238fc4a8268cb70d2cb34028e3c2cc2f5b1137", func := "loop.example/dragonnumbers/laws.FnCorners", spec := "fnCorners", inPlace := ["math.Float32bits"], apart := false }
def FnCornersSaid : Prop := fnCornersRow.holds Try.pinned (OpenSpec.ofChange fnCornersSpec)

/-- ITS FALSE NEIGHBOUR: 'it returns false'. Refute it at one input. -/
def fnCornersWrong : ChangeSpec := { name := "fnCorners", fn := fun _ => fun
  | [d] => { results := [.lit (.bool false)], args := [d] }
  | _ => none }
def FnCornersWrongFalsely : Prop := fnCornersRow.holds Try.pinned (OpenSpec.ofChange fnCornersWrong)

/-- 'laws.FnBox': WHATEVER THE INPUT: true; the input reads as it did. -/
def fnBoxSpec : ChangeSpec := { name := "fnBox", fn := fun _ => fun
  | [d] => { results := [.lit (.bool true)], args := [d] }
  | _ => none }
def fnBoxRow : OpenClaim := { program := "ytljmmmkehieboaa", sum := "962e2718143d1da64901c8365b238fc4a8268cb70d2cb34028e3c2cc2f5b1137", func := "loop.example/dragonnumbers/laws.FnBox", spec := "fnBox", inPlace := ["math.Float32bits"], apart := false }
def FnBoxSaid : Prop := fnBoxRow.holds Try.pinned (OpenSpec.ofChange fnBoxSpec)

/-- ITS FALSE NEIGHBOUR: 'it returns false'. Refute it at one input. -/
def fnBoxWrong : ChangeSpec := { name := "fnBox", fn := fun _ => fun
  | [d] => { results := [.lit (.bool false)], args := [d] }
  | _ => none }
def FnBoxWrongFalsely : Prop := fnBoxRow.holds Try.pinned (OpenSpec.ofChange fnBoxWrong)

/-- 'laws.FnWindow': WHATEVER THE INPUT: true; the input reads as it did. -/
def fnWindowSpec : ChangeSpec := { name := "fnWindow", fn := fun _ => fun
  | [d] => { results := [.lit (.bool true)], args := [d] }
  | _ => none }
def fnWindowRow : OpenClaim := { program := "ytljmmmkehieboaa", sum := "962e2718143d1da64901c8365b238fc4a8268cb70d2cb34028e3c2cc2f5b1137", func := "loop.example/dragonnumbers/laws.FnWindow", spec := "fnWindow", inPlace := ["math.Float32bits"], apart := false }
def FnWindowSaid : Prop := fnWindowRow.holds Try.pinned (OpenSpec.ofChange fnWindowSpec)

/-- ITS FALSE NEIGHBOUR: 'it returns false'. Refute it at one input. -/
def fnWindowWrong : ChangeSpec := { name := "fnWindow", fn := fun _ => fun
  | [d] => { results := [.lit (.bool false)], args := [d] }
  | _ => none }
def FnWindowWrongFalsely : Prop := fnWindowRow.holds Try.pinned (OpenSpec.ofChange fnWindowWrong)

/-- 'laws.FnTwice': WHATEVER THE INPUT: true; the input reads as it did. -/
def fnTwiceSpec : ChangeSpec := { name := "fnTwice", fn := fun _ => fun
  | [d] => { results := [.lit (.bool true)], args := [d] }
  | _ => none }
def fnTwiceRow : OpenClaim := { program := "ytljmmmkehieboaa", sum := "962e2718143d1da64901c8365b238fc4a8268cb70d2cb34028e3c2cc2f5b1137", func := "loop.example/dragonnumbers/laws.FnTwice", spec := "fnTwice", inPlace := ["math.Float32bits"], apart := false }
def FnTwiceSaid : Prop := fnTwiceRow.holds Try.pinned (OpenSpec.ofChange fnTwiceSpec)

/-- ITS FALSE NEIGHBOUR: 'it returns false'. Refute it at one input. -/
def fnTwiceWrong : ChangeSpec := { name := "fnTwice", fn := fun _ => fun
  | [d] => { results := [.lit (.bool false)], args := [d] }
  | _ => none }
def FnTwiceWrongFalsely : Prop := fnTwiceRow.holds Try.pinned (OpenSpec.ofChange fnTwiceWrong)

/- THE SECOND FORM. 'bulk': how many values and letters a reading holds, each counted each time it is reached (what is shared counts as often as it is met; a slice's spare places count too). A statement '..UptoSaid' is the law's where the arguments, and the package variables that the reading takes, are together of bulk at most 1048576: NARROWER than '..Said'. Prove '..Said' where nothing that the law and all that it calls make is longer than what came in: it says more and counts as full. Else prove '..UptoSaid'. A law counts once. -/
mutual
def uptoBulk {H : Type} : DataW H → Nat
  | .lit (.string bytes) => bytes.length + 1
  | .lit _ => 1
  | .nil => 1
  | .ptr d => uptoBulk d + 1
  | .slice elems spare => uptoBulkAll elems + uptoBulkAll spare + 1
  | .agg parts => uptoBulkAll parts + 1
  | .iface _ d => uptoBulk d + 1
  | .map entries => uptoBulkEntries entries + 1
  | .held _ => 1
def uptoBulkAll {H : Type} : List (DataW H) → Nat
  | [] => 0
  | d :: r => uptoBulk d + uptoBulkAll r
def uptoBulkEntries {H : Type} : List (Lit × DataW H) → Nat
  | [] => 0
  | x :: r => uptoBulkEntry x + uptoBulkEntries r
def uptoBulkEntry {H : Type} : Lit × DataW H → Nat
  | (.string bytes, d) => bytes.length + uptoBulk d + 1
  | (_, d) => uptoBulk d + 1
 end
def uptoSmall : (H : Type) → List (DataW H) → Bool := fun _ ds => decide (uptoBulkAll ds ≤ 1048576)
def OpenSpec.upto (s : _root_.Go.ChangeSpec) : _root_.Go.OpenSpec := { _root_.Go.OpenSpec.ofChange s with cond := some uptoSmall }

/-- 'laws.FnCurve', WHERE WHAT IT READS IS OF BULK AT MOST 1048576: true; the input reads as it did. -/
def fnCurveUptoRow : OpenClaim := { program := "ytljmmmkehieboaa", sum := "962e2718143d1da64901c8365b238fc4a8268cb70d2cb34028e3c2cc2f5b1137", func := "loop.example/dragonnumbers/laws.FnCurve", spec := "fnCurve", inPlace := ["math.Float32bits"], apart := false, narrowed := true }
def FnCurveUptoSaid : Prop := fnCurveUptoRow.holds Try.pinned (OpenSpec.upto fnCurveSpec)

/-- 'laws.FnPath', WHERE WHAT IT READS IS OF BULK AT MOST 1048576: true; the input reads as it did. -/
def fnPathUptoRow : OpenClaim := { program := "ytljmmmkehieboaa", sum := "962e2718143d1da64901c8365b238fc4a8268cb70d2cb34028e3c2cc2f5b1137", func := "loop.example/dragonnumbers/laws.FnPath", spec := "fnPath", inPlace := ["math.Float32bits"], apart := false, narrowed := true }
def FnPathUptoSaid : Prop := fnPathUptoRow.holds Try.pinned (OpenSpec.upto fnPathSpec)

/-- 'laws.FnCurveWord', WHERE WHAT IT READS IS OF BULK AT MOST 1048576: true; the input reads as it did. -/
def fnCurveWordUptoRow : OpenClaim := { program := "ytljmmmkehieboaa", sum := "962e2718143d1da64901c8365b238fc4a8268cb70d2cb34028e3c2cc2f5b1137", func := "loop.example/dragonnumbers/laws.FnCurveWord", spec := "fnCurveWord", inPlace := ["math.Float32bits"], apart := false, narrowed := true }
def FnCurveWordUptoSaid : Prop := fnCurveWordUptoRow.holds Try.pinned (OpenSpec.upto fnCurveWordSpec)

/-- 'laws.FnCurveOnce', WHERE WHAT IT READS IS OF BULK AT MOST 1048576: true; the input reads as it did. -/
def fnCurveOnceUptoRow : OpenClaim := { program := "ytljmmmkehieboaa", sum := "962e2718143d1da64901c8365b238fc4a8268cb70d2cb34028e3c2cc2f5b1137", func := "loop.example/dragonnumbers/laws.FnCurveOnce", spec := "fnCurveOnce", inPlace := ["math.Float32bits"], apart := false, narrowed := true }
def FnCurveOnceUptoSaid : Prop := fnCurveOnceUptoRow.holds Try.pinned (OpenSpec.upto fnCurveOnceSpec)

/-- 'laws.FnCorners', WHERE WHAT IT READS IS OF BULK AT MOST 1048576: true; the input reads as it did. -/
def fnCornersUptoRow : OpenClaim := { program := "ytljmmmkehieboaa", sum := "962e2718143d1da64901c8365b238fc4a8268cb70d2cb34028e3c2cc2f5b1137", func := "loop.example/dragonnumbers/laws.FnCorners", spec := "fnCorners", inPlace := ["math.Float32bits"], apart := false, narrowed := true }
def FnCornersUptoSaid : Prop := fnCornersUptoRow.holds Try.pinned (OpenSpec.upto fnCornersSpec)

/-- 'laws.FnBox', WHERE WHAT IT READS IS OF BULK AT MOST 1048576: true; the input reads as it did. -/
def fnBoxUptoRow : OpenClaim := { program := "ytljmmmkehieboaa", sum := "962e2718143d1da64901c8365b238fc4a8268cb70d2cb34028e3c2cc2f5b1137", func := "loop.example/dragonnumbers/laws.FnBox", spec := "fnBox", inPlace := ["math.Float32bits"], apart := false, narrowed := true }
def FnBoxUptoSaid : Prop := fnBoxUptoRow.holds Try.pinned (OpenSpec.upto fnBoxSpec)

/-- 'laws.FnWindow', WHERE WHAT IT READS IS OF BULK AT MOST 1048576: true; the input reads as it did. -/
def fnWindowUptoRow : OpenClaim := { program := "ytljmmmkehieboaa", sum := "962e2718143d1da64901c8365b238fc4a8268cb70d2cb34028e3c2cc2f5b1137", func := "loop.example/dragonnumbers/laws.FnWindow", spec := "fnWindow", inPlace := ["math.Float32bits"], apart := false, narrowed := true }
def FnWindowUptoSaid : Prop := fnWindowUptoRow.holds Try.pinned (OpenSpec.upto fnWindowSpec)

/-- 'laws.FnTwice', WHERE WHAT IT READS IS OF BULK AT MOST 1048576: true; the input reads as it did. -/
def fnTwiceUptoRow : OpenClaim := { program := "ytljmmmkehieboaa", sum := "962e2718143d1da64901c8365b238fc4a8268cb70d2cb34028e3c2cc2f5b1137", func := "loop.example/dragonnumbers/laws.FnTwice", spec := "fnTwice", inPlace := ["math.Float32bits"], apart := false, narrowed := true }
def FnTwiceUptoSaid : Prop := fnTwiceUptoRow.holds Try.pinned (OpenSpec.upto fnTwiceSpec)

end Rows
end Go.Proofs.Ytljmmmkehieboaa

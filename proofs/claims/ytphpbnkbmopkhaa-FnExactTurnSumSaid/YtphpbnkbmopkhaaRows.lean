/-
  No cell of these rows narrows 'for every input' (looked for: loops, veiled, ifaces, maps, wideKeys, modest, calm, conditions, laid).
  DERIVED. THE GIVEN ROWS OF THIS SEAT. 6 by the template 'for every input the law returns true; each argument reads behind the call as it read before'; 0 by the template 'total and deterministic' (their statements: YtphpbnkbmopkhaaTotals.lean).
  GIVEN WITH THE SEED: the statements are not yours to turn. If you find one false, say at which input.
  Laid BY PROGRAM, IN A SANDBOX (cutbox-rows.mjs): the forced cells as the released guide's own fill.sh prints them over the translation 4a639ed974fb09e0… (all of the seat's roots in one cut). By AI agents, Wed Nov 11 2026. No macro, syntax, notation, axiom, sorry.
-/
import Derived.Test.YtphpbnkbmopkhaaChecked
import GoSem.Claim
import GoSem.ClaimJoined
import GoSem.ClaimMapViews
import Derived.JoinedTies
import Derived.KernelRfl
namespace Go.Proofs.Ytphpbnkbmopkhaa
/- THE CELL 'sum', in the pinned program and in every row, IS THE sha256 OF THE DUMP (.gsa) THAT YtphpbnkbmopkhaaProg.lean LOADS. Nothing in Lean hashes anything: it is a label: what it is worth is what the hold of that sum in a sandbox is worth. -/
noncomputable def Try.pinned : Pinned := { name := "ytphpbnkbmopkhaa", sum := "4a639ed974fb09e0defc9e901ee4643f5079d3508de07fb6b6e6df40eb05572f", checked := Try.checked }
namespace Rows
def none {H : Type} : Left H := { results := [], args := [] }

/-- 'laws.FnBack': WHATEVER THE INPUT: true; the input reads as it did. -/
def fnBackSpec : ChangeSpec := { name := "fnBack", fn := fun _ => fun
  | [d] => { results := [.lit (.bool true)], args := [d] }
  | _ => none }
def fnBackRow : OpenClaim := { program := "ytphpbnkbmopkhaa", sum := "4a639ed974fb09e0defc9e901ee4643f5079d3508de07fb6b6e6df40eb05572f", func := "loop.example/dragonnumbers/laws.FnBack", spec := "fnBack", apart := false }
def FnBackSaid : Prop := fnBackRow.holds Try.pinned (OpenSpec.ofChange fnBackSpec)

/-- ITS FALSE NEIGHBOUR: 'it returns false'. Refute it at one input. -/
def fnBackWrong : ChangeSpec := { name := "fnBack", fn := fun _ => fun
  | [d] => { results := [.lit (.bool false)], args := [d] }
  | _ => none }
def FnBackWrongFalsely : Prop := fnBackRow.holds Try.pinned (OpenSpec.ofChange fnBackWrong)

/-- 'laws.FnUnfold': WHATEVER THE INPUT: true; the input reads as it did. -/
def fnUnfoldSpec : ChangeSpec := { name := "fnUnfold", fn := fun _ => fun
  | [d] => { results := [.lit (.bool true)], args := [d] }
  | _ => none }
def fnUnfoldRow : OpenClaim := { program := "ytphpbnkbmopkhaa", sum := "4a639ed974fb09e0defc9e901ee4643f5079d3508de07fb6b6e6df40eb05572f", func := "loop.example/dragonnumbers/laws.FnUnfold", spec := "fnUnfold", apart := false }
def FnUnfoldSaid : Prop := fnUnfoldRow.holds Try.pinned (OpenSpec.ofChange fnUnfoldSpec)

/-- ITS FALSE NEIGHBOUR: 'it returns false'. Refute it at one input. -/
def fnUnfoldWrong : ChangeSpec := { name := "fnUnfold", fn := fun _ => fun
  | [d] => { results := [.lit (.bool false)], args := [d] }
  | _ => none }
def FnUnfoldWrongFalsely : Prop := fnUnfoldRow.holds Try.pinned (OpenSpec.ofChange fnUnfoldWrong)

/-- 'laws.FnSumTurns': WHATEVER THE INPUT: true; the input reads as it did. -/
def fnSumTurnsSpec : ChangeSpec := { name := "fnSumTurns", fn := fun _ => fun
  | [d] => { results := [.lit (.bool true)], args := [d] }
  | _ => none }
def fnSumTurnsRow : OpenClaim := { program := "ytphpbnkbmopkhaa", sum := "4a639ed974fb09e0defc9e901ee4643f5079d3508de07fb6b6e6df40eb05572f", func := "loop.example/dragonnumbers/laws.FnSumTurns", spec := "fnSumTurns", apart := false }
def FnSumTurnsSaid : Prop := fnSumTurnsRow.holds Try.pinned (OpenSpec.ofChange fnSumTurnsSpec)

/-- ITS FALSE NEIGHBOUR: 'it returns false'. Refute it at one input. -/
def fnSumTurnsWrong : ChangeSpec := { name := "fnSumTurns", fn := fun _ => fun
  | [d] => { results := [.lit (.bool false)], args := [d] }
  | _ => none }
def FnSumTurnsWrongFalsely : Prop := fnSumTurnsRow.holds Try.pinned (OpenSpec.ofChange fnSumTurnsWrong)

/-- 'laws.FnExactTurnBack': WHATEVER THE INPUT: true; the input reads as it did. -/
def fnExactTurnBackSpec : ChangeSpec := { name := "fnExactTurnBack", fn := fun _ => fun
  | [d] => { results := [.lit (.bool true)], args := [d] }
  | _ => none }
def fnExactTurnBackRow : OpenClaim := { program := "ytphpbnkbmopkhaa", sum := "4a639ed974fb09e0defc9e901ee4643f5079d3508de07fb6b6e6df40eb05572f", func := "loop.example/dragonnumbers/laws.FnExactTurnBack", spec := "fnExactTurnBack", apart := false }
def FnExactTurnBackSaid : Prop := fnExactTurnBackRow.holds Try.pinned (OpenSpec.ofChange fnExactTurnBackSpec)

/-- ITS FALSE NEIGHBOUR: 'it returns false'. Refute it at one input. -/
def fnExactTurnBackWrong : ChangeSpec := { name := "fnExactTurnBack", fn := fun _ => fun
  | [d] => { results := [.lit (.bool false)], args := [d] }
  | _ => none }
def FnExactTurnBackWrongFalsely : Prop := fnExactTurnBackRow.holds Try.pinned (OpenSpec.ofChange fnExactTurnBackWrong)

/-- 'laws.FnExactTurnUnfold': WHATEVER THE INPUT: true; the input reads as it did. -/
def fnExactTurnUnfoldSpec : ChangeSpec := { name := "fnExactTurnUnfold", fn := fun _ => fun
  | [d1, d2] => { results := [.lit (.bool true)], args := [d1, d2] }
  | _ => none }
def fnExactTurnUnfoldRow : OpenClaim := { program := "ytphpbnkbmopkhaa", sum := "4a639ed974fb09e0defc9e901ee4643f5079d3508de07fb6b6e6df40eb05572f", func := "loop.example/dragonnumbers/laws.FnExactTurnUnfold", spec := "fnExactTurnUnfold", apart := false }
def FnExactTurnUnfoldSaid : Prop := fnExactTurnUnfoldRow.holds Try.pinned (OpenSpec.ofChange fnExactTurnUnfoldSpec)

/-- ITS FALSE NEIGHBOUR: 'it returns false'. Refute it at one input. -/
def fnExactTurnUnfoldWrong : ChangeSpec := { name := "fnExactTurnUnfold", fn := fun _ => fun
  | [d1, d2] => { results := [.lit (.bool false)], args := [d1, d2] }
  | _ => none }
def FnExactTurnUnfoldWrongFalsely : Prop := fnExactTurnUnfoldRow.holds Try.pinned (OpenSpec.ofChange fnExactTurnUnfoldWrong)

/-- 'laws.FnExactTurnSum': WHATEVER THE INPUT: true; the input reads as it did. -/
def fnExactTurnSumSpec : ChangeSpec := { name := "fnExactTurnSum", fn := fun _ => fun
  | [d] => { results := [.lit (.bool true)], args := [d] }
  | _ => none }
def fnExactTurnSumRow : OpenClaim := { program := "ytphpbnkbmopkhaa", sum := "4a639ed974fb09e0defc9e901ee4643f5079d3508de07fb6b6e6df40eb05572f", func := "loop.example/dragonnumbers/laws.FnExactTurnSum", spec := "fnExactTurnSum", apart := false }
def FnExactTurnSumSaid : Prop := fnExactTurnSumRow.holds Try.pinned (OpenSpec.ofChange fnExactTurnSumSpec)

/-- ITS FALSE NEIGHBOUR: 'it returns false'. Refute it at one input. -/
def fnExactTurnSumWrong : ChangeSpec := { name := "fnExactTurnSum", fn := fun _ => fun
  | [d] => { results := [.lit (.bool false)], args := [d] }
  | _ => none }
def FnExactTurnSumWrongFalsely : Prop := fnExactTurnSumRow.holds Try.pinned (OpenSpec.ofChange fnExactTurnSumWrong)

/- THE SECOND FORM. 'bulk': how many values and letters a reading holds, each counted each time it is reached (what is shared counts as often as it is met; a slice's spare places count too). A statement '..UptoSaid' is the law's where the arguments, and the package variables that the reading takes, are together of bulk at most 1048576: NARROWER than '..Said'. Prove '..Said' where nothing that the law and all that it calls make is longer than what came in: it says more and counts as full. Else prove '..UptoSaid'. A law counts once. -/
mutual
def uptoBulk {H : Type} : DataW H → Nat
  | .lit (.string bytes) => bytes.length + 1
  | .lit _ => 1
  | .nil => 1
  | .ptr d => uptoBulk d + 1
  | .slice elems spare => uptoBulkAll elems + uptoBulkAll spare + 1
  | .agg parts => uptoBulkAll parts + 1
  | .iface _ d => uptoBulk d + 1
  | .map entries => uptoBulkEntries entries + 1
  | .held _ => 1
def uptoBulkAll {H : Type} : List (DataW H) → Nat
  | [] => 0
  | d :: r => uptoBulk d + uptoBulkAll r
def uptoBulkEntries {H : Type} : List (Lit × DataW H) → Nat
  | [] => 0
  | x :: r => uptoBulkEntry x + uptoBulkEntries r
def uptoBulkEntry {H : Type} : Lit × DataW H → Nat
  | (.string bytes, d) => bytes.length + uptoBulk d + 1
  | (_, d) => uptoBulk d + 1
 end
def uptoSmall : (H : Type) → List (DataW H) → Bool := fun _ ds => decide (uptoBulkAll ds ≤ 1048576)
def OpenSpec.upto (s : _root_.Go.ChangeSpec) : _root_.Go.OpenSpec := { _root_.Go.OpenSpec.ofChange s with cond := some uptoSmall }

/-- 'laws.FnBack', WHERE WHAT IT READS IS OF BULK AT MOST 1048576: true; the input reads as it did. -/
def fnBackUptoRow : OpenClaim := { program := "ytphpbnkbmopkhaa", sum := "4a639ed974fb09e0defc9e901ee4643f5079d3508de07fb6b6e6df40eb05572f", func := "loop.example/dragonnumbers/laws.FnBack", spec := "fnBack", apart := false, narrowed := true }
def FnBackUptoSaid : Prop := fnBackUptoRow.holds Try.pinned (OpenSpec.upto fnBackSpec)

/-- 'laws.FnUnfold', WHERE WHAT IT READS IS OF BULK AT MOST 1048576: true; the input reads as it did. -/
def fnUnfoldUptoRow : OpenClaim := { program := "ytphpbnkbmopkhaa", sum := "4a639ed974fb09e0defc9e901ee4643f5079d3508de07fb6b6e6df40eb05572f", func := "loop.example/dragonnumbers/laws.FnUnfold", spec := "fnUnfold", apart := false, narrowed := true }
def FnUnfoldUptoSaid : Prop := fnUnfoldUptoRow.holds Try.pinned (OpenSpec.upto fnUnfoldSpec)

/-- 'laws.FnSumTurns', WHERE WHAT IT READS IS OF BULK AT MOST 1048576: true; the input reads as it did. -/
def fnSumTurnsUptoRow : OpenClaim := { program := "ytphpbnkbmopkhaa", sum := "4a639ed974fb09e0defc9e901ee4643f5079d3508de07fb6b6e6df40eb05572f", func := "loop.example/dragonnumbers/laws.FnSumTurns", spec := "fnSumTurns", apart := false, narrowed := true }
def FnSumTurnsUptoSaid : Prop := fnSumTurnsUptoRow.holds Try.pinned (OpenSpec.upto fnSumTurnsSpec)

/-- 'laws.FnExactTurnBack', WHERE WHAT IT READS IS OF BULK AT MOST 1048576: true; the input reads as it did. -/
def fnExactTurnBackUptoRow : OpenClaim := { program := "ytphpbnkbmopkhaa", sum := "4a639ed974fb09e0defc9e901ee4643f5079d3508de07fb6b6e6df40eb05572f", func := "loop.example/dragonnumbers/laws.FnExactTurnBack", spec := "fnExactTurnBack", apart := false, narrowed := true }
def FnExactTurnBackUptoSaid : Prop := fnExactTurnBackUptoRow.holds Try.pinned (OpenSpec.upto fnExactTurnBackSpec)

/-- 'laws.FnExactTurnUnfold', WHERE WHAT IT READS IS OF BULK AT MOST 1048576: true; the input reads as it did. -/
def fnExactTurnUnfoldUptoRow : OpenClaim := { program := "ytphpbnkbmopkhaa", sum := "4a639ed974fb09e0defc9e901ee4643f5079d3508de07fb6b6e6df40eb05572f", func := "loop.example/dragonnumbers/laws.FnExactTurnUnfold", spec := "fnExactTurnUnfold", apart := false, narrowed := true }
def FnExactTurnUnfoldUptoSaid : Prop := fnExactTurnUnfoldUptoRow.holds Try.pinned (OpenSpec.upto fnExactTurnUnfoldSpec)

/-- 'laws.FnExactTurnSum', WHERE WHAT IT READS IS OF BULK AT MOST 1048576: true; the input reads as it did. -/
def fnExactTurnSumUptoRow : OpenClaim := { program := "ytphpbnkbmopkhaa", sum := "4a639ed974fb09e0defc9e901ee4643f5079d3508de07fb6b6e6df40eb05572f", func := "loop.example/dragonnumbers/laws.FnExactTurnSum", spec := "fnExactTurnSum", apart := false, narrowed := true }
def FnExactTurnSumUptoSaid : Prop := fnExactTurnSumUptoRow.holds Try.pinned (OpenSpec.upto fnExactTurnSumSpec)

end Rows
end Go.Proofs.Ytphpbnkbmopkhaa

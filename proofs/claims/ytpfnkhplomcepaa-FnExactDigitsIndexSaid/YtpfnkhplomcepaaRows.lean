/-
  No cell of these rows narrows 'for every input' (looked for: loops, veiled, ifaces, maps, wideKeys, modest, calm, conditions, laid).
  DERIVED. THE GIVEN ROWS OF THIS SEAT. 3 by the template 'for every input the law returns true; each argument reads behind the call as it read before'; 0 by the template 'total and deterministic' (their statements: YtpfnkhplomcepaaTotals.lean).
  GIVEN WITH THE SEED: the statements are not yours to turn. If you find one false, say at which input.
  Laid BY PROGRAM, IN A SANDBOX (cutbox-rows.mjs): the forced cells as the released guide's own fill.sh prints them over the translation eb557bf98bd1fa3c… (all of the seat's roots in one cut). By AI agents, Wed Nov 11 2026. No macro, syntax, notation, axiom, sorry.
-/
import Derived.Test.YtpfnkhplomcepaaChecked
import GoSem.Claim
import GoSem.ClaimJoined
import GoSem.ClaimMapViews
import Derived.JoinedTies
import Derived.KernelRfl
namespace Go.Proofs.Ytpfnkhplomcepaa
/- THE CELL 'sum', in the pinned program and in every row, IS THE sha256 OF THE DUMP (.gsa) THAT YtpfnkhplomcepaaProg.lean LOADS. Nothing in Lean hashes anything: it is a label: what it is worth is what the hold of that sum in a sandbox is worth. -/
noncomputable def Try.pinned : Pinned := { name := "ytpfnkhplomcepaa", sum := "eb557bf98bd1fa3c6429b910770e6a1e1bb3042470ba862de386f2392cb4c4e4", checked := Try.checked }
namespace Rows
def none {H : Type} : Left H := { results := [], args := [] }

/-- 'laws.FnExactDigitsValid': WHATEVER THE INPUT: true; the input reads as it did. -/
def fnExactDigitsValidSpec : ChangeSpec := { name := "fnExactDigitsValid", fn := fun _ => fun
  | [d] => { results := [.lit (.bool true)], args := [d] }
  | _ => none }
def fnExactDigitsValidRow : OpenClaim := { program := "ytpfnkhplomcepaa", sum := "eb557bf98bd1fa3c6429b910770e6a1e1bb3042470ba862de386f2392cb4c4e4", func := "loop.example/dragonnumbers/laws.FnExactDigitsValid", spec := "fnExactDigitsValid", apart := false }
def FnExactDigitsValidSaid : Prop := fnExactDigitsValidRow.holds Try.pinned (OpenSpec.ofChange fnExactDigitsValidSpec)

/-- ITS FALSE NEIGHBOUR: 'it returns false'. Refute it at one input. -/
def fnExactDigitsValidWrong : ChangeSpec := { name := "fnExactDigitsValid", fn := fun _ => fun
  | [d] => { results := [.lit (.bool false)], args := [d] }
  | _ => none }
def FnExactDigitsValidWrongFalsely : Prop := fnExactDigitsValidRow.holds Try.pinned (OpenSpec.ofChange fnExactDigitsValidWrong)

/-- 'laws.FnExactDigitsValue': WHATEVER THE INPUT: true; the input reads as it did. -/
def fnExactDigitsValueSpec : ChangeSpec := { name := "fnExactDigitsValue", fn := fun _ => fun
  | [d] => { results := [.lit (.bool true)], args := [d] }
  | _ => none }
def fnExactDigitsValueRow : OpenClaim := { program := "ytpfnkhplomcepaa", sum := "eb557bf98bd1fa3c6429b910770e6a1e1bb3042470ba862de386f2392cb4c4e4", func := "loop.example/dragonnumbers/laws.FnExactDigitsValue", spec := "fnExactDigitsValue", apart := false }
def FnExactDigitsValueSaid : Prop := fnExactDigitsValueRow.holds Try.pinned (OpenSpec.ofChange fnExactDigitsValueSpec)

/-- ITS FALSE NEIGHBOUR: 'it returns false'. Refute it at one input. -/
def fnExactDigitsValueWrong : ChangeSpec := { name := "fnExactDigitsValue", fn := fun _ => fun
  | [d] => { results := [.lit (.bool false)], args := [d] }
  | _ => none }
def FnExactDigitsValueWrongFalsely : Prop := fnExactDigitsValueRow.holds Try.pinned (OpenSpec.ofChange fnExactDigitsValueWrong)

/-- 'laws.FnExactDigitsIndex': WHATEVER THE INPUT: true; the input reads as it did. -/
def fnExactDigitsIndexSpec : ChangeSpec := { name := "fnExactDigitsIndex", fn := fun _ => fun
  | [d] => { results := [.lit (.bool true)], args := [d] }
  | _ => none }
def fnExactDigitsIndexRow : OpenClaim := { program := "ytpfnkhplomcepaa", sum := "eb557bf98bd1fa3c6429b910770e6a1e1bb3042470ba862de386f2392cb4c4e4", func := "loop.example/dragonnumbers/laws.FnExactDigitsIndex", spec := "fnExactDigitsIndex", apart := false }
def FnExactDigitsIndexSaid : Prop := fnExactDigitsIndexRow.holds Try.pinned (OpenSpec.ofChange fnExactDigitsIndexSpec)

/-- ITS FALSE NEIGHBOUR: 'it returns false'. Refute it at one input. -/
def fnExactDigitsIndexWrong : ChangeSpec := { name := "fnExactDigitsIndex", fn := fun _ => fun
  | [d] => { results := [.lit (.bool false)], args := [d] }
  | _ => none }
def FnExactDigitsIndexWrongFalsely : Prop := fnExactDigitsIndexRow.holds Try.pinned (OpenSpec.ofChange fnExactDigitsIndexWrong)

/- THE SECOND FORM. 'bulk': how many values and letters a reading holds, each counted each time it is reached (what is shared counts as often as it is met; a slice's spare places count too). A statement '..UptoSaid' is the law's where the arguments, and the package variables that the reading takes, are together of bulk at most 1048576: NARROWER than '..Said'. Prove '..Said' where nothing that the law and all that it calls make is longer than what came in: it says more and counts as full. Else prove '..UptoSaid'. A law counts once. -/
mutual
def uptoBulk {H : Type} : DataW H → Nat
  | .lit (.string bytes) => bytes.length + 1
  | .lit _ => 1
  | .nil => 1
  | .ptr d => uptoBulk d + 1
  | .slice elems spare => uptoBulkAll elems + uptoBulkAll spare + 1
  | .agg parts => uptoBulkAll parts + 1
  | .iface _ d => uptoBulk d + 1
  | .map entries => uptoBulkEntries entries + 1
  | .held _ => 1
def uptoBulkAll {H : Type} : List (DataW H) → Nat
  | [] => 0
  | d :: r => uptoBulk d + uptoBulkAll r
def uptoBulkEntries {H : Type} : List (Lit × DataW H) → Nat
  | [] => 0
  | x :: r => uptoBulkEntry x + uptoBulkEntries r
def uptoBulkEntry {H : Type} : Lit × DataW H → Nat
  | (.string bytes, d) => bytes.length + uptoBulk d + 1
  | (_, d) => uptoBulk d + 1
 end
def uptoSmall : (H : Type) → List (DataW H) → Bool := fun _ ds => decide (uptoBulkAll ds ≤ 1048576)
def OpenSpec.upto (s : _root_.Go.ChangeSpec) : _root_.Go.OpenSpec := { _root_.Go.OpenSpec.ofChange s with cond := some uptoSmall }

/-- 'laws.FnExactDigitsValid', WHERE WHAT IT READS IS OF BULK AT MOST 1048576: true; the input reads as it did. -/
def fnExactDigitsValidUptoRow : OpenClaim := { program := "ytpfnkhplomcepaa", sum := "eb557bf98bd1fa3c6429b910770e6a1e1bb3042470ba862de386f2392cb4c4e4", func := "loop.example/dragonnumbers/laws.FnExactDigitsValid", spec := "fnExactDigitsValid", apart := false, narrowed := true }
def FnExactDigitsValidUptoSaid : Prop := fnExactDigitsValidUptoRow.holds Try.pinned (OpenSpec.upto fnExactDigitsValidSpec)

/-- 'laws.FnExactDigitsValue', WHERE WHAT IT READS IS OF BULK AT MOST 1048576: true; the input reads as it did. -/
def fnExactDigitsValueUptoRow : OpenClaim := { program := "ytpfnkhplomcepaa", sum := "eb557bf98bd1fa3c6429b910770e6a1e1bb3042470ba862de386f2392cb4c4e4", func := "loop.example/dragonnumbers/laws.FnExactDigitsValue", spec := "fnExactDigitsValue", apart := false, narrowed := true }
def FnExactDigitsValueUptoSaid : Prop := fnExactDigitsValueUptoRow.holds Try.pinned (OpenSpec.upto fnExactDigitsValueSpec)

/-- 'laws.FnExactDigitsIndex', WHERE WHAT IT READS IS OF BULK AT MOST 1048576: true; the input reads as it did. -/
def fnExactDigitsIndexUptoRow : OpenClaim := { program := "ytpfnkhplomcepaa", sum := "eb557bf98bd1fa3c6429b910770e6a1e1bb3042470ba862de386f2392cb4c4e4", func := "loop.example/dragonnumbers/laws.FnExactDigitsIndex", spec := "fnExactDigitsIndex", apart := false, narrowed := true }
def FnExactDigitsIndexUptoSaid : Prop := fnExactDigitsIndexUptoRow.holds Try.pinned (OpenSpec.upto fnExactDigitsIndexSpec)

end Rows
end Go.Proofs.Ytpfnkhplomcepaa

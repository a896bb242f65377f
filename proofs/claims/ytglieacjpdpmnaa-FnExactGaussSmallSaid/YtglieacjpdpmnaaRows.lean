/-
  No cell of these rows narrows 'for every input' (looked for: loops, veiled, ifaces, maps, wideKeys, modest, calm, conditions, laid).
  DERIVED. THE GIVEN ROWS OF THIS SEAT. 9 by the template 'for every input the law returns true; each argument reads behind the call as it read before'; 0 by the template 'total and deterministic' (their statements: YtglieacjpdpmnaaTotals.lean).
  GIVEN WITH THE SEED: the statements are not yours to turn. If you find one false, say at which input.
  Laid BY PROGRAM, IN A SANDBOX (cutbox-rows.mjs): the forced cells as the released guide's own fill.sh prints them over the translation a4c6b98ebb7fafbb… (all of the seat's roots in one cut). By AI agents, Wed Nov 11 2026. No macro, syntax, notation, axiom, sorry.
-/
import Derived.Test.YtglieacjpdpmnaaChecked
import GoSem.Claim
import GoSem.ClaimJoined
import GoSem.ClaimMapViews
import Derived.JoinedTies
import Derived.KernelRfl
namespace Go.Proofs.Ytglieacjpdpmnaa
/- THE CELL 'sum', in the pinned program and in every row, IS THE sha256 OF THE DUMP (.gsa) THAT YtglieacjpdpmnaaProg.lean LOADS. Nothing in Lean hashes anything: it is a label: what it is worth is what the hold of that sum in a sandbox is worth. -/
noncomputable def Try.pinned : Pinned := { name := "ytglieacjpdpmnaa", sum := "a4c6b98ebb7fafbb44f8635dc7551b3402d624495b5dfcf3ba1b1165db29c75d", checked := Try.checked }
namespace Rows
def none {H : Type} : Left H := { results := [], args := [] }

/-- 'laws.FnExactGaussSmall': WHATEVER THE INPUT: true; the input reads as it did. -/
def fnExactGaussSmallSpec : ChangeSpec := { name := "fnExactGaussSmall", fn := fun _ => fun
  | [d] => { results := [.lit (.bool true)], args := [d] }
  | _ => none }
def fnExactGaussSmallRow : OpenClaim := { program := "ytglieacjpdpmnaa", sum := "a4c6b98ebb7fafbb44f8635dc7551b3402d624495b5dfcf3ba1b1165db29c75d", func := "loop.example/dragonnumbers/laws.FnExactGaussSmall", spec := "fnExactGaussSmall", apart := false }
def FnExactGaussSmallSaid : Prop := fnExactGaussSmallRow.holds Try.pinned (OpenSpec.ofChange fnExactGaussSmallSpec)

/-- ITS FALSE NEIGHBOUR: 'it returns false'. Refute it at one input. -/
def fnExactGaussSmallWrong : ChangeSpec := { name := "fnExactGaussSmall", fn := fun _ => fun
  | [d] => { results := [.lit (.bool false)], args := [d] }
  | _ => none }
def FnExactGaussSmallWrongFalsely : Prop := fnExactGaussSmallRow.holds Try.pinned (OpenSpec.ofChange fnExactGaussSmallWrong)

/-- 'laws.FnExactGaussAdd': WHATEVER THE INPUT: true; the input reads as it did. -/
def fnExactGaussAddSpec : ChangeSpec := { name := "fnExactGaussAdd", fn := fun _ => fun
  | [d1, d2] => { results := [.lit (.bool true)], args := [d1, d2] }
  | _ => none }
def fnExactGaussAddRow : OpenClaim := { program := "ytglieacjpdpmnaa", sum := "a4c6b98ebb7fafbb44f8635dc7551b3402d624495b5dfcf3ba1b1165db29c75d", func := "loop.example/dragonnumbers/laws.FnExactGaussAdd", spec := "fnExactGaussAdd", apart := false }
def FnExactGaussAddSaid : Prop := fnExactGaussAddRow.holds Try.pinned (OpenSpec.ofChange fnExactGaussAddSpec)

/-- ITS FALSE NEIGHBOUR: 'it returns false'. Refute it at one input. -/
def fnExactGaussAddWrong : ChangeSpec := { name := "fnExactGaussAdd", fn := fun _ => fun
  | [d1, d2] => { results := [.lit (.bool false)], args := [d1, d2] }
  | _ => none }
def FnExactGaussAddWrongFalsely : Prop := fnExactGaussAddRow.holds Try.pinned (OpenSpec.ofChange fnExactGaussAddWrong)

/-- 'laws.FnExactGaussTimes': WHATEVER THE INPUT: true; the input reads as it did. -/
def fnExactGaussTimesSpec : ChangeSpec := { name := "fnExactGaussTimes", fn := fun _ => fun
  | [d1, d2] => { results := [.lit (.bool true)], args := [d1, d2] }
  | _ => none }
def fnExactGaussTimesRow : OpenClaim := { program := "ytglieacjpdpmnaa", sum := "a4c6b98ebb7fafbb44f8635dc7551b3402d624495b5dfcf3ba1b1165db29c75d", func := "loop.example/dragonnumbers/laws.FnExactGaussTimes", spec := "fnExactGaussTimes", apart := false }
def FnExactGaussTimesSaid : Prop := fnExactGaussTimesRow.holds Try.pinned (OpenSpec.ofChange fnExactGaussTimesSpec)

/-- ITS FALSE NEIGHBOUR: 'it returns false'. Refute it at one input. -/
def fnExactGaussTimesWrong : ChangeSpec := { name := "fnExactGaussTimes", fn := fun _ => fun
  | [d1, d2] => { results := [.lit (.bool false)], args := [d1, d2] }
  | _ => none }
def FnExactGaussTimesWrongFalsely : Prop := fnExactGaussTimesRow.holds Try.pinned (OpenSpec.ofChange fnExactGaussTimesWrong)

/-- 'laws.FnExactGaussNorm': WHATEVER THE INPUT: true; the input reads as it did. -/
def fnExactGaussNormSpec : ChangeSpec := { name := "fnExactGaussNorm", fn := fun _ => fun
  | [d] => { results := [.lit (.bool true)], args := [d] }
  | _ => none }
def fnExactGaussNormRow : OpenClaim := { program := "ytglieacjpdpmnaa", sum := "a4c6b98ebb7fafbb44f8635dc7551b3402d624495b5dfcf3ba1b1165db29c75d", func := "loop.example/dragonnumbers/laws.FnExactGaussNorm", spec := "fnExactGaussNorm", apart := false }
def FnExactGaussNormSaid : Prop := fnExactGaussNormRow.holds Try.pinned (OpenSpec.ofChange fnExactGaussNormSpec)

/-- ITS FALSE NEIGHBOUR: 'it returns false'. Refute it at one input. -/
def fnExactGaussNormWrong : ChangeSpec := { name := "fnExactGaussNorm", fn := fun _ => fun
  | [d] => { results := [.lit (.bool false)], args := [d] }
  | _ => none }
def FnExactGaussNormWrongFalsely : Prop := fnExactGaussNormRow.holds Try.pinned (OpenSpec.ofChange fnExactGaussNormWrong)

/-- 'laws.FnExactGaussDivide': WHATEVER THE INPUT: true; the input reads as it did. -/
def fnExactGaussDivideSpec : ChangeSpec := { name := "fnExactGaussDivide", fn := fun _ => fun
  | [d1, d2] => { results := [.lit (.bool true)], args := [d1, d2] }
  | _ => none }
def fnExactGaussDivideRow : OpenClaim := { program := "ytglieacjpdpmnaa", sum := "a4c6b98ebb7fafbb44f8635dc7551b3402d624495b5dfcf3ba1b1165db29c75d", func := "loop.example/dragonnumbers/laws.FnExactGaussDivide", spec := "fnExactGaussDivide", apart := false }
def FnExactGaussDivideSaid : Prop := fnExactGaussDivideRow.holds Try.pinned (OpenSpec.ofChange fnExactGaussDivideSpec)

/-- ITS FALSE NEIGHBOUR: 'it returns false'. Refute it at one input. -/
def fnExactGaussDivideWrong : ChangeSpec := { name := "fnExactGaussDivide", fn := fun _ => fun
  | [d1, d2] => { results := [.lit (.bool false)], args := [d1, d2] }
  | _ => none }
def FnExactGaussDivideWrongFalsely : Prop := fnExactGaussDivideRow.holds Try.pinned (OpenSpec.ofChange fnExactGaussDivideWrong)

/-- 'laws.FnExactGaussFirst': WHATEVER THE INPUT: true; the input reads as it did. -/
def fnExactGaussFirstSpec : ChangeSpec := { name := "fnExactGaussFirst", fn := fun _ => fun
  | [d] => { results := [.lit (.bool true)], args := [d] }
  | _ => none }
def fnExactGaussFirstRow : OpenClaim := { program := "ytglieacjpdpmnaa", sum := "a4c6b98ebb7fafbb44f8635dc7551b3402d624495b5dfcf3ba1b1165db29c75d", func := "loop.example/dragonnumbers/laws.FnExactGaussFirst", spec := "fnExactGaussFirst", apart := false }
def FnExactGaussFirstSaid : Prop := fnExactGaussFirstRow.holds Try.pinned (OpenSpec.ofChange fnExactGaussFirstSpec)

/-- ITS FALSE NEIGHBOUR: 'it returns false'. Refute it at one input. -/
def fnExactGaussFirstWrong : ChangeSpec := { name := "fnExactGaussFirst", fn := fun _ => fun
  | [d] => { results := [.lit (.bool false)], args := [d] }
  | _ => none }
def FnExactGaussFirstWrongFalsely : Prop := fnExactGaussFirstRow.holds Try.pinned (OpenSpec.ofChange fnExactGaussFirstWrong)

/-- 'laws.FnExactGaussGcd': WHATEVER THE INPUT: true; the input reads as it did. -/
def fnExactGaussGcdSpec : ChangeSpec := { name := "fnExactGaussGcd", fn := fun _ => fun
  | [d1, d2] => { results := [.lit (.bool true)], args := [d1, d2] }
  | _ => none }
def fnExactGaussGcdRow : OpenClaim := { program := "ytglieacjpdpmnaa", sum := "a4c6b98ebb7fafbb44f8635dc7551b3402d624495b5dfcf3ba1b1165db29c75d", func := "loop.example/dragonnumbers/laws.FnExactGaussGcd", spec := "fnExactGaussGcd", apart := false }
def FnExactGaussGcdSaid : Prop := fnExactGaussGcdRow.holds Try.pinned (OpenSpec.ofChange fnExactGaussGcdSpec)

/-- ITS FALSE NEIGHBOUR: 'it returns false'. Refute it at one input. -/
def fnExactGaussGcdWrong : ChangeSpec := { name := "fnExactGaussGcd", fn := fun _ => fun
  | [d1, d2] => { results := [.lit (.bool false)], args := [d1, d2] }
  | _ => none }
def FnExactGaussGcdWrongFalsely : Prop := fnExactGaussGcdRow.holds Try.pinned (OpenSpec.ofChange fnExactGaussGcdWrong)

/-- 'laws.FnExactGaussPrime': WHATEVER THE INPUT: true; the input reads as it did. -/
def fnExactGaussPrimeSpec : ChangeSpec := { name := "fnExactGaussPrime", fn := fun _ => fun
  | [d] => { results := [.lit (.bool true)], args := [d] }
  | _ => none }
def fnExactGaussPrimeRow : OpenClaim := { program := "ytglieacjpdpmnaa", sum := "a4c6b98ebb7fafbb44f8635dc7551b3402d624495b5dfcf3ba1b1165db29c75d", func := "loop.example/dragonnumbers/laws.FnExactGaussPrime", spec := "fnExactGaussPrime", apart := false }
def FnExactGaussPrimeSaid : Prop := fnExactGaussPrimeRow.holds Try.pinned (OpenSpec.ofChange fnExactGaussPrimeSpec)

/-- ITS FALSE NEIGHBOUR: 'it returns false'. Refute it at one input. -/
def fnExactGaussPrimeWrong : ChangeSpec := { name := "fnExactGaussPrime", fn := fun _ => fun
  | [d] => { results := [.lit (.bool false)], args := [d] }
  | _ => none }
def FnExactGaussPrimeWrongFalsely : Prop := fnExactGaussPrimeRow.holds Try.pinned (OpenSpec.ofChange fnExactGaussPrimeWrong)

/-- 'laws.FnExactGaussWide': WHATEVER THE INPUT: true; the input reads as it did. -/
def fnExactGaussWideSpec : ChangeSpec := { name := "fnExactGaussWide", fn := fun _ => fun
  | [d] => { results := [.lit (.bool true)], args := [d] }
  | _ => none }
def fnExactGaussWideRow : OpenClaim := { program := "ytglieacjpdpmnaa", sum := "a4c6b98ebb7fafbb44f8635dc7551b3402d624495b5dfcf3ba1b1165db29c75d", func := "loop.example/dragonnumbers/laws.FnExactGaussWide", spec := "fnExactGaussWide", apart := false }
def FnExactGaussWideSaid : Prop := fnExactGaussWideRow.holds Try.pinned (OpenSpec.ofChange fnExactGaussWideSpec)

/-- ITS FALSE NEIGHBOUR: 'it returns false'. Refute it at one input. -/
def fnExactGaussWideWrong : ChangeSpec := { name := "fnExactGaussWide", fn := fun _ => fun
  | [d] => { results := [.lit (.bool false)], args := [d] }
  | _ => none }
def FnExactGaussWideWrongFalsely : Prop := fnExactGaussWideRow.holds Try.pinned (OpenSpec.ofChange fnExactGaussWideWrong)

/- THE SECOND FORM. 'bulk': how many values and letters a reading holds, each counted each time it is reached (what is shared counts as often as it is met; a slice's spare places count too). A statement '..UptoSaid' is the law's where the arguments, and the package variables that the reading takes, are together of bulk at most 1048576: NARROWER than '..Said'. Prove '..Said' where nothing that the law and all that it calls make is longer than what came in: it says more and counts as full. Else prove '..UptoSaid'. A law counts once. -/
mutual
def uptoBulk {H : Type} : DataW H → Nat
  | .lit (.string bytes) => bytes.length + 1
  | .lit _ => 1
  | .nil => 1
  | .ptr d => uptoBulk d + 1
  | .slice elems spare => uptoBulkAll elems + uptoBulkAll spare + 1
  | .agg parts => uptoBulkAll parts + 1
  | .iface _ d => uptoBulk d + 1
  | .map entries => uptoBulkEntries entries + 1
  | .held _ => 1
def uptoBulkAll {H : Type} : List (DataW H) → Nat
  | [] => 0
  | d :: r => uptoBulk d + uptoBulkAll r
def uptoBulkEntries {H : Type} : List (Lit × DataW H) → Nat
  | [] => 0
  | x :: r => uptoBulkEntry x + uptoBulkEntries r
def uptoBulkEntry {H : Type} : Lit × DataW H → Nat
  | (.string bytes, d) => bytes.length + uptoBulk d + 1
  | (_, d) => uptoBulk d + 1
 end
def uptoSmall : (H : Type) → List (DataW H) → Bool := fun _ ds => decide (uptoBulkAll ds ≤ 1048576)
def OpenSpec.upto (s : _root_.Go.ChangeSpec) : _root_.Go.OpenSpec := { _root_.Go.OpenSpec.ofChange s with cond := some uptoSmall }

/-- 'laws.FnExactGaussSmall', WHERE WHAT IT READS IS OF BULK AT MOST 1048576: true; the input reads as it did. -/
def fnExactGaussSmallUptoRow : OpenClaim := { program := "ytglieacjpdpmnaa", sum := "a4c6b98ebb7fafbb44f8635dc7551b3402d624495b5dfcf3ba1b1165db29c75d", func := "loop.example/dragonnumbers/laws.FnExactGaussSmall", spec := "fnExactGaussSmall", apart := false, narrowed := true }
def FnExactGaussSmallUptoSaid : Prop := fnExactGaussSmallUptoRow.holds Try.pinned (OpenSpec.upto fnExactGaussSmallSpec)

/-- 'laws.FnExactGaussAdd', WHERE WHAT IT READS IS OF BULK AT MOST 1048576: true; the input reads as it did. -/
def fnExactGaussAddUptoRow : OpenClaim := { program := "ytglieacjpdpmnaa", sum := "a4c6b98ebb7fafbb44f8635dc7551b3402d624495b5dfcf3ba1b1165db29c75d", func := "loop.example/dragonnumbers/laws.FnExactGaussAdd", spec := "fnExactGaussAdd", apart := false, narrowed := true }
def FnExactGaussAddUptoSaid : Prop := fnExactGaussAddUptoRow.holds Try.pinned (OpenSpec.upto fnExactGaussAddSpec)

/-- 'laws.FnExactGaussTimes', WHERE WHAT IT READS IS OF BULK AT MOST 1048576: true; the input reads as it did. -/
def fnExactGaussTimesUptoRow : OpenClaim := { program := "ytglieacjpdpmnaa", sum := "a4c6b98ebb7fafbb44f8635dc7551b3402d624495b5dfcf3ba1b1165db29c75d", func := "loop.example/dragonnumbers/laws.FnExactGaussTimes", spec := "fnExactGaussTimes", apart := false, narrowed := true }
def FnExactGaussTimesUptoSaid : Prop := fnExactGaussTimesUptoRow.holds Try.pinned (OpenSpec.upto fnExactGaussTimesSpec)

/-- 'laws.FnExactGaussNorm', WHERE WHAT IT READS IS OF BULK AT MOST 1048576: true; the input reads as it did. -/
def fnExactGaussNormUptoRow : OpenClaim := { program := "ytglieacjpdpmnaa", sum := "a4c6b98ebb7fafbb44f8635dc7551b3402d624495b5dfcf3ba1b1165db29c75d", func := "loop.example/dragonnumbers/laws.FnExactGaussNorm", spec := "fnExactGaussNorm", apart := false, narrowed := true }
def FnExactGaussNormUptoSaid : Prop := fnExactGaussNormUptoRow.holds Try.pinned (OpenSpec.upto fnExactGaussNormSpec)

/-- 'laws.FnExactGaussDivide', WHERE WHAT IT READS IS OF BULK AT MOST 1048576: true; the input reads as it did. -/
def fnExactGaussDivideUptoRow : OpenClaim := { program := "ytglieacjpdpmnaa", sum := "a4c6b98ebb7fafbb44f8635dc7551b3402d624495b5dfcf3ba1b1165db29c75d", func := "loop.example/dragonnumbers/laws.FnExactGaussDivide", spec := "fnExactGaussDivide", apart := false, narrowed := true }
def FnExactGaussDivideUptoSaid : Prop := fnExactGaussDivideUptoRow.holds Try.pinned (OpenSpec.upto fnExactGaussDivideSpec)

/-- 'laws.FnExactGaussFirst', WHERE WHAT IT READS IS OF BULK AT MOST 1048576: true; the input reads as it did. -/
def fnExactGaussFirstUptoRow : OpenClaim := { program := "ytglieacjpdpmnaa", sum := "a4c6b98ebb7fafbb44f8635dc7551b3402d624495b5dfcf3ba1b1165db29c75d", func := "loop.example/dragonnumbers/laws.FnExactGaussFirst", spec := "fnExactGaussFirst", apart := false, narrowed := true }
def FnExactGaussFirstUptoSaid : Prop := fnExactGaussFirstUptoRow.holds Try.pinned (OpenSpec.upto fnExactGaussFirstSpec)

/-- 'laws.FnExactGaussGcd', WHERE WHAT IT READS IS OF BULK AT MOST 1048576: true; the input reads as it did. -/
def fnExactGaussGcdUptoRow : OpenClaim := { program := "ytglieacjpdpmnaa", sum := "a4c6b98ebb7fafbb44f8635dc7551b3402d624495b5dfcf3ba1b1165db29c75d", func := "loop.example/dragonnumbers/laws.FnExactGaussGcd", spec := "fnExactGaussGcd", apart := false, narrowed := true }
def FnExactGaussGcdUptoSaid : Prop := fnExactGaussGcdUptoRow.holds Try.pinned (OpenSpec.upto fnExactGaussGcdSpec)

/-- 'laws.FnExactGaussPrime', WHERE WHAT IT READS IS OF BULK AT MOST 1048576: true; the input reads as it did. -/
def fnExactGaussPrimeUptoRow : OpenClaim := { program := "ytglieacjpdpmnaa", sum := "a4c6b98ebb7fafbb44f8635dc7551b3402d624495b5dfcf3ba1b1165db29c75d", func := "loop.example/dragonnumbers/laws.FnExactGaussPrime", spec := "fnExactGaussPrime", apart := false, narrowed := true }
def FnExactGaussPrimeUptoSaid : Prop := fnExactGaussPrimeUptoRow.holds Try.pinned (OpenSpec.upto fnExactGaussPrimeSpec)

/-- 'laws.FnExactGaussWide', WHERE WHAT IT READS IS OF BULK AT MOST 1048576: true; the input reads as it did. -/
def fnExactGaussWideUptoRow : OpenClaim := { program := "ytglieacjpdpmnaa", sum := "a4c6b98ebb7fafbb44f8635dc7551b3402d624495b5dfcf3ba1b1165db29c75d", func := "loop.example/dragonnumbers/laws.FnExactGaussWide", spec := "fnExactGaussWide", apart := false, narrowed := true }
def FnExactGaussWideUptoSaid : Prop := fnExactGaussWideUptoRow.holds Try.pinned (OpenSpec.upto fnExactGaussWideSpec)

end Rows
end Go.Proofs.Ytglieacjpdpmnaa

/-
  DERIVED. GIVEN WITH THE SEED: THE CARDS: each row of YtlcafjdinjdllacDoorRows.lean that lists a variable, with what it lists TIED to the program's text (the seventh form; the later family's looks); each row that meets fmt, with fmt's text TOLD by the authors' own Lean function (tested against real Go, not proved from fmt's source: count such statements apart). THE CARD IS WHAT COUNTS. Prove the row's statement (the work); the ties are given (YtlcafjdinjdllacDoorTie.lean); close each card by the builder's one call (the guide's Derived/Test/ToyasCard.lean, 'card_holds'). Laid BY PROGRAM, IN A SANDBOX (cutbox-door.mjs). By AI agents, Wed Nov 11 2026. No macro, syntax, notation, axiom, sorry.
-/
import Derived.Test.YtlcafjdinjdllacDoorRows
import GoSem.ClaimSeven
namespace Go.Proofs.YtlcafjdinjdllacDoor
namespace Rows

/-- THE TIED CARD OF 'laws.FnExactDigitsNext'. -/
def fnExactDigitsNextCard : Claim7 := { stood := { row := fnExactDigitsNextRow, standIns := [], harness := (true, "867ee9a1b7d5d8f124765ce55ec17edb89de9f3f1cd5864c0ca5c731a5c1c406"), looks := false }, kinds := [], alts := [], laidByText := true, laidKinds := [.data, .data, .data], laidTests := true, laidLooks := .later }
def FnExactDigitsNextCardSaid : Prop := Claim7.holds Tryd.pinned (.plain (OpenSpec.ofChange fnExactDigitsNextSpec)) fnExactDigitsNextCard

/-- THE SECOND FORM's CARD OF 'laws.FnExactDigitsNext'. -/
def fnExactDigitsNextUptoCard : Claim7 := { stood := { row := fnExactDigitsNextUptoRow, standIns := [], harness := (true, "867ee9a1b7d5d8f124765ce55ec17edb89de9f3f1cd5864c0ca5c731a5c1c406"), looks := false }, kinds := [], alts := [], laidByText := true, laidKinds := [.data, .data, .data], laidTests := true, laidLooks := .later }
def FnExactDigitsNextUptoCardSaid : Prop := Claim7.holds Tryd.pinned (.plain (OpenSpec.upto fnExactDigitsNextSpec)) fnExactDigitsNextUptoCard
end Rows
end Go.Proofs.YtlcafjdinjdllacDoor

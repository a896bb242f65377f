/-
  DERIVED. GIVEN WITH THE SEED: THE CARDS: each row of YtmdnfamjdogogabGreatDoorRows.lean that lists a variable, with what it lists TIED to the program's text (the seventh form; the later family's looks); each row that meets fmt, with fmt's text TOLD by the authors' own Lean function (tested against real Go, not proved from fmt's source: count such statements apart). THE CARD IS WHAT COUNTS. Prove the row's statement (the work); the ties are given (YtmdnfamjdogogabGreatDoorTie.lean); close each card by the builder's one call (the guide's Derived/Test/ToyasCard.lean, 'card_holds'). Laid BY PROGRAM, IN A SANDBOX (cutbox-door.mjs). By AI agents, Wed Nov 11 2026. No macro, syntax, notation, axiom, sorry.
-/
import Derived.Test.YtmdnfamjdogogabGreatDoorRows
import GoSem.ClaimSeven
namespace Go.Proofs.YtmdnfamjdogogabGreatDoor
namespace Rows

/-- THE TIED CARD OF 'laws.FnExactEntryRead'. -/
def fnExactEntryReadCard : Claim7 := { stood := { row := fnExactEntryReadRow, standIns := [], harness := (true, "1594a7c42071ac8d442cb336fe8d31167a5872c0abf49a5a9fb02c2c80b7afd8"), looks := true }, kinds := [], alts := [], laidByText := true, laidKinds := [.data, .data, .data, .data, .sentinel, .sentinel, .pinned], laidTests := true, laidLooks := .later }
def FnExactEntryReadCardSaid : Prop := Claim7.holds Tryz.pinned (.plain (OpenSpec.ofChange fnExactEntryReadSpec)) fnExactEntryReadCard

/-- THE TIED CARD OF 'laws.FnRead'. -/
def fnReadCard : Claim7 := { stood := { row := fnReadRow, standIns := [], harness := (true, "1594a7c42071ac8d442cb336fe8d31167a5872c0abf49a5a9fb02c2c80b7afd8"), looks := true }, kinds := [], alts := [], laidByText := true, laidKinds := [.data, .data, .data, .data, .sentinel, .sentinel, .pinned], laidTests := true, laidLooks := .later }
def FnReadCardSaid : Prop := Claim7.holds Tryz.pinned (.plain (OpenSpec.ofChange fnReadSpec)) fnReadCard

/-- THE SECOND FORM's CARD OF 'laws.FnExactEntryRead'. -/
def fnExactEntryReadUptoCard : Claim7 := { stood := { row := fnExactEntryReadUptoRow, standIns := [], harness := (true, "1594a7c42071ac8d442cb336fe8d31167a5872c0abf49a5a9fb02c2c80b7afd8"), looks := true }, kinds := [], alts := [], laidByText := true, laidKinds := [.data, .data, .data, .data, .sentinel, .sentinel, .pinned], laidTests := true, laidLooks := .later }
def FnExactEntryReadUptoCardSaid : Prop := Claim7.holds Tryz.pinned (.plain (OpenSpec.upto fnExactEntryReadSpec)) fnExactEntryReadUptoCard

/-- THE SECOND FORM's CARD OF 'laws.FnRead'. -/
def fnReadUptoCard : Claim7 := { stood := { row := fnReadUptoRow, standIns := [], harness := (true, "1594a7c42071ac8d442cb336fe8d31167a5872c0abf49a5a9fb02c2c80b7afd8"), looks := true }, kinds := [], alts := [], laidByText := true, laidKinds := [.data, .data, .data, .data, .sentinel, .sentinel, .pinned], laidTests := true, laidLooks := .later }
def FnReadUptoCardSaid : Prop := Claim7.holds Tryz.pinned (.plain (OpenSpec.upto fnReadSpec)) fnReadUptoCard
end Rows
end Go.Proofs.YtmdnfamjdogogabGreatDoor

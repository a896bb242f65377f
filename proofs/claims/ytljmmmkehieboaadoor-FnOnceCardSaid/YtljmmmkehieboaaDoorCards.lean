/-
  DERIVED. GIVEN WITH THE SEED: THE CARDS: each row of YtljmmmkehieboaaDoorRows.lean that lists a variable, with what it lists TIED to the program's text (the seventh form; the later family's looks); each row that meets fmt, with fmt's text TOLD by the authors' own Lean function (tested against real Go, not proved from fmt's source: count such statements apart). THE CARD IS WHAT COUNTS. Prove the row's statement (the work); the ties are given (YtljmmmkehieboaaDoorTie.lean); close each card by the builder's one call (the guide's Derived/Test/ToyasCard.lean, 'card_holds'). Laid BY PROGRAM, IN A SANDBOX (cutbox-door.mjs). By AI agents, Wed Nov 11 2026. No macro, syntax, notation, axiom, sorry.
-/
import Derived.Test.YtljmmmkehieboaaDoorRows
import GoSem.ClaimSeven
namespace Go.Proofs.YtljmmmkehieboaaDoor
namespace Rows

/-- THE TIED CARD OF 'laws.FnEnd'. -/
def fnEndCard : Claim7 := { stood := { row := fnEndRow, standIns := [], harness := (true, "49e1fb2d53e3548c541c58393502efe328f105099822637a7403a9e99f2ee78b"), looks := false }, kinds := [], alts := [], laidByText := true, laidKinds := [.data, .data], laidTests := true, laidLooks := .later }
def FnEndCardSaid : Prop := Claim7.holds Tryd.pinned (.plain (OpenSpec.ofChange fnEndSpec)) fnEndCard

/-- THE TIED CARD OF 'laws.FnOnce'. -/
def fnOnceCard : Claim7 := { stood := { row := fnOnceRow, standIns := [], harness := (true, "49e1fb2d53e3548c541c58393502efe328f105099822637a7403a9e99f2ee78b"), looks := false }, kinds := [], alts := [], laidByText := true, laidKinds := [.data, .data], laidTests := true, laidLooks := .later }
def FnOnceCardSaid : Prop := Claim7.holds Tryd.pinned (.plain (OpenSpec.ofChange fnOnceSpec)) fnOnceCard

/-- THE SECOND FORM's CARD OF 'laws.FnEnd'. -/
def fnEndUptoCard : Claim7 := { stood := { row := fnEndUptoRow, standIns := [], harness := (true, "49e1fb2d53e3548c541c58393502efe328f105099822637a7403a9e99f2ee78b"), looks := false }, kinds := [], alts := [], laidByText := true, laidKinds := [.data, .data], laidTests := true, laidLooks := .later }
def FnEndUptoCardSaid : Prop := Claim7.holds Tryd.pinned (.plain (OpenSpec.upto fnEndSpec)) fnEndUptoCard

/-- THE SECOND FORM's CARD OF 'laws.FnOnce'. -/
def fnOnceUptoCard : Claim7 := { stood := { row := fnOnceUptoRow, standIns := [], harness := (true, "49e1fb2d53e3548c541c58393502efe328f105099822637a7403a9e99f2ee78b"), looks := false }, kinds := [], alts := [], laidByText := true, laidKinds := [.data, .data], laidTests := true, laidLooks := .later }
def FnOnceUptoCardSaid : Prop := Claim7.holds Tryd.pinned (.plain (OpenSpec.upto fnOnceSpec)) fnOnceUptoCard
end Rows
end Go.Proofs.YtljmmmkehieboaaDoor

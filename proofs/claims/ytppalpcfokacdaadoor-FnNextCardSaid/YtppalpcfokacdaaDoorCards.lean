/-
  DERIVED. GIVEN WITH THE SEED: THE CARDS: each row of YtppalpcfokacdaaDoorRows.lean that lists a variable, with what it lists TIED to the program's text (the seventh form; the later family's looks); each row that meets fmt, with fmt's text TOLD by the authors' own Lean function (tested against real Go, not proved from fmt's source: count such statements apart). THE CARD IS WHAT COUNTS. Prove the row's statement (the work); the ties are given (YtppalpcfokacdaaDoorTie.lean); close each card by the builder's one call (the guide's Derived/Test/ToyasCard.lean, 'card_holds'). Laid BY PROGRAM, IN A SANDBOX (cutbox-door.mjs). By AI agents, Wed Nov 11 2026. No macro, syntax, notation, axiom, sorry.
-/
import Derived.Test.YtppalpcfokacdaaDoorRows
import GoSem.ClaimSeven
namespace Go.Proofs.YtppalpcfokacdaaDoor
namespace Rows

/-- THE TIED CARD OF 'laws.FnDigitsOf'. -/
def fnDigitsOfCard : Claim7 := { stood := { row := fnDigitsOfRow, standIns := [], harness := (true, "b6ee520ae17add17e9cd087994138bffd8c0fb42a3ff19dfffff7d60e8ad2f54"), looks := false }, kinds := [], alts := [], laidByText := true, laidKinds := [.data, .pinned], laidTests := true, laidLooks := .later }
def FnDigitsOfCardSaid : Prop := Claim7.holds Tryd.pinned (.plain (OpenSpec.ofChange fnDigitsOfSpec)) fnDigitsOfCard

/-- THE TIED CARD OF 'laws.FnValue'. -/
def fnValueCard : Claim7 := { stood := { row := fnValueRow, standIns := [], harness := (true, "b6ee520ae17add17e9cd087994138bffd8c0fb42a3ff19dfffff7d60e8ad2f54"), looks := false }, kinds := [], alts := [], laidByText := true, laidKinds := [.data, .pinned], laidTests := true, laidLooks := .later }
def FnValueCardSaid : Prop := Claim7.holds Tryd.pinned (.plain (OpenSpec.ofChange fnValueSpec)) fnValueCard

/-- THE TIED CARD OF 'laws.FnCarries'. -/
def fnCarriesCard : Claim7 := { stood := { row := fnCarriesRow, standIns := [], harness := (true, "b6ee520ae17add17e9cd087994138bffd8c0fb42a3ff19dfffff7d60e8ad2f54"), looks := false }, kinds := [], alts := [], laidByText := true, laidKinds := [.data, .data, .pinned], laidTests := true, laidLooks := .later }
def FnCarriesCardSaid : Prop := Claim7.holds Tryd.pinned (.plain (OpenSpec.ofChange fnCarriesSpec)) fnCarriesCard

/-- THE TIED CARD OF 'laws.FnNext'. -/
def fnNextCard : Claim7 := { stood := { row := fnNextRow, standIns := [], harness := (true, "b6ee520ae17add17e9cd087994138bffd8c0fb42a3ff19dfffff7d60e8ad2f54"), looks := false }, kinds := [], alts := [], laidByText := true, laidKinds := [.data, .data, .data], laidTests := true, laidLooks := .later }
def FnNextCardSaid : Prop := Claim7.holds Tryd.pinned (.plain (OpenSpec.ofChange fnNextSpec)) fnNextCard

/-- THE SECOND FORM's CARD OF 'laws.FnDigitsOf'. -/
def fnDigitsOfUptoCard : Claim7 := { stood := { row := fnDigitsOfUptoRow, standIns := [], harness := (true, "b6ee520ae17add17e9cd087994138bffd8c0fb42a3ff19dfffff7d60e8ad2f54"), looks := false }, kinds := [], alts := [], laidByText := true, laidKinds := [.data, .pinned], laidTests := true, laidLooks := .later }
def FnDigitsOfUptoCardSaid : Prop := Claim7.holds Tryd.pinned (.plain (OpenSpec.upto fnDigitsOfSpec)) fnDigitsOfUptoCard

/-- THE SECOND FORM's CARD OF 'laws.FnValue'. -/
def fnValueUptoCard : Claim7 := { stood := { row := fnValueUptoRow, standIns := [], harness := (true, "b6ee520ae17add17e9cd087994138bffd8c0fb42a3ff19dfffff7d60e8ad2f54"), looks := false }, kinds := [], alts := [], laidByText := true, laidKinds := [.data, .pinned], laidTests := true, laidLooks := .later }
def FnValueUptoCardSaid : Prop := Claim7.holds Tryd.pinned (.plain (OpenSpec.upto fnValueSpec)) fnValueUptoCard

/-- THE SECOND FORM's CARD OF 'laws.FnCarries'. -/
def fnCarriesUptoCard : Claim7 := { stood := { row := fnCarriesUptoRow, standIns := [], harness := (true, "b6ee520ae17add17e9cd087994138bffd8c0fb42a3ff19dfffff7d60e8ad2f54"), looks := false }, kinds := [], alts := [], laidByText := true, laidKinds := [.data, .data, .pinned], laidTests := true, laidLooks := .later }
def FnCarriesUptoCardSaid : Prop := Claim7.holds Tryd.pinned (.plain (OpenSpec.upto fnCarriesSpec)) fnCarriesUptoCard

/-- THE SECOND FORM's CARD OF 'laws.FnNext'. -/
def fnNextUptoCard : Claim7 := { stood := { row := fnNextUptoRow, standIns := [], harness := (true, "b6ee520ae17add17e9cd087994138bffd8c0fb42a3ff19dfffff7d60e8ad2f54"), looks := false }, kinds := [], alts := [], laidByText := true, laidKinds := [.data, .data, .data], laidTests := true, laidLooks := .later }
def FnNextUptoCardSaid : Prop := Claim7.holds Tryd.pinned (.plain (OpenSpec.upto fnNextSpec)) fnNextUptoCard
end Rows
end Go.Proofs.YtppalpcfokacdaaDoor

/-
  DERIVED. GIVEN WITH THE SEED: THE CARDS: each row of YtfodfapaidfhbadDoorRows.lean that lists a variable, with what it lists TIED to the program's text (the seventh form; the later family's looks); each row that meets fmt, with fmt's text TOLD by the authors' own Lean function (tested against real Go, not proved from fmt's source: count such statements apart). THE CARD IS WHAT COUNTS. Prove the row's statement (the work); the ties are given (YtfodfapaidfhbadDoorTie.lean); close each card by the builder's one call (the guide's Derived/Test/ToyasCard.lean, 'card_holds'). Laid BY PROGRAM, IN A SANDBOX (cutbox-door.mjs). By AI agents, Wed Nov 11 2026. No macro, syntax, notation, axiom, sorry.
-/
import Derived.Test.YtfodfapaidfhbadDoorRows
import GoSem.ClaimSeven
namespace Go.Proofs.YtfodfapaidfhbadDoor
namespace Rows

/-- THE TIED CARD OF 'laws.FnExactDigitsAdd'. -/
def fnExactDigitsAddCard : Claim7 := { stood := { row := fnExactDigitsAddRow, standIns := [], harness := (true, "d41d9c237c40bae8d6357d1867cbe571983b40c6fb0bf04d49a4311253eb0299"), looks := false }, kinds := [], alts := [], laidByText := true, laidKinds := [.data, .data, .pinned], laidTests := true, laidLooks := .later }
def FnExactDigitsAddCardSaid : Prop := Claim7.holds Tryd.pinned (.plain (OpenSpec.ofChange fnExactDigitsAddSpec)) fnExactDigitsAddCard

/-- THE TIED CARD OF 'laws.FnExactDigitsCarries'. -/
def fnExactDigitsCarriesCard : Claim7 := { stood := { row := fnExactDigitsCarriesRow, standIns := [], harness := (true, "d41d9c237c40bae8d6357d1867cbe571983b40c6fb0bf04d49a4311253eb0299"), looks := false }, kinds := [], alts := [], laidByText := true, laidKinds := [.data, .data, .pinned], laidTests := true, laidLooks := .later }
def FnExactDigitsCarriesCardSaid : Prop := Claim7.holds Tryd.pinned (.plain (OpenSpec.ofChange fnExactDigitsCarriesSpec)) fnExactDigitsCarriesCard

/-- THE TIED CARD OF 'laws.FnExactDigitsTimes'. -/
def fnExactDigitsTimesCard : Claim7 := { stood := { row := fnExactDigitsTimesRow, standIns := [], harness := (true, "d41d9c237c40bae8d6357d1867cbe571983b40c6fb0bf04d49a4311253eb0299"), looks := false }, kinds := [], alts := [], laidByText := true, laidKinds := [.data, .data, .pinned], laidTests := true, laidLooks := .later }
def FnExactDigitsTimesCardSaid : Prop := Claim7.holds Tryd.pinned (.plain (OpenSpec.ofChange fnExactDigitsTimesSpec)) fnExactDigitsTimesCard

/-- THE TIED CARD OF 'laws.FnExactDigitsNegate'. -/
def fnExactDigitsNegateCard : Claim7 := { stood := { row := fnExactDigitsNegateRow, standIns := [], harness := (true, "d41d9c237c40bae8d6357d1867cbe571983b40c6fb0bf04d49a4311253eb0299"), looks := false }, kinds := [], alts := [], laidByText := true, laidKinds := [.data, .data, .pinned], laidTests := true, laidLooks := .later }
def FnExactDigitsNegateCardSaid : Prop := Claim7.holds Tryd.pinned (.plain (OpenSpec.ofChange fnExactDigitsNegateSpec)) fnExactDigitsNegateCard

/-- THE TIED CARD OF 'laws.FnExactDigitsNext'. -/
def fnExactDigitsNextCard : Claim7 := { stood := { row := fnExactDigitsNextRow, standIns := [], harness := (true, "d41d9c237c40bae8d6357d1867cbe571983b40c6fb0bf04d49a4311253eb0299"), looks := false }, kinds := [], alts := [], laidByText := true, laidKinds := [.data, .data, .data], laidTests := true, laidLooks := .later }
def FnExactDigitsNextCardSaid : Prop := Claim7.holds Tryd.pinned (.plain (OpenSpec.ofChange fnExactDigitsNextSpec)) fnExactDigitsNextCard

/-- THE TIED CARD OF 'laws.FnDigitsOf'. -/
def fnDigitsOfCard : Claim7 := { stood := { row := fnDigitsOfRow, standIns := [], harness := (true, "d41d9c237c40bae8d6357d1867cbe571983b40c6fb0bf04d49a4311253eb0299"), looks := false }, kinds := [], alts := [], laidByText := true, laidKinds := [.data, .pinned], laidTests := true, laidLooks := .later }
def FnDigitsOfCardSaid : Prop := Claim7.holds Tryd.pinned (.plain (OpenSpec.ofChange fnDigitsOfSpec)) fnDigitsOfCard

/-- THE TIED CARD OF 'laws.FnValue'. -/
def fnValueCard : Claim7 := { stood := { row := fnValueRow, standIns := [], harness := (true, "d41d9c237c40bae8d6357d1867cbe571983b40c6fb0bf04d49a4311253eb0299"), looks := false }, kinds := [], alts := [], laidByText := true, laidKinds := [.data, .pinned], laidTests := true, laidLooks := .later }
def FnValueCardSaid : Prop := Claim7.holds Tryd.pinned (.plain (OpenSpec.ofChange fnValueSpec)) fnValueCard

/-- THE TIED CARD OF 'laws.FnNext'. -/
def fnNextCard : Claim7 := { stood := { row := fnNextRow, standIns := [], harness := (true, "d41d9c237c40bae8d6357d1867cbe571983b40c6fb0bf04d49a4311253eb0299"), looks := false }, kinds := [], alts := [], laidByText := true, laidKinds := [.data, .data, .data], laidTests := true, laidLooks := .later }
def FnNextCardSaid : Prop := Claim7.holds Tryd.pinned (.plain (OpenSpec.ofChange fnNextSpec)) fnNextCard

/-- THE SECOND FORM's CARD OF 'laws.FnExactDigitsAdd'. -/
def fnExactDigitsAddUptoCard : Claim7 := { stood := { row := fnExactDigitsAddUptoRow, standIns := [], harness := (true, "d41d9c237c40bae8d6357d1867cbe571983b40c6fb0bf04d49a4311253eb0299"), looks := false }, kinds := [], alts := [], laidByText := true, laidKinds := [.data, .data, .pinned], laidTests := true, laidLooks := .later }
def FnExactDigitsAddUptoCardSaid : Prop := Claim7.holds Tryd.pinned (.plain (OpenSpec.upto fnExactDigitsAddSpec)) fnExactDigitsAddUptoCard

/-- THE SECOND FORM's CARD OF 'laws.FnExactDigitsCarries'. -/
def fnExactDigitsCarriesUptoCard : Claim7 := { stood := { row := fnExactDigitsCarriesUptoRow, standIns := [], harness := (true, "d41d9c237c40bae8d6357d1867cbe571983b40c6fb0bf04d49a4311253eb0299"), looks := false }, kinds := [], alts := [], laidByText := true, laidKinds := [.data, .data, .pinned], laidTests := true, laidLooks := .later }
def FnExactDigitsCarriesUptoCardSaid : Prop := Claim7.holds Tryd.pinned (.plain (OpenSpec.upto fnExactDigitsCarriesSpec)) fnExactDigitsCarriesUptoCard

/-- THE SECOND FORM's CARD OF 'laws.FnExactDigitsTimes'. -/
def fnExactDigitsTimesUptoCard : Claim7 := { stood := { row := fnExactDigitsTimesUptoRow, standIns := [], harness := (true, "d41d9c237c40bae8d6357d1867cbe571983b40c6fb0bf04d49a4311253eb0299"), looks := false }, kinds := [], alts := [], laidByText := true, laidKinds := [.data, .data, .pinned], laidTests := true, laidLooks := .later }
def FnExactDigitsTimesUptoCardSaid : Prop := Claim7.holds Tryd.pinned (.plain (OpenSpec.upto fnExactDigitsTimesSpec)) fnExactDigitsTimesUptoCard

/-- THE SECOND FORM's CARD OF 'laws.FnExactDigitsNegate'. -/
def fnExactDigitsNegateUptoCard : Claim7 := { stood := { row := fnExactDigitsNegateUptoRow, standIns := [], harness := (true, "d41d9c237c40bae8d6357d1867cbe571983b40c6fb0bf04d49a4311253eb0299"), looks := false }, kinds := [], alts := [], laidByText := true, laidKinds := [.data, .data, .pinned], laidTests := true, laidLooks := .later }
def FnExactDigitsNegateUptoCardSaid : Prop := Claim7.holds Tryd.pinned (.plain (OpenSpec.upto fnExactDigitsNegateSpec)) fnExactDigitsNegateUptoCard

/-- THE SECOND FORM's CARD OF 'laws.FnExactDigitsNext'. -/
def fnExactDigitsNextUptoCard : Claim7 := { stood := { row := fnExactDigitsNextUptoRow, standIns := [], harness := (true, "d41d9c237c40bae8d6357d1867cbe571983b40c6fb0bf04d49a4311253eb0299"), looks := false }, kinds := [], alts := [], laidByText := true, laidKinds := [.data, .data, .data], laidTests := true, laidLooks := .later }
def FnExactDigitsNextUptoCardSaid : Prop := Claim7.holds Tryd.pinned (.plain (OpenSpec.upto fnExactDigitsNextSpec)) fnExactDigitsNextUptoCard

/-- THE SECOND FORM's CARD OF 'laws.FnDigitsOf'. -/
def fnDigitsOfUptoCard : Claim7 := { stood := { row := fnDigitsOfUptoRow, standIns := [], harness := (true, "d41d9c237c40bae8d6357d1867cbe571983b40c6fb0bf04d49a4311253eb0299"), looks := false }, kinds := [], alts := [], laidByText := true, laidKinds := [.data, .pinned], laidTests := true, laidLooks := .later }
def FnDigitsOfUptoCardSaid : Prop := Claim7.holds Tryd.pinned (.plain (OpenSpec.upto fnDigitsOfSpec)) fnDigitsOfUptoCard

/-- THE SECOND FORM's CARD OF 'laws.FnValue'. -/
def fnValueUptoCard : Claim7 := { stood := { row := fnValueUptoRow, standIns := [], harness := (true, "d41d9c237c40bae8d6357d1867cbe571983b40c6fb0bf04d49a4311253eb0299"), looks := false }, kinds := [], alts := [], laidByText := true, laidKinds := [.data, .pinned], laidTests := true, laidLooks := .later }
def FnValueUptoCardSaid : Prop := Claim7.holds Tryd.pinned (.plain (OpenSpec.upto fnValueSpec)) fnValueUptoCard

/-- THE SECOND FORM's CARD OF 'laws.FnNext'. -/
def fnNextUptoCard : Claim7 := { stood := { row := fnNextUptoRow, standIns := [], harness := (true, "d41d9c237c40bae8d6357d1867cbe571983b40c6fb0bf04d49a4311253eb0299"), looks := false }, kinds := [], alts := [], laidByText := true, laidKinds := [.data, .data, .data], laidTests := true, laidLooks := .later }
def FnNextUptoCardSaid : Prop := Claim7.holds Tryd.pinned (.plain (OpenSpec.upto fnNextSpec)) fnNextUptoCard
end Rows
end Go.Proofs.YtfodfapaidfhbadDoor

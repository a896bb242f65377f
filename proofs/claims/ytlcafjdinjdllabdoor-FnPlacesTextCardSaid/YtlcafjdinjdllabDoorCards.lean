/-
  DERIVED. GIVEN WITH THE SEED: THE CARDS: each row of YtlcafjdinjdllabDoorRows.lean that lists a variable, with what it lists TIED to the program's text (the seventh form; the later family's looks); each row that meets fmt, with fmt's text TOLD by the authors' own Lean function (tested against real Go, not proved from fmt's source: count such statements apart). THE CARD IS WHAT COUNTS. Prove the row's statement (the work); the ties are given (YtlcafjdinjdllabDoorTie.lean); close each card by the builder's one call (the guide's Derived/Test/ToyasCard.lean, 'card_holds'). Laid BY PROGRAM, IN A SANDBOX (cutbox-door.mjs). By AI agents, Wed Nov 11 2026. No macro, syntax, notation, axiom, sorry.
-/
import Derived.Test.YtlcafjdinjdllabDoorRows
import GoSem.ClaimSeven
namespace Go.Proofs.YtlcafjdinjdllabDoor
namespace Rows

/-- THE TIED CARD OF 'laws.FnPlacesText'. -/
def fnPlacesTextCard : Claim7 := { stood := { row := fnPlacesTextRow, standIns := [], harness := (true, "aeb0fa9aca182e173f9b3572f9ace8bbeba5290dd6529958d3bc587160e0ede2"), looks := false }, kinds := [], alts := [], laidByText := true, laidKinds := [.data, .pinned], laidTests := true, laidLooks := .later }
def FnPlacesTextCardSaid : Prop := Claim7.holds Tryd.pinned (.plain (OpenSpec.ofChange fnPlacesTextSpec)) fnPlacesTextCard

/-- THE TIED CARD OF 'laws.FnExactDigitsAdd'. -/
def fnExactDigitsAddCard : Claim7 := { stood := { row := fnExactDigitsAddRow, standIns := [], harness := (true, "aeb0fa9aca182e173f9b3572f9ace8bbeba5290dd6529958d3bc587160e0ede2"), looks := false }, kinds := [], alts := [], laidByText := true, laidKinds := [.data, .data, .pinned], laidTests := true, laidLooks := .later }
def FnExactDigitsAddCardSaid : Prop := Claim7.holds Tryd.pinned (.plain (OpenSpec.ofChange fnExactDigitsAddSpec)) fnExactDigitsAddCard

/-- THE TIED CARD OF 'laws.FnExactDigitsCarries'. -/
def fnExactDigitsCarriesCard : Claim7 := { stood := { row := fnExactDigitsCarriesRow, standIns := [], harness := (true, "aeb0fa9aca182e173f9b3572f9ace8bbeba5290dd6529958d3bc587160e0ede2"), looks := false }, kinds := [], alts := [], laidByText := true, laidKinds := [.data, .data, .pinned], laidTests := true, laidLooks := .later }
def FnExactDigitsCarriesCardSaid : Prop := Claim7.holds Tryd.pinned (.plain (OpenSpec.ofChange fnExactDigitsCarriesSpec)) fnExactDigitsCarriesCard

/-- THE TIED CARD OF 'laws.FnExactDigitsTimes'. -/
def fnExactDigitsTimesCard : Claim7 := { stood := { row := fnExactDigitsTimesRow, standIns := [], harness := (true, "aeb0fa9aca182e173f9b3572f9ace8bbeba5290dd6529958d3bc587160e0ede2"), looks := false }, kinds := [], alts := [], laidByText := true, laidKinds := [.data, .data, .pinned], laidTests := true, laidLooks := .later }
def FnExactDigitsTimesCardSaid : Prop := Claim7.holds Tryd.pinned (.plain (OpenSpec.ofChange fnExactDigitsTimesSpec)) fnExactDigitsTimesCard

/-- THE TIED CARD OF 'laws.FnExactDigitsNegate'. -/
def fnExactDigitsNegateCard : Claim7 := { stood := { row := fnExactDigitsNegateRow, standIns := [], harness := (true, "aeb0fa9aca182e173f9b3572f9ace8bbeba5290dd6529958d3bc587160e0ede2"), looks := false }, kinds := [], alts := [], laidByText := true, laidKinds := [.data, .data, .pinned], laidTests := true, laidLooks := .later }
def FnExactDigitsNegateCardSaid : Prop := Claim7.holds Tryd.pinned (.plain (OpenSpec.ofChange fnExactDigitsNegateSpec)) fnExactDigitsNegateCard

/-- THE SECOND FORM's CARD OF 'laws.FnPlacesText'. -/
def fnPlacesTextUptoCard : Claim7 := { stood := { row := fnPlacesTextUptoRow, standIns := [], harness := (true, "aeb0fa9aca182e173f9b3572f9ace8bbeba5290dd6529958d3bc587160e0ede2"), looks := false }, kinds := [], alts := [], laidByText := true, laidKinds := [.data, .pinned], laidTests := true, laidLooks := .later }
def FnPlacesTextUptoCardSaid : Prop := Claim7.holds Tryd.pinned (.plain (OpenSpec.upto fnPlacesTextSpec)) fnPlacesTextUptoCard

/-- THE SECOND FORM's CARD OF 'laws.FnExactDigitsAdd'. -/
def fnExactDigitsAddUptoCard : Claim7 := { stood := { row := fnExactDigitsAddUptoRow, standIns := [], harness := (true, "aeb0fa9aca182e173f9b3572f9ace8bbeba5290dd6529958d3bc587160e0ede2"), looks := false }, kinds := [], alts := [], laidByText := true, laidKinds := [.data, .data, .pinned], laidTests := true, laidLooks := .later }
def FnExactDigitsAddUptoCardSaid : Prop := Claim7.holds Tryd.pinned (.plain (OpenSpec.upto fnExactDigitsAddSpec)) fnExactDigitsAddUptoCard

/-- THE SECOND FORM's CARD OF 'laws.FnExactDigitsCarries'. -/
def fnExactDigitsCarriesUptoCard : Claim7 := { stood := { row := fnExactDigitsCarriesUptoRow, standIns := [], harness := (true, "aeb0fa9aca182e173f9b3572f9ace8bbeba5290dd6529958d3bc587160e0ede2"), looks := false }, kinds := [], alts := [], laidByText := true, laidKinds := [.data, .data, .pinned], laidTests := true, laidLooks := .later }
def FnExactDigitsCarriesUptoCardSaid : Prop := Claim7.holds Tryd.pinned (.plain (OpenSpec.upto fnExactDigitsCarriesSpec)) fnExactDigitsCarriesUptoCard

/-- THE SECOND FORM's CARD OF 'laws.FnExactDigitsTimes'. -/
def fnExactDigitsTimesUptoCard : Claim7 := { stood := { row := fnExactDigitsTimesUptoRow, standIns := [], harness := (true, "aeb0fa9aca182e173f9b3572f9ace8bbeba5290dd6529958d3bc587160e0ede2"), looks := false }, kinds := [], alts := [], laidByText := true, laidKinds := [.data, .data, .pinned], laidTests := true, laidLooks := .later }
def FnExactDigitsTimesUptoCardSaid : Prop := Claim7.holds Tryd.pinned (.plain (OpenSpec.upto fnExactDigitsTimesSpec)) fnExactDigitsTimesUptoCard

/-- THE SECOND FORM's CARD OF 'laws.FnExactDigitsNegate'. -/
def fnExactDigitsNegateUptoCard : Claim7 := { stood := { row := fnExactDigitsNegateUptoRow, standIns := [], harness := (true, "aeb0fa9aca182e173f9b3572f9ace8bbeba5290dd6529958d3bc587160e0ede2"), looks := false }, kinds := [], alts := [], laidByText := true, laidKinds := [.data, .data, .pinned], laidTests := true, laidLooks := .later }
def FnExactDigitsNegateUptoCardSaid : Prop := Claim7.holds Tryd.pinned (.plain (OpenSpec.upto fnExactDigitsNegateSpec)) fnExactDigitsNegateUptoCard
end Rows
end Go.Proofs.YtlcafjdinjdllabDoor

/-
  DERIVED. GIVEN WITH THE SEED: THE CARDS: each row of YtmdnfamjdogogaaDoorRows.lean that lists a variable, with what it lists TIED to the program's text (the seventh form; the later family's looks); each row that meets fmt, with fmt's text TOLD by the authors' own Lean function (tested against real Go, not proved from fmt's source: count such statements apart). THE CARD IS WHAT COUNTS. Prove the row's statement (the work); the ties are given (YtmdnfamjdogogaaDoorTie.lean); close each card by the builder's one call (the guide's Derived/Test/ToyasCard.lean, 'card_holds'). Laid BY PROGRAM, IN A SANDBOX (cutbox-door.mjs). By AI agents, Wed Nov 11 2026. No macro, syntax, notation, axiom, sorry.
-/
import Derived.Test.YtmdnfamjdogogaaDoorRows
import GoSem.ClaimSeven
namespace Go.Proofs.YtmdnfamjdogogaaDoor
namespace Rows

/-- THE TIED CARD OF 'laws.FnExactWordBits'. -/
def fnExactWordBitsCard : Claim7 := { stood := { row := fnExactWordBitsRow, standIns := [], harness := (true, "37a7ac331116b5fe4b5544570967ab0f56799b0966c5fb0f7d1e3df14251ea73"), looks := false }, kinds := [], alts := [], laidByText := true, laidKinds := [.data, .data, .data], laidTests := true, laidLooks := .later }
def FnExactWordBitsCardSaid : Prop := Claim7.holds Tryd.pinned (.plain (OpenSpec.ofChange fnExactWordBitsSpec)) fnExactWordBitsCard

/-- THE TIED CARD OF 'laws.FnBits'. -/
def fnBitsCard : Claim7 := { stood := { row := fnBitsRow, standIns := [], harness := (true, "37a7ac331116b5fe4b5544570967ab0f56799b0966c5fb0f7d1e3df14251ea73"), looks := false }, kinds := [], alts := [], laidByText := true, laidKinds := [.data, .data, .data], laidTests := true, laidLooks := .later }
def FnBitsCardSaid : Prop := Claim7.holds Tryd.pinned (.plain (OpenSpec.ofChange fnBitsSpec)) fnBitsCard

/-- THE TIED CARD OF 'laws.FnEntry'. -/
def fnEntryCard : Claim7 := { stood := { row := fnEntryRow, standIns := [], harness := (true, "37a7ac331116b5fe4b5544570967ab0f56799b0966c5fb0f7d1e3df14251ea73"), looks := false }, kinds := [], alts := [], laidByText := true, laidKinds := [.data, .data], laidTests := true, laidLooks := .later }
def FnEntryCardSaid : Prop := Claim7.holds Tryd.pinned (.plain (OpenSpec.ofChange fnEntrySpec)) fnEntryCard

/-- THE TIED CARD OF 'laws.FnRight'. -/
def fnRightCard : Claim7 := { stood := { row := fnRightRow, standIns := [], harness := (true, "37a7ac331116b5fe4b5544570967ab0f56799b0966c5fb0f7d1e3df14251ea73"), looks := false }, kinds := [], alts := [], laidByText := true, laidKinds := [.data, .data], laidTests := true, laidLooks := .later }
def FnRightCardSaid : Prop := Claim7.holds Tryd.pinned (.plain (OpenSpec.ofChange fnRightSpec)) fnRightCard

/-- THE SECOND FORM's CARD OF 'laws.FnExactWordBits'. -/
def fnExactWordBitsUptoCard : Claim7 := { stood := { row := fnExactWordBitsUptoRow, standIns := [], harness := (true, "37a7ac331116b5fe4b5544570967ab0f56799b0966c5fb0f7d1e3df14251ea73"), looks := false }, kinds := [], alts := [], laidByText := true, laidKinds := [.data, .data, .data], laidTests := true, laidLooks := .later }
def FnExactWordBitsUptoCardSaid : Prop := Claim7.holds Tryd.pinned (.plain (OpenSpec.upto fnExactWordBitsSpec)) fnExactWordBitsUptoCard

/-- THE SECOND FORM's CARD OF 'laws.FnBits'. -/
def fnBitsUptoCard : Claim7 := { stood := { row := fnBitsUptoRow, standIns := [], harness := (true, "37a7ac331116b5fe4b5544570967ab0f56799b0966c5fb0f7d1e3df14251ea73"), looks := false }, kinds := [], alts := [], laidByText := true, laidKinds := [.data, .data, .data], laidTests := true, laidLooks := .later }
def FnBitsUptoCardSaid : Prop := Claim7.holds Tryd.pinned (.plain (OpenSpec.upto fnBitsSpec)) fnBitsUptoCard

/-- THE SECOND FORM's CARD OF 'laws.FnEntry'. -/
def fnEntryUptoCard : Claim7 := { stood := { row := fnEntryUptoRow, standIns := [], harness := (true, "37a7ac331116b5fe4b5544570967ab0f56799b0966c5fb0f7d1e3df14251ea73"), looks := false }, kinds := [], alts := [], laidByText := true, laidKinds := [.data, .data], laidTests := true, laidLooks := .later }
def FnEntryUptoCardSaid : Prop := Claim7.holds Tryd.pinned (.plain (OpenSpec.upto fnEntrySpec)) fnEntryUptoCard

/-- THE SECOND FORM's CARD OF 'laws.FnRight'. -/
def fnRightUptoCard : Claim7 := { stood := { row := fnRightUptoRow, standIns := [], harness := (true, "37a7ac331116b5fe4b5544570967ab0f56799b0966c5fb0f7d1e3df14251ea73"), looks := false }, kinds := [], alts := [], laidByText := true, laidKinds := [.data, .data], laidTests := true, laidLooks := .later }
def FnRightUptoCardSaid : Prop := Claim7.holds Tryd.pinned (.plain (OpenSpec.upto fnRightSpec)) fnRightUptoCard
end Rows
end Go.Proofs.YtmdnfamjdogogaaDoor

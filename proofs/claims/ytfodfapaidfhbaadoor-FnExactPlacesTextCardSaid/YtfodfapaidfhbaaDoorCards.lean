/-
  DERIVED. GIVEN WITH THE SEED: THE CARDS: each row of YtfodfapaidfhbaaDoorRows.lean that lists a variable, with what it lists TIED to the program's text (the seventh form; the later family's looks); each row that meets fmt, with fmt's text TOLD by the authors' own Lean function (tested against real Go, not proved from fmt's source: count such statements apart). THE CARD IS WHAT COUNTS. Prove the row's statement (the work); the ties are given (YtfodfapaidfhbaaDoorTie.lean); close each card by the builder's one call (the guide's Derived/Test/ToyasCard.lean, 'card_holds'). Laid BY PROGRAM, IN A SANDBOX (cutbox-door.mjs). By AI agents, Wed Nov 11 2026. No macro, syntax, notation, axiom, sorry.
-/
import Derived.Test.YtfodfapaidfhbaaDoorRows
import GoSem.ClaimSeven
namespace Go.Proofs.YtfodfapaidfhbaaDoor
namespace Rows

/-- THE TIED CARD OF 'laws.FnExactPlacesText'. -/
def fnExactPlacesTextCard : Claim7 := { stood := { row := fnExactPlacesTextRow, standIns := [], harness := (true, "7ba5731e6011b735e72f1961579d532fbc3c337b7b413ab6d91a419b6da0ea4b"), looks := false }, kinds := [], alts := [], laidByText := true, laidKinds := [.data, .pinned], laidTests := true, laidLooks := .later }
def FnExactPlacesTextCardSaid : Prop := Claim7.holds Tryd.pinned (.plain (OpenSpec.ofChange fnExactPlacesTextSpec)) fnExactPlacesTextCard

/-- THE TIED CARD OF 'laws.FnPlacesText'. -/
def fnPlacesTextCard : Claim7 := { stood := { row := fnPlacesTextRow, standIns := [], harness := (true, "7ba5731e6011b735e72f1961579d532fbc3c337b7b413ab6d91a419b6da0ea4b"), looks := false }, kinds := [], alts := [], laidByText := true, laidKinds := [.data, .pinned], laidTests := true, laidLooks := .later }
def FnPlacesTextCardSaid : Prop := Claim7.holds Tryd.pinned (.plain (OpenSpec.ofChange fnPlacesTextSpec)) fnPlacesTextCard

/-- THE SECOND FORM's CARD OF 'laws.FnExactPlacesText'. -/
def fnExactPlacesTextUptoCard : Claim7 := { stood := { row := fnExactPlacesTextUptoRow, standIns := [], harness := (true, "7ba5731e6011b735e72f1961579d532fbc3c337b7b413ab6d91a419b6da0ea4b"), looks := false }, kinds := [], alts := [], laidByText := true, laidKinds := [.data, .pinned], laidTests := true, laidLooks := .later }
def FnExactPlacesTextUptoCardSaid : Prop := Claim7.holds Tryd.pinned (.plain (OpenSpec.upto fnExactPlacesTextSpec)) fnExactPlacesTextUptoCard

/-- THE SECOND FORM's CARD OF 'laws.FnPlacesText'. -/
def fnPlacesTextUptoCard : Claim7 := { stood := { row := fnPlacesTextUptoRow, standIns := [], harness := (true, "7ba5731e6011b735e72f1961579d532fbc3c337b7b413ab6d91a419b6da0ea4b"), looks := false }, kinds := [], alts := [], laidByText := true, laidKinds := [.data, .pinned], laidTests := true, laidLooks := .later }
def FnPlacesTextUptoCardSaid : Prop := Claim7.holds Tryd.pinned (.plain (OpenSpec.upto fnPlacesTextSpec)) fnPlacesTextUptoCard
end Rows
end Go.Proofs.YtfodfapaidfhbaaDoor

/-
  DERIVED. GIVEN WITH THE SEED: THE CARDS: each row of YtaleeoghifcadaaDoorRows.lean that lists a variable, with what it lists TIED to the program's text (the seventh form; the later family's looks); each row that meets fmt, with fmt's text TOLD by the authors' own Lean function (tested against real Go, not proved from fmt's source: count such statements apart). THE CARD IS WHAT COUNTS. Prove the row's statement (the work); the ties are given (YtaleeoghifcadaaDoorTie.lean); close each card by the builder's one call (the guide's Derived/Test/ToyasCard.lean, 'card_holds'). Laid BY PROGRAM, IN A SANDBOX (cutbox-door.mjs). By AI agents, Wed Nov 11 2026. No macro, syntax, notation, axiom, sorry.
-/
import Derived.Test.YtaleeoghifcadaaDoorRows
import GoSem.ClaimSeven
namespace Go.Proofs.YtaleeoghifcadaaDoor
namespace Rows

/-- THE TIED CARD OF 'laws.FnTileHas'. -/
def fnTileHasCard : Claim7 := { stood := { row := fnTileHasRow, standIns := [], harness := (true, "40e37c0d82d1a1fb0c632a6cbbca785942b217e333014797603bce4089056b42"), looks := true }, kinds := [], alts := [], laidByText := true, laidKinds := [.data, .pinned], laidTests := true, laidLooks := .later }
def FnTileHasCardSaid : Prop := Claim7.holds Tryd.pinned (.plain (OpenSpec.ofChange fnTileHasSpec)) fnTileHasCard

/-- THE TIED CARD OF 'laws.FnTileSplit'. -/
def fnTileSplitCard : Claim7 := { stood := { row := fnTileSplitRow, standIns := [], harness := (true, "40e37c0d82d1a1fb0c632a6cbbca785942b217e333014797603bce4089056b42"), looks := true }, kinds := [], alts := [], laidByText := true, laidKinds := [.data, .pinned], laidTests := true, laidLooks := .later }
def FnTileSplitCardSaid : Prop := Claim7.holds Tryd.pinned (.plain (OpenSpec.ofChange fnTileSplitSpec)) fnTileSplitCard

/-- THE TIED CARD OF 'laws.FnPoints'. -/
def fnPointsCard : Claim7 := { stood := { row := fnPointsRow, standIns := [], harness := (true, "40e37c0d82d1a1fb0c632a6cbbca785942b217e333014797603bce4089056b42"), looks := true }, kinds := [], alts := [], laidByText := true, laidKinds := [.data, .data, .data, .data, .pinned], laidTests := true, laidLooks := .later }
def FnPointsCardSaid : Prop := Claim7.holds Tryd.pinned (.plain (OpenSpec.ofChange fnPointsSpec)) fnPointsCard

/-- THE TIED CARD OF 'laws.FnEdges'. -/
def fnEdgesCard : Claim7 := { stood := { row := fnEdgesRow, standIns := [], harness := (true, "40e37c0d82d1a1fb0c632a6cbbca785942b217e333014797603bce4089056b42"), looks := true }, kinds := [], alts := [], laidByText := true, laidKinds := [.data, .data, .data], laidTests := true, laidLooks := .later }
def FnEdgesCardSaid : Prop := Claim7.holds Tryd.pinned (.plain (OpenSpec.ofChange fnEdgesSpec)) fnEdgesCard

/-- THE TIED CARD OF 'laws.FnShape'. -/
def fnShapeCard : Claim7 := { stood := { row := fnShapeRow, standIns := [], harness := (true, "40e37c0d82d1a1fb0c632a6cbbca785942b217e333014797603bce4089056b42"), looks := true }, kinds := [], alts := [], laidByText := true, laidKinds := [.data, .data, .data], laidTests := true, laidLooks := .later }
def FnShapeCardSaid : Prop := Claim7.holds Tryd.pinned (.plain (OpenSpec.ofChange fnShapeSpec)) fnShapeCard

/-- THE TIED CARD OF 'laws.FnTileBox'. -/
def fnTileBoxCard : Claim7 := { stood := { row := fnTileBoxRow, standIns := [], harness := (true, "40e37c0d82d1a1fb0c632a6cbbca785942b217e333014797603bce4089056b42"), looks := true }, kinds := [], alts := [], laidByText := true, laidKinds := [.data, .data, .data], laidTests := true, laidLooks := .later }
def FnTileBoxCardSaid : Prop := Claim7.holds Tryd.pinned (.plain (OpenSpec.ofChange fnTileBoxSpec)) fnTileBoxCard

/-- THE TIED CARD OF 'laws.FnExactTileHas'. -/
def fnExactTileHasCard : Claim7 := { stood := { row := fnExactTileHasRow, standIns := [], harness := (true, "40e37c0d82d1a1fb0c632a6cbbca785942b217e333014797603bce4089056b42"), looks := true }, kinds := [], alts := [], laidByText := true, laidKinds := [.data, .pinned], laidTests := true, laidLooks := .later }
def FnExactTileHasCardSaid : Prop := Claim7.holds Tryd.pinned (.plain (OpenSpec.ofChange fnExactTileHasSpec)) fnExactTileHasCard

/-- THE TIED CARD OF 'laws.FnExactTileSplit'. -/
def fnExactTileSplitCard : Claim7 := { stood := { row := fnExactTileSplitRow, standIns := [], harness := (true, "40e37c0d82d1a1fb0c632a6cbbca785942b217e333014797603bce4089056b42"), looks := true }, kinds := [], alts := [], laidByText := true, laidKinds := [.data, .pinned], laidTests := true, laidLooks := .later }
def FnExactTileSplitCardSaid : Prop := Claim7.holds Tryd.pinned (.plain (OpenSpec.ofChange fnExactTileSplitSpec)) fnExactTileSplitCard

/-- THE TIED CARD OF 'laws.FnExactTilePoints'. -/
def fnExactTilePointsCard : Claim7 := { stood := { row := fnExactTilePointsRow, standIns := [], harness := (true, "40e37c0d82d1a1fb0c632a6cbbca785942b217e333014797603bce4089056b42"), looks := true }, kinds := [], alts := [], laidByText := true, laidKinds := [.data, .data, .data], laidTests := true, laidLooks := .later }
def FnExactTilePointsCardSaid : Prop := Claim7.holds Tryd.pinned (.plain (OpenSpec.ofChange fnExactTilePointsSpec)) fnExactTilePointsCard

/-- THE TIED CARD OF 'laws.FnExactTileEdges'. -/
def fnExactTileEdgesCard : Claim7 := { stood := { row := fnExactTileEdgesRow, standIns := [], harness := (true, "40e37c0d82d1a1fb0c632a6cbbca785942b217e333014797603bce4089056b42"), looks := true }, kinds := [], alts := [], laidByText := true, laidKinds := [.data, .data, .data], laidTests := true, laidLooks := .later }
def FnExactTileEdgesCardSaid : Prop := Claim7.holds Tryd.pinned (.plain (OpenSpec.ofChange fnExactTileEdgesSpec)) fnExactTileEdgesCard

/-- THE TIED CARD OF 'laws.FnExactTileShape'. -/
def fnExactTileShapeCard : Claim7 := { stood := { row := fnExactTileShapeRow, standIns := [], harness := (true, "40e37c0d82d1a1fb0c632a6cbbca785942b217e333014797603bce4089056b42"), looks := true }, kinds := [], alts := [], laidByText := true, laidKinds := [.data, .data, .data], laidTests := true, laidLooks := .later }
def FnExactTileShapeCardSaid : Prop := Claim7.holds Tryd.pinned (.plain (OpenSpec.ofChange fnExactTileShapeSpec)) fnExactTileShapeCard

/-- THE SECOND FORM's CARD OF 'laws.FnTileHas'. -/
def fnTileHasUptoCard : Claim7 := { stood := { row := fnTileHasUptoRow, standIns := [], harness := (true, "40e37c0d82d1a1fb0c632a6cbbca785942b217e333014797603bce4089056b42"), looks := true }, kinds := [], alts := [], laidByText := true, laidKinds := [.data, .pinned], laidTests := true, laidLooks := .later }
def FnTileHasUptoCardSaid : Prop := Claim7.holds Tryd.pinned (.plain (OpenSpec.upto fnTileHasSpec)) fnTileHasUptoCard

/-- THE SECOND FORM's CARD OF 'laws.FnTileSplit'. -/
def fnTileSplitUptoCard : Claim7 := { stood := { row := fnTileSplitUptoRow, standIns := [], harness := (true, "40e37c0d82d1a1fb0c632a6cbbca785942b217e333014797603bce4089056b42"), looks := true }, kinds := [], alts := [], laidByText := true, laidKinds := [.data, .pinned], laidTests := true, laidLooks := .later }
def FnTileSplitUptoCardSaid : Prop := Claim7.holds Tryd.pinned (.plain (OpenSpec.upto fnTileSplitSpec)) fnTileSplitUptoCard

/-- THE SECOND FORM's CARD OF 'laws.FnPoints'. -/
def fnPointsUptoCard : Claim7 := { stood := { row := fnPointsUptoRow, standIns := [], harness := (true, "40e37c0d82d1a1fb0c632a6cbbca785942b217e333014797603bce4089056b42"), looks := true }, kinds := [], alts := [], laidByText := true, laidKinds := [.data, .data, .data, .data, .pinned], laidTests := true, laidLooks := .later }
def FnPointsUptoCardSaid : Prop := Claim7.holds Tryd.pinned (.plain (OpenSpec.upto fnPointsSpec)) fnPointsUptoCard

/-- THE SECOND FORM's CARD OF 'laws.FnEdges'. -/
def fnEdgesUptoCard : Claim7 := { stood := { row := fnEdgesUptoRow, standIns := [], harness := (true, "40e37c0d82d1a1fb0c632a6cbbca785942b217e333014797603bce4089056b42"), looks := true }, kinds := [], alts := [], laidByText := true, laidKinds := [.data, .data, .data], laidTests := true, laidLooks := .later }
def FnEdgesUptoCardSaid : Prop := Claim7.holds Tryd.pinned (.plain (OpenSpec.upto fnEdgesSpec)) fnEdgesUptoCard

/-- THE SECOND FORM's CARD OF 'laws.FnShape'. -/
def fnShapeUptoCard : Claim7 := { stood := { row := fnShapeUptoRow, standIns := [], harness := (true, "40e37c0d82d1a1fb0c632a6cbbca785942b217e333014797603bce4089056b42"), looks := true }, kinds := [], alts := [], laidByText := true, laidKinds := [.data, .data, .data], laidTests := true, laidLooks := .later }
def FnShapeUptoCardSaid : Prop := Claim7.holds Tryd.pinned (.plain (OpenSpec.upto fnShapeSpec)) fnShapeUptoCard

/-- THE SECOND FORM's CARD OF 'laws.FnTileBox'. -/
def fnTileBoxUptoCard : Claim7 := { stood := { row := fnTileBoxUptoRow, standIns := [], harness := (true, "40e37c0d82d1a1fb0c632a6cbbca785942b217e333014797603bce4089056b42"), looks := true }, kinds := [], alts := [], laidByText := true, laidKinds := [.data, .data, .data], laidTests := true, laidLooks := .later }
def FnTileBoxUptoCardSaid : Prop := Claim7.holds Tryd.pinned (.plain (OpenSpec.upto fnTileBoxSpec)) fnTileBoxUptoCard

/-- THE SECOND FORM's CARD OF 'laws.FnExactTileHas'. -/
def fnExactTileHasUptoCard : Claim7 := { stood := { row := fnExactTileHasUptoRow, standIns := [], harness := (true, "40e37c0d82d1a1fb0c632a6cbbca785942b217e333014797603bce4089056b42"), looks := true }, kinds := [], alts := [], laidByText := true, laidKinds := [.data, .pinned], laidTests := true, laidLooks := .later }
def FnExactTileHasUptoCardSaid : Prop := Claim7.holds Tryd.pinned (.plain (OpenSpec.upto fnExactTileHasSpec)) fnExactTileHasUptoCard

/-- THE SECOND FORM's CARD OF 'laws.FnExactTileSplit'. -/
def fnExactTileSplitUptoCard : Claim7 := { stood := { row := fnExactTileSplitUptoRow, standIns := [], harness := (true, "40e37c0d82d1a1fb0c632a6cbbca785942b217e333014797603bce4089056b42"), looks := true }, kinds := [], alts := [], laidByText := true, laidKinds := [.data, .pinned], laidTests := true, laidLooks := .later }
def FnExactTileSplitUptoCardSaid : Prop := Claim7.holds Tryd.pinned (.plain (OpenSpec.upto fnExactTileSplitSpec)) fnExactTileSplitUptoCard

/-- THE SECOND FORM's CARD OF 'laws.FnExactTilePoints'. -/
def fnExactTilePointsUptoCard : Claim7 := { stood := { row := fnExactTilePointsUptoRow, standIns := [], harness := (true, "40e37c0d82d1a1fb0c632a6cbbca785942b217e333014797603bce4089056b42"), looks := true }, kinds := [], alts := [], laidByText := true, laidKinds := [.data, .data, .data], laidTests := true, laidLooks := .later }
def FnExactTilePointsUptoCardSaid : Prop := Claim7.holds Tryd.pinned (.plain (OpenSpec.upto fnExactTilePointsSpec)) fnExactTilePointsUptoCard

/-- THE SECOND FORM's CARD OF 'laws.FnExactTileEdges'. -/
def fnExactTileEdgesUptoCard : Claim7 := { stood := { row := fnExactTileEdgesUptoRow, standIns := [], harness := (true, "40e37c0d82d1a1fb0c632a6cbbca785942b217e333014797603bce4089056b42"), looks := true }, kinds := [], alts := [], laidByText := true, laidKinds := [.data, .data, .data], laidTests := true, laidLooks := .later }
def FnExactTileEdgesUptoCardSaid : Prop := Claim7.holds Tryd.pinned (.plain (OpenSpec.upto fnExactTileEdgesSpec)) fnExactTileEdgesUptoCard

/-- THE SECOND FORM's CARD OF 'laws.FnExactTileShape'. -/
def fnExactTileShapeUptoCard : Claim7 := { stood := { row := fnExactTileShapeUptoRow, standIns := [], harness := (true, "40e37c0d82d1a1fb0c632a6cbbca785942b217e333014797603bce4089056b42"), looks := true }, kinds := [], alts := [], laidByText := true, laidKinds := [.data, .data, .data], laidTests := true, laidLooks := .later }
def FnExactTileShapeUptoCardSaid : Prop := Claim7.holds Tryd.pinned (.plain (OpenSpec.upto fnExactTileShapeSpec)) fnExactTileShapeUptoCard
end Rows
end Go.Proofs.YtaleeoghifcadaaDoor

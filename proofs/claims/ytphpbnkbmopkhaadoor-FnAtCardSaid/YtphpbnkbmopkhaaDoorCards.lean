/-
  DERIVED. GIVEN WITH THE SEED: THE CARDS: each row of YtphpbnkbmopkhaaDoorRows.lean that lists a variable, with what it lists TIED to the program's text (the seventh form; the later family's looks); each row that meets fmt, with fmt's text TOLD by the authors' own Lean function (tested against real Go, not proved from fmt's source: count such statements apart). THE CARD IS WHAT COUNTS. Prove the row's statement (the work); the ties are given (YtphpbnkbmopkhaaDoorTie.lean); close each card by the builder's one call (the guide's Derived/Test/ToyasCard.lean, 'card_holds'). Laid BY PROGRAM, IN A SANDBOX (cutbox-door.mjs). By AI agents, Wed Nov 11 2026. No macro, syntax, notation, axiom, sorry.
-/
import Derived.Test.YtphpbnkbmopkhaaDoorRows
import GoSem.ClaimSeven
namespace Go.Proofs.YtphpbnkbmopkhaaDoor
namespace Rows

/-- THE TIED CARD OF 'laws.FnWord'. -/
def fnWordCard : Claim7 := { stood := { row := fnWordRow, standIns := [], harness := (true, "427eed556ffa03790ee2b8f217807cb1020bb7e8e847cbadd087ffee5fba2106"), looks := false }, kinds := [], alts := [], laidByText := true, laidKinds := [.data, .data], laidTests := true, laidLooks := .later }
def FnWordCardSaid : Prop := Claim7.holds Tryd.pinned (.plain (OpenSpec.ofChange fnWordSpec)) fnWordCard

/-- THE TIED CARD OF 'laws.FnAt'. -/
def fnAtCard : Claim7 := { stood := { row := fnAtRow, standIns := [], harness := (true, "427eed556ffa03790ee2b8f217807cb1020bb7e8e847cbadd087ffee5fba2106"), looks := false }, kinds := [], alts := [], laidByText := true, laidKinds := [.data, .data], laidTests := true, laidLooks := .later }
def FnAtCardSaid : Prop := Claim7.holds Tryd.pinned (.plain (OpenSpec.ofChange fnAtSpec)) fnAtCard

/-- THE TIED CARD OF 'laws.FnFold'. -/
def fnFoldCard : Claim7 := { stood := { row := fnFoldRow, standIns := [], harness := (true, "427eed556ffa03790ee2b8f217807cb1020bb7e8e847cbadd087ffee5fba2106"), looks := false }, kinds := [], alts := [], laidByText := true, laidKinds := [.data, .data], laidTests := true, laidLooks := .later }
def FnFoldCardSaid : Prop := Claim7.holds Tryd.pinned (.plain (OpenSpec.ofChange fnFoldSpec)) fnFoldCard

/-- THE TIED CARD OF 'laws.FnExactTurnWord'. -/
def fnExactTurnWordCard : Claim7 := { stood := { row := fnExactTurnWordRow, standIns := [], harness := (true, "427eed556ffa03790ee2b8f217807cb1020bb7e8e847cbadd087ffee5fba2106"), looks := false }, kinds := [], alts := [], laidByText := true, laidKinds := [.data, .data], laidTests := true, laidLooks := .later }
def FnExactTurnWordCardSaid : Prop := Claim7.holds Tryd.pinned (.plain (OpenSpec.ofChange fnExactTurnWordSpec)) fnExactTurnWordCard

/-- THE TIED CARD OF 'laws.FnExactTurnAt'. -/
def fnExactTurnAtCard : Claim7 := { stood := { row := fnExactTurnAtRow, standIns := [], harness := (true, "427eed556ffa03790ee2b8f217807cb1020bb7e8e847cbadd087ffee5fba2106"), looks := false }, kinds := [], alts := [], laidByText := true, laidKinds := [.data, .data], laidTests := true, laidLooks := .later }
def FnExactTurnAtCardSaid : Prop := Claim7.holds Tryd.pinned (.plain (OpenSpec.ofChange fnExactTurnAtSpec)) fnExactTurnAtCard

/-- THE TIED CARD OF 'laws.FnExactTurnFold'. -/
def fnExactTurnFoldCard : Claim7 := { stood := { row := fnExactTurnFoldRow, standIns := [], harness := (true, "427eed556ffa03790ee2b8f217807cb1020bb7e8e847cbadd087ffee5fba2106"), looks := false }, kinds := [], alts := [], laidByText := true, laidKinds := [.data, .data], laidTests := true, laidLooks := .later }
def FnExactTurnFoldCardSaid : Prop := Claim7.holds Tryd.pinned (.plain (OpenSpec.ofChange fnExactTurnFoldSpec)) fnExactTurnFoldCard

/-- THE SECOND FORM's CARD OF 'laws.FnWord'. -/
def fnWordUptoCard : Claim7 := { stood := { row := fnWordUptoRow, standIns := [], harness := (true, "427eed556ffa03790ee2b8f217807cb1020bb7e8e847cbadd087ffee5fba2106"), looks := false }, kinds := [], alts := [], laidByText := true, laidKinds := [.data, .data], laidTests := true, laidLooks := .later }
def FnWordUptoCardSaid : Prop := Claim7.holds Tryd.pinned (.plain (OpenSpec.upto fnWordSpec)) fnWordUptoCard

/-- THE SECOND FORM's CARD OF 'laws.FnAt'. -/
def fnAtUptoCard : Claim7 := { stood := { row := fnAtUptoRow, standIns := [], harness := (true, "427eed556ffa03790ee2b8f217807cb1020bb7e8e847cbadd087ffee5fba2106"), looks := false }, kinds := [], alts := [], laidByText := true, laidKinds := [.data, .data], laidTests := true, laidLooks := .later }
def FnAtUptoCardSaid : Prop := Claim7.holds Tryd.pinned (.plain (OpenSpec.upto fnAtSpec)) fnAtUptoCard

/-- THE SECOND FORM's CARD OF 'laws.FnFold'. -/
def fnFoldUptoCard : Claim7 := { stood := { row := fnFoldUptoRow, standIns := [], harness := (true, "427eed556ffa03790ee2b8f217807cb1020bb7e8e847cbadd087ffee5fba2106"), looks := false }, kinds := [], alts := [], laidByText := true, laidKinds := [.data, .data], laidTests := true, laidLooks := .later }
def FnFoldUptoCardSaid : Prop := Claim7.holds Tryd.pinned (.plain (OpenSpec.upto fnFoldSpec)) fnFoldUptoCard

/-- THE SECOND FORM's CARD OF 'laws.FnExactTurnWord'. -/
def fnExactTurnWordUptoCard : Claim7 := { stood := { row := fnExactTurnWordUptoRow, standIns := [], harness := (true, "427eed556ffa03790ee2b8f217807cb1020bb7e8e847cbadd087ffee5fba2106"), looks := false }, kinds := [], alts := [], laidByText := true, laidKinds := [.data, .data], laidTests := true, laidLooks := .later }
def FnExactTurnWordUptoCardSaid : Prop := Claim7.holds Tryd.pinned (.plain (OpenSpec.upto fnExactTurnWordSpec)) fnExactTurnWordUptoCard

/-- THE SECOND FORM's CARD OF 'laws.FnExactTurnAt'. -/
def fnExactTurnAtUptoCard : Claim7 := { stood := { row := fnExactTurnAtUptoRow, standIns := [], harness := (true, "427eed556ffa03790ee2b8f217807cb1020bb7e8e847cbadd087ffee5fba2106"), looks := false }, kinds := [], alts := [], laidByText := true, laidKinds := [.data, .data], laidTests := true, laidLooks := .later }
def FnExactTurnAtUptoCardSaid : Prop := Claim7.holds Tryd.pinned (.plain (OpenSpec.upto fnExactTurnAtSpec)) fnExactTurnAtUptoCard

/-- THE SECOND FORM's CARD OF 'laws.FnExactTurnFold'. -/
def fnExactTurnFoldUptoCard : Claim7 := { stood := { row := fnExactTurnFoldUptoRow, standIns := [], harness := (true, "427eed556ffa03790ee2b8f217807cb1020bb7e8e847cbadd087ffee5fba2106"), looks := false }, kinds := [], alts := [], laidByText := true, laidKinds := [.data, .data], laidTests := true, laidLooks := .later }
def FnExactTurnFoldUptoCardSaid : Prop := Claim7.holds Tryd.pinned (.plain (OpenSpec.upto fnExactTurnFoldSpec)) fnExactTurnFoldUptoCard
end Rows
end Go.Proofs.YtphpbnkbmopkhaaDoor

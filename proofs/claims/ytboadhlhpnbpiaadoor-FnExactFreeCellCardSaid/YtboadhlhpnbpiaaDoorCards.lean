/-
  DERIVED. GIVEN WITH THE SEED: THE CARDS: each row of YtboadhlhpnbpiaaDoorRows.lean that lists a variable, with what it lists TIED to the program's text (the seventh form; the later family's looks); each row that meets fmt, with fmt's text TOLD by the authors' own Lean function (tested against real Go, not proved from fmt's source: count such statements apart). THE CARD IS WHAT COUNTS. Prove the row's statement (the work); the ties are given (YtboadhlhpnbpiaaDoorTie.lean); close each card by the builder's one call (the guide's Derived/Test/ToyasCard.lean, 'card_holds'). Laid BY PROGRAM, IN A SANDBOX (cutbox-door.mjs). By AI agents, Wed Nov 11 2026. No macro, syntax, notation, axiom, sorry.
-/
import Derived.Test.YtboadhlhpnbpiaaDoorRows
import GoSem.ClaimSeven
namespace Go.Proofs.YtboadhlhpnbpiaaDoor
namespace Rows

/-- THE TIED CARD OF 'laws.FnExactNewCell'. -/
def fnExactNewCellCard : Claim7 := { stood := { row := fnExactNewCellRow, standIns := [], harness := (true, "ca359d161470eeb27fe9bed87f19954c4c2057f36ead5a3ebaa726526517054f"), looks := true }, kinds := [], alts := [], laidByText := true, laidKinds := [.sentinel], laidTests := true, laidLooks := .later }
def FnExactNewCellCardSaid : Prop := Claim7.holds Tryd.pinned (.plain (OpenSpec.ofChange fnExactNewCellSpec)) fnExactNewCellCard

/-- THE TIED CARD OF 'laws.FnExactReadCell'. -/
def fnExactReadCellCard : Claim7 := { stood := { row := fnExactReadCellRow, standIns := [], harness := (true, "ca359d161470eeb27fe9bed87f19954c4c2057f36ead5a3ebaa726526517054f"), looks := true }, kinds := [], alts := [], laidByText := true, laidKinds := [.sentinel, .sentinel, .sentinel, .sentinel], laidTests := true, laidLooks := .later }
def FnExactReadCellCardSaid : Prop := Claim7.holds Tryd.pinned (.plain (OpenSpec.ofChange fnExactReadCellSpec)) fnExactReadCellCard

/-- THE TIED CARD OF 'laws.FnExactWriteCell'. -/
def fnExactWriteCellCard : Claim7 := { stood := { row := fnExactWriteCellRow, standIns := [], harness := (true, "ca359d161470eeb27fe9bed87f19954c4c2057f36ead5a3ebaa726526517054f"), looks := true }, kinds := [], alts := [], laidByText := true, laidKinds := [.sentinel, .sentinel, .sentinel, .sentinel], laidTests := true, laidLooks := .later }
def FnExactWriteCellCardSaid : Prop := Claim7.holds Tryd.pinned (.plain (OpenSpec.ofChange fnExactWriteCellSpec)) fnExactWriteCellCard

/-- THE TIED CARD OF 'laws.FnExactShareCell'. -/
def fnExactShareCellCard : Claim7 := { stood := { row := fnExactShareCellRow, standIns := [], harness := (true, "ca359d161470eeb27fe9bed87f19954c4c2057f36ead5a3ebaa726526517054f"), looks := true }, kinds := [], alts := [], laidByText := true, laidKinds := [.sentinel, .sentinel, .sentinel, .sentinel], laidTests := true, laidLooks := .later }
def FnExactShareCellCardSaid : Prop := Claim7.holds Tryd.pinned (.plain (OpenSpec.ofChange fnExactShareCellSpec)) fnExactShareCellCard

/-- THE TIED CARD OF 'laws.FnExactBorrowCell'. -/
def fnExactBorrowCellCard : Claim7 := { stood := { row := fnExactBorrowCellRow, standIns := [], harness := (true, "ca359d161470eeb27fe9bed87f19954c4c2057f36ead5a3ebaa726526517054f"), looks := true }, kinds := [], alts := [], laidByText := true, laidKinds := [.sentinel, .sentinel, .sentinel, .sentinel], laidTests := true, laidLooks := .later }
def FnExactBorrowCellCardSaid : Prop := Claim7.holds Tryd.pinned (.plain (OpenSpec.ofChange fnExactBorrowCellSpec)) fnExactBorrowCellCard

/-- THE TIED CARD OF 'laws.FnExactFreeCell'. -/
def fnExactFreeCellCard : Claim7 := { stood := { row := fnExactFreeCellRow, standIns := [], harness := (true, "ca359d161470eeb27fe9bed87f19954c4c2057f36ead5a3ebaa726526517054f"), looks := true }, kinds := [], alts := [], laidByText := true, laidKinds := [.sentinel, .sentinel, .sentinel, .sentinel], laidTests := true, laidLooks := .later }
def FnExactFreeCellCardSaid : Prop := Claim7.holds Tryd.pinned (.plain (OpenSpec.ofChange fnExactFreeCellSpec)) fnExactFreeCellCard

/-- THE TIED CARD OF 'laws.FnExactFormatCells'. -/
def fnExactFormatCellsCard : Claim7 := { stood := { row := fnExactFormatCellsRow, standIns := [], harness := (true, "ca359d161470eeb27fe9bed87f19954c4c2057f36ead5a3ebaa726526517054f"), looks := true }, kinds := [], alts := [], laidByText := true, laidKinds := [.data, .data, .data], laidTests := true, laidLooks := .later }
def FnExactFormatCellsCardSaid : Prop := Claim7.holds Tryd.pinned (.plain (OpenSpec.ofChange fnExactFormatCellsSpec)) fnExactFormatCellsCard

/-- THE SECOND FORM's CARD OF 'laws.FnExactNewCell'. -/
def fnExactNewCellUptoCard : Claim7 := { stood := { row := fnExactNewCellUptoRow, standIns := [], harness := (true, "ca359d161470eeb27fe9bed87f19954c4c2057f36ead5a3ebaa726526517054f"), looks := true }, kinds := [], alts := [], laidByText := true, laidKinds := [.sentinel], laidTests := true, laidLooks := .later }
def FnExactNewCellUptoCardSaid : Prop := Claim7.holds Tryd.pinned (.plain (OpenSpec.upto fnExactNewCellSpec)) fnExactNewCellUptoCard

/-- THE SECOND FORM's CARD OF 'laws.FnExactReadCell'. -/
def fnExactReadCellUptoCard : Claim7 := { stood := { row := fnExactReadCellUptoRow, standIns := [], harness := (true, "ca359d161470eeb27fe9bed87f19954c4c2057f36ead5a3ebaa726526517054f"), looks := true }, kinds := [], alts := [], laidByText := true, laidKinds := [.sentinel, .sentinel, .sentinel, .sentinel], laidTests := true, laidLooks := .later }
def FnExactReadCellUptoCardSaid : Prop := Claim7.holds Tryd.pinned (.plain (OpenSpec.upto fnExactReadCellSpec)) fnExactReadCellUptoCard

/-- THE SECOND FORM's CARD OF 'laws.FnExactWriteCell'. -/
def fnExactWriteCellUptoCard : Claim7 := { stood := { row := fnExactWriteCellUptoRow, standIns := [], harness := (true, "ca359d161470eeb27fe9bed87f19954c4c2057f36ead5a3ebaa726526517054f"), looks := true }, kinds := [], alts := [], laidByText := true, laidKinds := [.sentinel, .sentinel, .sentinel, .sentinel], laidTests := true, laidLooks := .later }
def FnExactWriteCellUptoCardSaid : Prop := Claim7.holds Tryd.pinned (.plain (OpenSpec.upto fnExactWriteCellSpec)) fnExactWriteCellUptoCard

/-- THE SECOND FORM's CARD OF 'laws.FnExactShareCell'. -/
def fnExactShareCellUptoCard : Claim7 := { stood := { row := fnExactShareCellUptoRow, standIns := [], harness := (true, "ca359d161470eeb27fe9bed87f19954c4c2057f36ead5a3ebaa726526517054f"), looks := true }, kinds := [], alts := [], laidByText := true, laidKinds := [.sentinel, .sentinel, .sentinel, .sentinel], laidTests := true, laidLooks := .later }
def FnExactShareCellUptoCardSaid : Prop := Claim7.holds Tryd.pinned (.plain (OpenSpec.upto fnExactShareCellSpec)) fnExactShareCellUptoCard

/-- THE SECOND FORM's CARD OF 'laws.FnExactBorrowCell'. -/
def fnExactBorrowCellUptoCard : Claim7 := { stood := { row := fnExactBorrowCellUptoRow, standIns := [], harness := (true, "ca359d161470eeb27fe9bed87f19954c4c2057f36ead5a3ebaa726526517054f"), looks := true }, kinds := [], alts := [], laidByText := true, laidKinds := [.sentinel, .sentinel, .sentinel, .sentinel], laidTests := true, laidLooks := .later }
def FnExactBorrowCellUptoCardSaid : Prop := Claim7.holds Tryd.pinned (.plain (OpenSpec.upto fnExactBorrowCellSpec)) fnExactBorrowCellUptoCard

/-- THE SECOND FORM's CARD OF 'laws.FnExactFreeCell'. -/
def fnExactFreeCellUptoCard : Claim7 := { stood := { row := fnExactFreeCellUptoRow, standIns := [], harness := (true, "ca359d161470eeb27fe9bed87f19954c4c2057f36ead5a3ebaa726526517054f"), looks := true }, kinds := [], alts := [], laidByText := true, laidKinds := [.sentinel, .sentinel, .sentinel, .sentinel], laidTests := true, laidLooks := .later }
def FnExactFreeCellUptoCardSaid : Prop := Claim7.holds Tryd.pinned (.plain (OpenSpec.upto fnExactFreeCellSpec)) fnExactFreeCellUptoCard

/-- THE SECOND FORM's CARD OF 'laws.FnExactFormatCells'. -/
def fnExactFormatCellsUptoCard : Claim7 := { stood := { row := fnExactFormatCellsUptoRow, standIns := [], harness := (true, "ca359d161470eeb27fe9bed87f19954c4c2057f36ead5a3ebaa726526517054f"), looks := true }, kinds := [], alts := [], laidByText := true, laidKinds := [.data, .data, .data], laidTests := true, laidLooks := .later }
def FnExactFormatCellsUptoCardSaid : Prop := Claim7.holds Tryd.pinned (.plain (OpenSpec.upto fnExactFormatCellsSpec)) fnExactFormatCellsUptoCard
end Rows
end Go.Proofs.YtboadhlhpnbpiaaDoor

/-
  DERIVED. GIVEN WITH THE SEED: THE CARDS: each row of YtnneamfndokleaaDoorRows.lean that lists a variable, with what it lists TIED to the program's text (the seventh form; the later family's looks); each row that meets fmt, with fmt's text TOLD by the authors' own Lean function (tested against real Go, not proved from fmt's source: count such statements apart). THE CARD IS WHAT COUNTS. Prove the row's statement (the work); the ties are given (YtnneamfndokleaaDoorTie.lean); close each card by the builder's one call (the guide's Derived/Test/ToyasCard.lean, 'card_holds'). Laid BY PROGRAM, IN A SANDBOX (cutbox-door.mjs). By AI agents, Wed Nov 11 2026. No macro, syntax, notation, axiom, sorry.
-/
import Derived.Test.YtnneamfndokleaaDoorRows
import GoSem.ClaimSeven
namespace Go.Proofs.YtnneamfndokleaaDoor
namespace Rows

/-- THE TIED CARD OF 'laws.FnExactReadCell'. -/
def fnExactReadCellCard : Claim7 := { stood := { row := fnExactReadCellRow, standIns := [], harness := (true, "8b2c4265d0d6e10e1fe4b1f8e93d5164e041504b397b8fca8df0518c36bd4638"), looks := true }, kinds := [], alts := [], laidByText := true, laidKinds := [.sentinel, .sentinel, .sentinel, .sentinel], laidTests := true, laidLooks := .later }
def FnExactReadCellCardSaid : Prop := Claim7.holds Tryd.pinned (.plain (OpenSpec.ofChange fnExactReadCellSpec)) fnExactReadCellCard

/-- THE TIED CARD OF 'laws.FnExactWriteCell'. -/
def fnExactWriteCellCard : Claim7 := { stood := { row := fnExactWriteCellRow, standIns := [], harness := (true, "8b2c4265d0d6e10e1fe4b1f8e93d5164e041504b397b8fca8df0518c36bd4638"), looks := true }, kinds := [], alts := [], laidByText := true, laidKinds := [.sentinel, .sentinel, .sentinel, .sentinel], laidTests := true, laidLooks := .later }
def FnExactWriteCellCardSaid : Prop := Claim7.holds Tryd.pinned (.plain (OpenSpec.ofChange fnExactWriteCellSpec)) fnExactWriteCellCard

/-- THE TIED CARD OF 'laws.FnExactShareCell'. -/
def fnExactShareCellCard : Claim7 := { stood := { row := fnExactShareCellRow, standIns := [], harness := (true, "8b2c4265d0d6e10e1fe4b1f8e93d5164e041504b397b8fca8df0518c36bd4638"), looks := true }, kinds := [], alts := [], laidByText := true, laidKinds := [.sentinel, .sentinel, .sentinel, .sentinel], laidTests := true, laidLooks := .later }
def FnExactShareCellCardSaid : Prop := Claim7.holds Tryd.pinned (.plain (OpenSpec.ofChange fnExactShareCellSpec)) fnExactShareCellCard

/-- THE TIED CARD OF 'laws.FnExactBorrowCell'. -/
def fnExactBorrowCellCard : Claim7 := { stood := { row := fnExactBorrowCellRow, standIns := [], harness := (true, "8b2c4265d0d6e10e1fe4b1f8e93d5164e041504b397b8fca8df0518c36bd4638"), looks := true }, kinds := [], alts := [], laidByText := true, laidKinds := [.sentinel, .sentinel, .sentinel, .sentinel], laidTests := true, laidLooks := .later }
def FnExactBorrowCellCardSaid : Prop := Claim7.holds Tryd.pinned (.plain (OpenSpec.ofChange fnExactBorrowCellSpec)) fnExactBorrowCellCard

/-- THE TIED CARD OF 'laws.FnExactFormatCells'. -/
def fnExactFormatCellsCard : Claim7 := { stood := { row := fnExactFormatCellsRow, standIns := [], harness := (true, "8b2c4265d0d6e10e1fe4b1f8e93d5164e041504b397b8fca8df0518c36bd4638"), looks := true }, kinds := [], alts := [], laidByText := true, laidKinds := [.data, .data, .data], laidTests := true, laidLooks := .later }
def FnExactFormatCellsCardSaid : Prop := Claim7.holds Tryd.pinned (.plain (OpenSpec.ofChange fnExactFormatCellsSpec)) fnExactFormatCellsCard

/-- THE SECOND FORM's CARD OF 'laws.FnExactReadCell'. -/
def fnExactReadCellUptoCard : Claim7 := { stood := { row := fnExactReadCellUptoRow, standIns := [], harness := (true, "8b2c4265d0d6e10e1fe4b1f8e93d5164e041504b397b8fca8df0518c36bd4638"), looks := true }, kinds := [], alts := [], laidByText := true, laidKinds := [.sentinel, .sentinel, .sentinel, .sentinel], laidTests := true, laidLooks := .later }
def FnExactReadCellUptoCardSaid : Prop := Claim7.holds Tryd.pinned (.plain (OpenSpec.upto fnExactReadCellSpec)) fnExactReadCellUptoCard

/-- THE SECOND FORM's CARD OF 'laws.FnExactWriteCell'. -/
def fnExactWriteCellUptoCard : Claim7 := { stood := { row := fnExactWriteCellUptoRow, standIns := [], harness := (true, "8b2c4265d0d6e10e1fe4b1f8e93d5164e041504b397b8fca8df0518c36bd4638"), looks := true }, kinds := [], alts := [], laidByText := true, laidKinds := [.sentinel, .sentinel, .sentinel, .sentinel], laidTests := true, laidLooks := .later }
def FnExactWriteCellUptoCardSaid : Prop := Claim7.holds Tryd.pinned (.plain (OpenSpec.upto fnExactWriteCellSpec)) fnExactWriteCellUptoCard

/-- THE SECOND FORM's CARD OF 'laws.FnExactShareCell'. -/
def fnExactShareCellUptoCard : Claim7 := { stood := { row := fnExactShareCellUptoRow, standIns := [], harness := (true, "8b2c4265d0d6e10e1fe4b1f8e93d5164e041504b397b8fca8df0518c36bd4638"), looks := true }, kinds := [], alts := [], laidByText := true, laidKinds := [.sentinel, .sentinel, .sentinel, .sentinel], laidTests := true, laidLooks := .later }
def FnExactShareCellUptoCardSaid : Prop := Claim7.holds Tryd.pinned (.plain (OpenSpec.upto fnExactShareCellSpec)) fnExactShareCellUptoCard

/-- THE SECOND FORM's CARD OF 'laws.FnExactBorrowCell'. -/
def fnExactBorrowCellUptoCard : Claim7 := { stood := { row := fnExactBorrowCellUptoRow, standIns := [], harness := (true, "8b2c4265d0d6e10e1fe4b1f8e93d5164e041504b397b8fca8df0518c36bd4638"), looks := true }, kinds := [], alts := [], laidByText := true, laidKinds := [.sentinel, .sentinel, .sentinel, .sentinel], laidTests := true, laidLooks := .later }
def FnExactBorrowCellUptoCardSaid : Prop := Claim7.holds Tryd.pinned (.plain (OpenSpec.upto fnExactBorrowCellSpec)) fnExactBorrowCellUptoCard

/-- THE SECOND FORM's CARD OF 'laws.FnExactFormatCells'. -/
def fnExactFormatCellsUptoCard : Claim7 := { stood := { row := fnExactFormatCellsUptoRow, standIns := [], harness := (true, "8b2c4265d0d6e10e1fe4b1f8e93d5164e041504b397b8fca8df0518c36bd4638"), looks := true }, kinds := [], alts := [], laidByText := true, laidKinds := [.data, .data, .data], laidTests := true, laidLooks := .later }
def FnExactFormatCellsUptoCardSaid : Prop := Claim7.holds Tryd.pinned (.plain (OpenSpec.upto fnExactFormatCellsSpec)) fnExactFormatCellsUptoCard
end Rows
end Go.Proofs.YtnneamfndokleaaDoor

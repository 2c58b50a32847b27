/-
  DERIVED. GIVEN WITH THE SEED: THE CARDS: each row of YtfkoobdlhdolbaaDoorRows.lean that lists a variable, with what it lists TIED to the program's text (the seventh form; the later family's looks); each row that meets fmt, with fmt's text TOLD by the authors' own Lean function (tested against real Go, not proved from fmt's source: count such statements apart). THE CARD IS WHAT COUNTS. Prove the row's statement (the work); the ties are given (YtfkoobdlhdolbaaDoorTie.lean); close each card by the builder's one call (the guide's Derived/Test/ToyasCard.lean, 'card_holds'). Laid BY PROGRAM, IN A SANDBOX (cutbox-door.mjs). By AI agents, Wed Nov 11 2026. No macro, syntax, notation, axiom, sorry.
-/
import Derived.Test.YtfkoobdlhdolbaaDoorRows
import GoSem.ClaimSeven
namespace Go.Proofs.YtfkoobdlhdolbaaDoor
namespace Rows

/-- THE TIED CARD OF 'laws.FnReadCell'. -/
def fnReadCellCard : Claim7 := { stood := { row := fnReadCellRow, standIns := [], harness := (true, "ef0a6b46a13899e6d5fb8fbb7cd4d455e8c83eb546ffe413f2875ba205ed6704"), looks := true }, kinds := [], alts := [], laidByText := true, laidKinds := [.sentinel, .sentinel, .sentinel, .sentinel], laidTests := true, laidLooks := .later }
def FnReadCellCardSaid : Prop := Claim7.holds Tryd.pinned (.plain (OpenSpec.ofChange fnReadCellSpec)) fnReadCellCard

/-- THE TIED CARD OF 'laws.FnWriteCell'. -/
def fnWriteCellCard : Claim7 := { stood := { row := fnWriteCellRow, standIns := [], harness := (true, "ef0a6b46a13899e6d5fb8fbb7cd4d455e8c83eb546ffe413f2875ba205ed6704"), looks := true }, kinds := [], alts := [], laidByText := true, laidKinds := [.sentinel, .sentinel, .sentinel, .sentinel], laidTests := true, laidLooks := .later }
def FnWriteCellCardSaid : Prop := Claim7.holds Tryd.pinned (.plain (OpenSpec.ofChange fnWriteCellSpec)) fnWriteCellCard

/-- THE TIED CARD OF 'laws.FnShareCell'. -/
def fnShareCellCard : Claim7 := { stood := { row := fnShareCellRow, standIns := [], harness := (true, "ef0a6b46a13899e6d5fb8fbb7cd4d455e8c83eb546ffe413f2875ba205ed6704"), looks := true }, kinds := [], alts := [], laidByText := true, laidKinds := [.sentinel, .sentinel, .sentinel, .sentinel], laidTests := true, laidLooks := .later }
def FnShareCellCardSaid : Prop := Claim7.holds Tryd.pinned (.plain (OpenSpec.ofChange fnShareCellSpec)) fnShareCellCard

/-- THE TIED CARD OF 'laws.FnBorrowCell'. -/
def fnBorrowCellCard : Claim7 := { stood := { row := fnBorrowCellRow, standIns := [], harness := (true, "ef0a6b46a13899e6d5fb8fbb7cd4d455e8c83eb546ffe413f2875ba205ed6704"), looks := true }, kinds := [], alts := [], laidByText := true, laidKinds := [.sentinel, .sentinel, .sentinel, .sentinel], laidTests := true, laidLooks := .later }
def FnBorrowCellCardSaid : Prop := Claim7.holds Tryd.pinned (.plain (OpenSpec.ofChange fnBorrowCellSpec)) fnBorrowCellCard

/-- THE TIED CARD OF 'laws.FnFreeCell'. -/
def fnFreeCellCard : Claim7 := { stood := { row := fnFreeCellRow, standIns := [], harness := (true, "ef0a6b46a13899e6d5fb8fbb7cd4d455e8c83eb546ffe413f2875ba205ed6704"), looks := true }, kinds := [], alts := [], laidByText := true, laidKinds := [.sentinel, .sentinel, .sentinel, .sentinel], laidTests := true, laidLooks := .later }
def FnFreeCellCardSaid : Prop := Claim7.holds Tryd.pinned (.plain (OpenSpec.ofChange fnFreeCellSpec)) fnFreeCellCard

/-- THE TIED CARD OF 'laws.FnNewCell'. -/
def fnNewCellCard : Claim7 := { stood := { row := fnNewCellRow, standIns := [], harness := (true, "ef0a6b46a13899e6d5fb8fbb7cd4d455e8c83eb546ffe413f2875ba205ed6704"), looks := true }, kinds := [], alts := [], laidByText := true, laidKinds := [.sentinel, .sentinel, .sentinel, .sentinel], laidTests := true, laidLooks := .later }
def FnNewCellCardSaid : Prop := Claim7.holds Tryd.pinned (.plain (OpenSpec.ofChange fnNewCellSpec)) fnNewCellCard

/-- THE TIED CARD OF 'laws.FnFormatCells'. -/
def fnFormatCellsCard : Claim7 := { stood := { row := fnFormatCellsRow, standIns := [], harness := (true, "ef0a6b46a13899e6d5fb8fbb7cd4d455e8c83eb546ffe413f2875ba205ed6704"), looks := true }, kinds := [], alts := [], laidByText := true, laidKinds := [.data, .data, .data], laidTests := true, laidLooks := .later }
def FnFormatCellsCardSaid : Prop := Claim7.holds Tryd.pinned (.plain (OpenSpec.ofChange fnFormatCellsSpec)) fnFormatCellsCard

/-- THE TIED CARD OF 'laws.FnReadTwice'. -/
def fnReadTwiceCard : Claim7 := { stood := { row := fnReadTwiceRow, standIns := [], harness := (true, "ef0a6b46a13899e6d5fb8fbb7cd4d455e8c83eb546ffe413f2875ba205ed6704"), looks := true }, kinds := [], alts := [], laidByText := true, laidKinds := [.sentinel, .sentinel, .sentinel, .sentinel], laidTests := true, laidLooks := .later }
def FnReadTwiceCardSaid : Prop := Claim7.holds Tryd.pinned (.plain (OpenSpec.ofChange fnReadTwiceSpec)) fnReadTwiceCard

/-- THE TIED CARD OF 'laws.FnBorrowTwice'. -/
def fnBorrowTwiceCard : Claim7 := { stood := { row := fnBorrowTwiceRow, standIns := [], harness := (true, "ef0a6b46a13899e6d5fb8fbb7cd4d455e8c83eb546ffe413f2875ba205ed6704"), looks := true }, kinds := [], alts := [], laidByText := true, laidKinds := [.sentinel, .sentinel, .sentinel, .sentinel], laidTests := true, laidLooks := .later }
def FnBorrowTwiceCardSaid : Prop := Claim7.holds Tryd.pinned (.plain (OpenSpec.ofChange fnBorrowTwiceSpec)) fnBorrowTwiceCard

/-- THE TIED CARD OF 'laws.FnOtherCells'. -/
def fnOtherCellsCard : Claim7 := { stood := { row := fnOtherCellsRow, standIns := [], harness := (true, "ef0a6b46a13899e6d5fb8fbb7cd4d455e8c83eb546ffe413f2875ba205ed6704"), looks := true }, kinds := [], alts := [], laidByText := true, laidKinds := [.sentinel, .sentinel, .sentinel, .sentinel], laidTests := true, laidLooks := .later }
def FnOtherCellsCardSaid : Prop := Claim7.holds Tryd.pinned (.plain (OpenSpec.ofChange fnOtherCellsSpec)) fnOtherCellsCard

/-- THE TIED CARD OF 'laws.FnOwnerStays'. -/
def fnOwnerStaysCard : Claim7 := { stood := { row := fnOwnerStaysRow, standIns := [], harness := (true, "ef0a6b46a13899e6d5fb8fbb7cd4d455e8c83eb546ffe413f2875ba205ed6704"), looks := true }, kinds := [], alts := [], laidByText := true, laidKinds := [.sentinel, .sentinel, .sentinel, .sentinel], laidTests := true, laidLooks := .later }
def FnOwnerStaysCardSaid : Prop := Claim7.holds Tryd.pinned (.plain (OpenSpec.ofChange fnOwnerStaysSpec)) fnOwnerStaysCard

/-- THE TIED CARD OF 'laws.FnTagsGrow'. -/
def fnTagsGrowCard : Claim7 := { stood := { row := fnTagsGrowRow, standIns := [], harness := (true, "ef0a6b46a13899e6d5fb8fbb7cd4d455e8c83eb546ffe413f2875ba205ed6704"), looks := true }, kinds := [], alts := [], laidByText := true, laidKinds := [.sentinel, .sentinel, .sentinel, .sentinel], laidTests := true, laidLooks := .later }
def FnTagsGrowCardSaid : Prop := Claim7.holds Tryd.pinned (.plain (OpenSpec.ofChange fnTagsGrowSpec)) fnTagsGrowCard

/-- THE SECOND FORM's CARD OF 'laws.FnReadCell'. -/
def fnReadCellUptoCard : Claim7 := { stood := { row := fnReadCellUptoRow, standIns := [], harness := (true, "ef0a6b46a13899e6d5fb8fbb7cd4d455e8c83eb546ffe413f2875ba205ed6704"), looks := true }, kinds := [], alts := [], laidByText := true, laidKinds := [.sentinel, .sentinel, .sentinel, .sentinel], laidTests := true, laidLooks := .later }
def FnReadCellUptoCardSaid : Prop := Claim7.holds Tryd.pinned (.plain (OpenSpec.upto fnReadCellSpec)) fnReadCellUptoCard

/-- THE SECOND FORM's CARD OF 'laws.FnWriteCell'. -/
def fnWriteCellUptoCard : Claim7 := { stood := { row := fnWriteCellUptoRow, standIns := [], harness := (true, "ef0a6b46a13899e6d5fb8fbb7cd4d455e8c83eb546ffe413f2875ba205ed6704"), looks := true }, kinds := [], alts := [], laidByText := true, laidKinds := [.sentinel, .sentinel, .sentinel, .sentinel], laidTests := true, laidLooks := .later }
def FnWriteCellUptoCardSaid : Prop := Claim7.holds Tryd.pinned (.plain (OpenSpec.upto fnWriteCellSpec)) fnWriteCellUptoCard

/-- THE SECOND FORM's CARD OF 'laws.FnShareCell'. -/
def fnShareCellUptoCard : Claim7 := { stood := { row := fnShareCellUptoRow, standIns := [], harness := (true, "ef0a6b46a13899e6d5fb8fbb7cd4d455e8c83eb546ffe413f2875ba205ed6704"), looks := true }, kinds := [], alts := [], laidByText := true, laidKinds := [.sentinel, .sentinel, .sentinel, .sentinel], laidTests := true, laidLooks := .later }
def FnShareCellUptoCardSaid : Prop := Claim7.holds Tryd.pinned (.plain (OpenSpec.upto fnShareCellSpec)) fnShareCellUptoCard

/-- THE SECOND FORM's CARD OF 'laws.FnBorrowCell'. -/
def fnBorrowCellUptoCard : Claim7 := { stood := { row := fnBorrowCellUptoRow, standIns := [], harness := (true, "ef0a6b46a13899e6d5fb8fbb7cd4d455e8c83eb546ffe413f2875ba205ed6704"), looks := true }, kinds := [], alts := [], laidByText := true, laidKinds := [.sentinel, .sentinel, .sentinel, .sentinel], laidTests := true, laidLooks := .later }
def FnBorrowCellUptoCardSaid : Prop := Claim7.holds Tryd.pinned (.plain (OpenSpec.upto fnBorrowCellSpec)) fnBorrowCellUptoCard

/-- THE SECOND FORM's CARD OF 'laws.FnFreeCell'. -/
def fnFreeCellUptoCard : Claim7 := { stood := { row := fnFreeCellUptoRow, standIns := [], harness := (true, "ef0a6b46a13899e6d5fb8fbb7cd4d455e8c83eb546ffe413f2875ba205ed6704"), looks := true }, kinds := [], alts := [], laidByText := true, laidKinds := [.sentinel, .sentinel, .sentinel, .sentinel], laidTests := true, laidLooks := .later }
def FnFreeCellUptoCardSaid : Prop := Claim7.holds Tryd.pinned (.plain (OpenSpec.upto fnFreeCellSpec)) fnFreeCellUptoCard

/-- THE SECOND FORM's CARD OF 'laws.FnNewCell'. -/
def fnNewCellUptoCard : Claim7 := { stood := { row := fnNewCellUptoRow, standIns := [], harness := (true, "ef0a6b46a13899e6d5fb8fbb7cd4d455e8c83eb546ffe413f2875ba205ed6704"), looks := true }, kinds := [], alts := [], laidByText := true, laidKinds := [.sentinel, .sentinel, .sentinel, .sentinel], laidTests := true, laidLooks := .later }
def FnNewCellUptoCardSaid : Prop := Claim7.holds Tryd.pinned (.plain (OpenSpec.upto fnNewCellSpec)) fnNewCellUptoCard

/-- THE SECOND FORM's CARD OF 'laws.FnFormatCells'. -/
def fnFormatCellsUptoCard : Claim7 := { stood := { row := fnFormatCellsUptoRow, standIns := [], harness := (true, "ef0a6b46a13899e6d5fb8fbb7cd4d455e8c83eb546ffe413f2875ba205ed6704"), looks := true }, kinds := [], alts := [], laidByText := true, laidKinds := [.data, .data, .data], laidTests := true, laidLooks := .later }
def FnFormatCellsUptoCardSaid : Prop := Claim7.holds Tryd.pinned (.plain (OpenSpec.upto fnFormatCellsSpec)) fnFormatCellsUptoCard

/-- THE SECOND FORM's CARD OF 'laws.FnReadTwice'. -/
def fnReadTwiceUptoCard : Claim7 := { stood := { row := fnReadTwiceUptoRow, standIns := [], harness := (true, "ef0a6b46a13899e6d5fb8fbb7cd4d455e8c83eb546ffe413f2875ba205ed6704"), looks := true }, kinds := [], alts := [], laidByText := true, laidKinds := [.sentinel, .sentinel, .sentinel, .sentinel], laidTests := true, laidLooks := .later }
def FnReadTwiceUptoCardSaid : Prop := Claim7.holds Tryd.pinned (.plain (OpenSpec.upto fnReadTwiceSpec)) fnReadTwiceUptoCard

/-- THE SECOND FORM's CARD OF 'laws.FnBorrowTwice'. -/
def fnBorrowTwiceUptoCard : Claim7 := { stood := { row := fnBorrowTwiceUptoRow, standIns := [], harness := (true, "ef0a6b46a13899e6d5fb8fbb7cd4d455e8c83eb546ffe413f2875ba205ed6704"), looks := true }, kinds := [], alts := [], laidByText := true, laidKinds := [.sentinel, .sentinel, .sentinel, .sentinel], laidTests := true, laidLooks := .later }
def FnBorrowTwiceUptoCardSaid : Prop := Claim7.holds Tryd.pinned (.plain (OpenSpec.upto fnBorrowTwiceSpec)) fnBorrowTwiceUptoCard

/-- THE SECOND FORM's CARD OF 'laws.FnOtherCells'. -/
def fnOtherCellsUptoCard : Claim7 := { stood := { row := fnOtherCellsUptoRow, standIns := [], harness := (true, "ef0a6b46a13899e6d5fb8fbb7cd4d455e8c83eb546ffe413f2875ba205ed6704"), looks := true }, kinds := [], alts := [], laidByText := true, laidKinds := [.sentinel, .sentinel, .sentinel, .sentinel], laidTests := true, laidLooks := .later }
def FnOtherCellsUptoCardSaid : Prop := Claim7.holds Tryd.pinned (.plain (OpenSpec.upto fnOtherCellsSpec)) fnOtherCellsUptoCard

/-- THE SECOND FORM's CARD OF 'laws.FnOwnerStays'. -/
def fnOwnerStaysUptoCard : Claim7 := { stood := { row := fnOwnerStaysUptoRow, standIns := [], harness := (true, "ef0a6b46a13899e6d5fb8fbb7cd4d455e8c83eb546ffe413f2875ba205ed6704"), looks := true }, kinds := [], alts := [], laidByText := true, laidKinds := [.sentinel, .sentinel, .sentinel, .sentinel], laidTests := true, laidLooks := .later }
def FnOwnerStaysUptoCardSaid : Prop := Claim7.holds Tryd.pinned (.plain (OpenSpec.upto fnOwnerStaysSpec)) fnOwnerStaysUptoCard

/-- THE SECOND FORM's CARD OF 'laws.FnTagsGrow'. -/
def fnTagsGrowUptoCard : Claim7 := { stood := { row := fnTagsGrowUptoRow, standIns := [], harness := (true, "ef0a6b46a13899e6d5fb8fbb7cd4d455e8c83eb546ffe413f2875ba205ed6704"), looks := true }, kinds := [], alts := [], laidByText := true, laidKinds := [.sentinel, .sentinel, .sentinel, .sentinel], laidTests := true, laidLooks := .later }
def FnTagsGrowUptoCardSaid : Prop := Claim7.holds Tryd.pinned (.plain (OpenSpec.upto fnTagsGrowSpec)) fnTagsGrowUptoCard
end Rows
end Go.Proofs.YtfkoobdlhdolbaaDoor

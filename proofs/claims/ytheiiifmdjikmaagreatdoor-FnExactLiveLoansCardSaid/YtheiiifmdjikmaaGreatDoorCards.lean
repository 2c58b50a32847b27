/-
  DERIVED. GIVEN WITH THE SEED: THE CARDS: each row of YtheiiifmdjikmaaGreatDoorRows.lean that lists a variable, with what it lists TIED to the program's text (the seventh form; the later family's looks); each row that meets fmt, with fmt's text TOLD by the authors' own Lean function (tested against real Go, not proved from fmt's source: count such statements apart). THE CARD IS WHAT COUNTS. Prove the row's statement (the work); the ties are given (YtheiiifmdjikmaaGreatDoorTie.lean); close each card by the builder's one call (the guide's Derived/Test/ToyasCard.lean, 'card_holds'). Laid BY PROGRAM, IN A SANDBOX (cutbox-door.mjs). By AI agents, Wed Nov 11 2026. No macro, syntax, notation, axiom, sorry.
-/
import Derived.Test.YtheiiifmdjikmaaGreatDoorRows
import GoSem.ClaimSeven
namespace Go.Proofs.YtheiiifmdjikmaaGreatDoor
namespace Rows

/-- THE TIED CARD OF 'laws.FnExactLoansIn'. -/
def fnExactLoansInCard : Claim7 := { stood := { row := fnExactLoansInRow, standIns := [], harness := (true, "235bbc61c631ccbb54691e9e326b8d82cc61d1963eb82d0e60f039351b6888f9"), looks := false }, kinds := [], alts := [], laidByText := true, laidKinds := [.data], laidTests := true, laidLooks := .later }
def FnExactLoansInCardSaid : Prop := Claim7.holds Tryz.pinned (.plain (OpenSpec.ofChange fnExactLoansInSpec)) fnExactLoansInCard

/-- THE TIED CARD OF 'laws.FnExactPlacedLoans'. -/
def fnExactPlacedLoansCard : Claim7 := { stood := { row := fnExactPlacedLoansRow, standIns := [], harness := (true, "235bbc61c631ccbb54691e9e326b8d82cc61d1963eb82d0e60f039351b6888f9"), looks := false }, kinds := [], alts := [], laidByText := true, laidKinds := [.data], laidTests := true, laidLooks := .later }
def FnExactPlacedLoansCardSaid : Prop := Claim7.holds Tryz.pinned (.plain (OpenSpec.ofChange fnExactPlacedLoansSpec)) fnExactPlacedLoansCard

/-- THE TIED CARD OF 'laws.FnExactLiveLoans'. -/
def fnExactLiveLoansCard : Claim7 := { stood := { row := fnExactLiveLoansRow, standIns := [], harness := (true, "235bbc61c631ccbb54691e9e326b8d82cc61d1963eb82d0e60f039351b6888f9"), looks := false }, kinds := [], alts := [], laidByText := true, laidKinds := [.data], laidTests := true, laidLooks := .later }
def FnExactLiveLoansCardSaid : Prop := Claim7.holds Tryz.pinned (.plain (OpenSpec.ofChange fnExactLiveLoansSpec)) fnExactLiveLoansCard

/-- THE TIED CARD OF 'laws.FnExactAccessesOf'. -/
def fnExactAccessesOfCard : Claim7 := { stood := { row := fnExactAccessesOfRow, standIns := [], harness := (true, "235bbc61c631ccbb54691e9e326b8d82cc61d1963eb82d0e60f039351b6888f9"), looks := false }, kinds := [], alts := [], laidByText := true, laidKinds := [.data], laidTests := true, laidLooks := .later }
def FnExactAccessesOfCardSaid : Prop := Claim7.holds Tryz.pinned (.plain (OpenSpec.ofChange fnExactAccessesOfSpec)) fnExactAccessesOfCard

/-- THE TIED CARD OF 'laws.FnExactConflictsAt'. -/
def fnExactConflictsAtCard : Claim7 := { stood := { row := fnExactConflictsAtRow, standIns := [], harness := (true, "235bbc61c631ccbb54691e9e326b8d82cc61d1963eb82d0e60f039351b6888f9"), looks := false }, kinds := [], alts := [], laidByText := true, laidKinds := [.data], laidTests := true, laidLooks := .later }
def FnExactConflictsAtCardSaid : Prop := Claim7.holds Tryz.pinned (.plain (OpenSpec.ofChange fnExactConflictsAtSpec)) fnExactConflictsAtCard

/-- THE TIED CARD OF 'laws.FnExactCheckProgram'. -/
def fnExactCheckProgramCard : Claim7 := { stood := { row := fnExactCheckProgramRow, standIns := [], harness := (true, "235bbc61c631ccbb54691e9e326b8d82cc61d1963eb82d0e60f039351b6888f9"), looks := false }, kinds := [], alts := [], laidByText := true, laidKinds := [.data], laidTests := true, laidLooks := .later }
def FnExactCheckProgramCardSaid : Prop := Claim7.holds Tryz.pinned (.plain (OpenSpec.ofChange fnExactCheckProgramSpec)) fnExactCheckProgramCard

/-- THE TIED CARD OF 'laws.FnExactAccepts'. -/
def fnExactAcceptsCard : Claim7 := { stood := { row := fnExactAcceptsRow, standIns := [], harness := (true, "235bbc61c631ccbb54691e9e326b8d82cc61d1963eb82d0e60f039351b6888f9"), looks := false }, kinds := [], alts := [], laidByText := true, laidKinds := [.data], laidTests := true, laidLooks := .later }
def FnExactAcceptsCardSaid : Prop := Claim7.holds Tryz.pinned (.plain (OpenSpec.ofChange fnExactAcceptsSpec)) fnExactAcceptsCard

/-- THE TIED CARD OF 'laws.FnExactCheckPlain'. -/
def fnExactCheckPlainCard : Claim7 := { stood := { row := fnExactCheckPlainRow, standIns := [], harness := (true, "235bbc61c631ccbb54691e9e326b8d82cc61d1963eb82d0e60f039351b6888f9"), looks := false }, kinds := [], alts := [], laidByText := true, laidKinds := [.data], laidTests := true, laidLooks := .later }
def FnExactCheckPlainCardSaid : Prop := Claim7.holds Tryz.pinned (.plain (OpenSpec.ofChange fnExactCheckPlainSpec)) fnExactCheckPlainCard

/-- THE TIED CARD OF 'laws.FnExactFirstIssue'. -/
def fnExactFirstIssueCard : Claim7 := { stood := { row := fnExactFirstIssueRow, standIns := [], harness := (true, "235bbc61c631ccbb54691e9e326b8d82cc61d1963eb82d0e60f039351b6888f9"), looks := false }, kinds := [], alts := [], laidByText := true, laidKinds := [.data], laidTests := true, laidLooks := .later }
def FnExactFirstIssueCardSaid : Prop := Claim7.holds Tryz.pinned (.plain (OpenSpec.ofChange fnExactFirstIssueSpec)) fnExactFirstIssueCard

/-- THE TIED CARD OF 'laws.FnExactFormatIssue'. -/
def fnExactFormatIssueCard : Claim7 := { stood := { row := fnExactFormatIssueRow, standIns := [], harness := (true, "235bbc61c631ccbb54691e9e326b8d82cc61d1963eb82d0e60f039351b6888f9"), looks := false }, kinds := [], alts := [], laidByText := true, laidKinds := [.data, .data, .data], laidTests := true, laidLooks := .later }
def FnExactFormatIssueCardSaid : Prop := Claim7.holds Tryz.pinned (.plain (OpenSpec.ofChange fnExactFormatIssueSpec)) fnExactFormatIssueCard

/-- THE TIED CARD OF 'laws.FnExactRepairProgram'. -/
def fnExactRepairProgramCard : Claim7 := { stood := { row := fnExactRepairProgramRow, standIns := [], harness := (true, "235bbc61c631ccbb54691e9e326b8d82cc61d1963eb82d0e60f039351b6888f9"), looks := false }, kinds := [], alts := [], laidByText := true, laidKinds := [.data], laidTests := true, laidLooks := .later }
def FnExactRepairProgramCardSaid : Prop := Claim7.holds Tryz.pinned (.plain (OpenSpec.ofChange fnExactRepairProgramSpec)) fnExactRepairProgramCard

/-- THE SECOND FORM's CARD OF 'laws.FnExactLoansIn'. -/
def fnExactLoansInUptoCard : Claim7 := { stood := { row := fnExactLoansInUptoRow, standIns := [], harness := (true, "235bbc61c631ccbb54691e9e326b8d82cc61d1963eb82d0e60f039351b6888f9"), looks := false }, kinds := [], alts := [], laidByText := true, laidKinds := [.data], laidTests := true, laidLooks := .later }
def FnExactLoansInUptoCardSaid : Prop := Claim7.holds Tryz.pinned (.plain (OpenSpec.upto fnExactLoansInSpec)) fnExactLoansInUptoCard

/-- THE SECOND FORM's CARD OF 'laws.FnExactPlacedLoans'. -/
def fnExactPlacedLoansUptoCard : Claim7 := { stood := { row := fnExactPlacedLoansUptoRow, standIns := [], harness := (true, "235bbc61c631ccbb54691e9e326b8d82cc61d1963eb82d0e60f039351b6888f9"), looks := false }, kinds := [], alts := [], laidByText := true, laidKinds := [.data], laidTests := true, laidLooks := .later }
def FnExactPlacedLoansUptoCardSaid : Prop := Claim7.holds Tryz.pinned (.plain (OpenSpec.upto fnExactPlacedLoansSpec)) fnExactPlacedLoansUptoCard

/-- THE SECOND FORM's CARD OF 'laws.FnExactLiveLoans'. -/
def fnExactLiveLoansUptoCard : Claim7 := { stood := { row := fnExactLiveLoansUptoRow, standIns := [], harness := (true, "235bbc61c631ccbb54691e9e326b8d82cc61d1963eb82d0e60f039351b6888f9"), looks := false }, kinds := [], alts := [], laidByText := true, laidKinds := [.data], laidTests := true, laidLooks := .later }
def FnExactLiveLoansUptoCardSaid : Prop := Claim7.holds Tryz.pinned (.plain (OpenSpec.upto fnExactLiveLoansSpec)) fnExactLiveLoansUptoCard

/-- THE SECOND FORM's CARD OF 'laws.FnExactAccessesOf'. -/
def fnExactAccessesOfUptoCard : Claim7 := { stood := { row := fnExactAccessesOfUptoRow, standIns := [], harness := (true, "235bbc61c631ccbb54691e9e326b8d82cc61d1963eb82d0e60f039351b6888f9"), looks := false }, kinds := [], alts := [], laidByText := true, laidKinds := [.data], laidTests := true, laidLooks := .later }
def FnExactAccessesOfUptoCardSaid : Prop := Claim7.holds Tryz.pinned (.plain (OpenSpec.upto fnExactAccessesOfSpec)) fnExactAccessesOfUptoCard

/-- THE SECOND FORM's CARD OF 'laws.FnExactConflictsAt'. -/
def fnExactConflictsAtUptoCard : Claim7 := { stood := { row := fnExactConflictsAtUptoRow, standIns := [], harness := (true, "235bbc61c631ccbb54691e9e326b8d82cc61d1963eb82d0e60f039351b6888f9"), looks := false }, kinds := [], alts := [], laidByText := true, laidKinds := [.data], laidTests := true, laidLooks := .later }
def FnExactConflictsAtUptoCardSaid : Prop := Claim7.holds Tryz.pinned (.plain (OpenSpec.upto fnExactConflictsAtSpec)) fnExactConflictsAtUptoCard

/-- THE SECOND FORM's CARD OF 'laws.FnExactCheckProgram'. -/
def fnExactCheckProgramUptoCard : Claim7 := { stood := { row := fnExactCheckProgramUptoRow, standIns := [], harness := (true, "235bbc61c631ccbb54691e9e326b8d82cc61d1963eb82d0e60f039351b6888f9"), looks := false }, kinds := [], alts := [], laidByText := true, laidKinds := [.data], laidTests := true, laidLooks := .later }
def FnExactCheckProgramUptoCardSaid : Prop := Claim7.holds Tryz.pinned (.plain (OpenSpec.upto fnExactCheckProgramSpec)) fnExactCheckProgramUptoCard

/-- THE SECOND FORM's CARD OF 'laws.FnExactAccepts'. -/
def fnExactAcceptsUptoCard : Claim7 := { stood := { row := fnExactAcceptsUptoRow, standIns := [], harness := (true, "235bbc61c631ccbb54691e9e326b8d82cc61d1963eb82d0e60f039351b6888f9"), looks := false }, kinds := [], alts := [], laidByText := true, laidKinds := [.data], laidTests := true, laidLooks := .later }
def FnExactAcceptsUptoCardSaid : Prop := Claim7.holds Tryz.pinned (.plain (OpenSpec.upto fnExactAcceptsSpec)) fnExactAcceptsUptoCard

/-- THE SECOND FORM's CARD OF 'laws.FnExactCheckPlain'. -/
def fnExactCheckPlainUptoCard : Claim7 := { stood := { row := fnExactCheckPlainUptoRow, standIns := [], harness := (true, "235bbc61c631ccbb54691e9e326b8d82cc61d1963eb82d0e60f039351b6888f9"), looks := false }, kinds := [], alts := [], laidByText := true, laidKinds := [.data], laidTests := true, laidLooks := .later }
def FnExactCheckPlainUptoCardSaid : Prop := Claim7.holds Tryz.pinned (.plain (OpenSpec.upto fnExactCheckPlainSpec)) fnExactCheckPlainUptoCard

/-- THE SECOND FORM's CARD OF 'laws.FnExactFirstIssue'. -/
def fnExactFirstIssueUptoCard : Claim7 := { stood := { row := fnExactFirstIssueUptoRow, standIns := [], harness := (true, "235bbc61c631ccbb54691e9e326b8d82cc61d1963eb82d0e60f039351b6888f9"), looks := false }, kinds := [], alts := [], laidByText := true, laidKinds := [.data], laidTests := true, laidLooks := .later }
def FnExactFirstIssueUptoCardSaid : Prop := Claim7.holds Tryz.pinned (.plain (OpenSpec.upto fnExactFirstIssueSpec)) fnExactFirstIssueUptoCard

/-- THE SECOND FORM's CARD OF 'laws.FnExactFormatIssue'. -/
def fnExactFormatIssueUptoCard : Claim7 := { stood := { row := fnExactFormatIssueUptoRow, standIns := [], harness := (true, "235bbc61c631ccbb54691e9e326b8d82cc61d1963eb82d0e60f039351b6888f9"), looks := false }, kinds := [], alts := [], laidByText := true, laidKinds := [.data, .data, .data], laidTests := true, laidLooks := .later }
def FnExactFormatIssueUptoCardSaid : Prop := Claim7.holds Tryz.pinned (.plain (OpenSpec.upto fnExactFormatIssueSpec)) fnExactFormatIssueUptoCard

/-- THE SECOND FORM's CARD OF 'laws.FnExactRepairProgram'. -/
def fnExactRepairProgramUptoCard : Claim7 := { stood := { row := fnExactRepairProgramUptoRow, standIns := [], harness := (true, "235bbc61c631ccbb54691e9e326b8d82cc61d1963eb82d0e60f039351b6888f9"), looks := false }, kinds := [], alts := [], laidByText := true, laidKinds := [.data], laidTests := true, laidLooks := .later }
def FnExactRepairProgramUptoCardSaid : Prop := Claim7.holds Tryz.pinned (.plain (OpenSpec.upto fnExactRepairProgramSpec)) fnExactRepairProgramUptoCard
end Rows
end Go.Proofs.YtheiiifmdjikmaaGreatDoor

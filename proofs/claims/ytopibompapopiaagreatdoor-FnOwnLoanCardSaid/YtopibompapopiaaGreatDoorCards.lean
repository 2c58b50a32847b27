/-
  DERIVED. GIVEN WITH THE SEED: THE CARDS: each row of YtopibompapopiaaGreatDoorRows.lean that lists a variable, with what it lists TIED to the program's text (the seventh form; the later family's looks); each row that meets fmt, with fmt's text TOLD by the authors' own Lean function (tested against real Go, not proved from fmt's source: count such statements apart). THE CARD IS WHAT COUNTS. Prove the row's statement (the work); the ties are given (YtopibompapopiaaGreatDoorTie.lean); close each card by the builder's one call (the guide's Derived/Test/ToyasCard.lean, 'card_holds'). Laid BY PROGRAM, IN A SANDBOX (cutbox-door.mjs). By AI agents, Wed Nov 11 2026. No macro, syntax, notation, axiom, sorry.
-/
import Derived.Test.YtopibompapopiaaGreatDoorRows
import GoSem.ClaimSeven
namespace Go.Proofs.YtopibompapopiaaGreatDoor
namespace Rows

/-- THE TIED CARD OF 'laws.FnLoansOf'. -/
def fnLoansOfCard : Claim7 := { stood := { row := fnLoansOfRow, standIns := [], harness := (true, "20a3894989218b0769602756e3096f731b7b576747fe359447f5159343af2ab9"), looks := false }, kinds := [], alts := [], laidByText := true, laidKinds := [.data], laidTests := true, laidLooks := .later }
def FnLoansOfCardSaid : Prop := Claim7.holds Tryz.pinned (.plain (OpenSpec.ofChange fnLoansOfSpec)) fnLoansOfCard

/-- THE TIED CARD OF 'laws.FnLoansIn'. -/
def fnLoansInCard : Claim7 := { stood := { row := fnLoansInRow, standIns := [], harness := (true, "20a3894989218b0769602756e3096f731b7b576747fe359447f5159343af2ab9"), looks := false }, kinds := [], alts := [], laidByText := true, laidKinds := [.data], laidTests := true, laidLooks := .later }
def FnLoansInCardSaid : Prop := Claim7.holds Tryz.pinned (.plain (OpenSpec.ofChange fnLoansInSpec)) fnLoansInCard

/-- THE TIED CARD OF 'laws.FnPlacedLoans'. -/
def fnPlacedLoansCard : Claim7 := { stood := { row := fnPlacedLoansRow, standIns := [], harness := (true, "20a3894989218b0769602756e3096f731b7b576747fe359447f5159343af2ab9"), looks := false }, kinds := [], alts := [], laidByText := true, laidKinds := [.data], laidTests := true, laidLooks := .later }
def FnPlacedLoansCardSaid : Prop := Claim7.holds Tryz.pinned (.plain (OpenSpec.ofChange fnPlacedLoansSpec)) fnPlacedLoansCard

/-- THE TIED CARD OF 'laws.FnOwnLoan'. -/
def fnOwnLoanCard : Claim7 := { stood := { row := fnOwnLoanRow, standIns := [], harness := (true, "20a3894989218b0769602756e3096f731b7b576747fe359447f5159343af2ab9"), looks := false }, kinds := [], alts := [], laidByText := true, laidKinds := [.data], laidTests := true, laidLooks := .later }
def FnOwnLoanCardSaid : Prop := Claim7.holds Tryz.pinned (.plain (OpenSpec.ofChange fnOwnLoanSpec)) fnOwnLoanCard

/-- THE TIED CARD OF 'laws.FnLiveLoans'. -/
def fnLiveLoansCard : Claim7 := { stood := { row := fnLiveLoansRow, standIns := [], harness := (true, "20a3894989218b0769602756e3096f731b7b576747fe359447f5159343af2ab9"), looks := false }, kinds := [], alts := [], laidByText := true, laidKinds := [.data], laidTests := true, laidLooks := .later }
def FnLiveLoansCardSaid : Prop := Claim7.holds Tryz.pinned (.plain (OpenSpec.ofChange fnLiveLoansSpec)) fnLiveLoansCard

/-- THE TIED CARD OF 'laws.FnFirstLoans'. -/
def fnFirstLoansCard : Claim7 := { stood := { row := fnFirstLoansRow, standIns := [], harness := (true, "20a3894989218b0769602756e3096f731b7b576747fe359447f5159343af2ab9"), looks := false }, kinds := [], alts := [], laidByText := true, laidKinds := [.data], laidTests := true, laidLooks := .later }
def FnFirstLoansCardSaid : Prop := Claim7.holds Tryz.pinned (.plain (OpenSpec.ofChange fnFirstLoansSpec)) fnFirstLoansCard

/-- THE TIED CARD OF 'laws.FnConflictsAt'. -/
def fnConflictsAtCard : Claim7 := { stood := { row := fnConflictsAtRow, standIns := [], harness := (true, "20a3894989218b0769602756e3096f731b7b576747fe359447f5159343af2ab9"), looks := false }, kinds := [], alts := [], laidByText := true, laidKinds := [.data], laidTests := true, laidLooks := .later }
def FnConflictsAtCardSaid : Prop := Claim7.holds Tryz.pinned (.plain (OpenSpec.ofChange fnConflictsAtSpec)) fnConflictsAtCard

/-- THE TIED CARD OF 'laws.FnAccessesOf'. -/
def fnAccessesOfCard : Claim7 := { stood := { row := fnAccessesOfRow, standIns := [], harness := (true, "20a3894989218b0769602756e3096f731b7b576747fe359447f5159343af2ab9"), looks := false }, kinds := [], alts := [], laidByText := true, laidKinds := [.data], laidTests := true, laidLooks := .later }
def FnAccessesOfCardSaid : Prop := Claim7.holds Tryz.pinned (.plain (OpenSpec.ofChange fnAccessesOfSpec)) fnAccessesOfCard

/-- THE TIED CARD OF 'laws.FnSharedLoans'. -/
def fnSharedLoansCard : Claim7 := { stood := { row := fnSharedLoansRow, standIns := [], harness := (true, "20a3894989218b0769602756e3096f731b7b576747fe359447f5159343af2ab9"), looks := false }, kinds := [], alts := [], laidByText := true, laidKinds := [.data], laidTests := true, laidLooks := .later }
def FnSharedLoansCardSaid : Prop := Claim7.holds Tryz.pinned (.plain (OpenSpec.ofChange fnSharedLoansSpec)) fnSharedLoansCard

/-- THE TIED CARD OF 'laws.FnReadAccess'. -/
def fnReadAccessCard : Claim7 := { stood := { row := fnReadAccessRow, standIns := [], harness := (true, "20a3894989218b0769602756e3096f731b7b576747fe359447f5159343af2ab9"), looks := false }, kinds := [], alts := [], laidByText := true, laidKinds := [.data], laidTests := true, laidLooks := .later }
def FnReadAccessCardSaid : Prop := Claim7.holds Tryz.pinned (.plain (OpenSpec.ofChange fnReadAccessSpec)) fnReadAccessCard

/-- THE SECOND FORM's CARD OF 'laws.FnLoansOf'. -/
def fnLoansOfUptoCard : Claim7 := { stood := { row := fnLoansOfUptoRow, standIns := [], harness := (true, "20a3894989218b0769602756e3096f731b7b576747fe359447f5159343af2ab9"), looks := false }, kinds := [], alts := [], laidByText := true, laidKinds := [.data], laidTests := true, laidLooks := .later }
def FnLoansOfUptoCardSaid : Prop := Claim7.holds Tryz.pinned (.plain (OpenSpec.upto fnLoansOfSpec)) fnLoansOfUptoCard

/-- THE SECOND FORM's CARD OF 'laws.FnLoansIn'. -/
def fnLoansInUptoCard : Claim7 := { stood := { row := fnLoansInUptoRow, standIns := [], harness := (true, "20a3894989218b0769602756e3096f731b7b576747fe359447f5159343af2ab9"), looks := false }, kinds := [], alts := [], laidByText := true, laidKinds := [.data], laidTests := true, laidLooks := .later }
def FnLoansInUptoCardSaid : Prop := Claim7.holds Tryz.pinned (.plain (OpenSpec.upto fnLoansInSpec)) fnLoansInUptoCard

/-- THE SECOND FORM's CARD OF 'laws.FnPlacedLoans'. -/
def fnPlacedLoansUptoCard : Claim7 := { stood := { row := fnPlacedLoansUptoRow, standIns := [], harness := (true, "20a3894989218b0769602756e3096f731b7b576747fe359447f5159343af2ab9"), looks := false }, kinds := [], alts := [], laidByText := true, laidKinds := [.data], laidTests := true, laidLooks := .later }
def FnPlacedLoansUptoCardSaid : Prop := Claim7.holds Tryz.pinned (.plain (OpenSpec.upto fnPlacedLoansSpec)) fnPlacedLoansUptoCard

/-- THE SECOND FORM's CARD OF 'laws.FnOwnLoan'. -/
def fnOwnLoanUptoCard : Claim7 := { stood := { row := fnOwnLoanUptoRow, standIns := [], harness := (true, "20a3894989218b0769602756e3096f731b7b576747fe359447f5159343af2ab9"), looks := false }, kinds := [], alts := [], laidByText := true, laidKinds := [.data], laidTests := true, laidLooks := .later }
def FnOwnLoanUptoCardSaid : Prop := Claim7.holds Tryz.pinned (.plain (OpenSpec.upto fnOwnLoanSpec)) fnOwnLoanUptoCard

/-- THE SECOND FORM's CARD OF 'laws.FnLiveLoans'. -/
def fnLiveLoansUptoCard : Claim7 := { stood := { row := fnLiveLoansUptoRow, standIns := [], harness := (true, "20a3894989218b0769602756e3096f731b7b576747fe359447f5159343af2ab9"), looks := false }, kinds := [], alts := [], laidByText := true, laidKinds := [.data], laidTests := true, laidLooks := .later }
def FnLiveLoansUptoCardSaid : Prop := Claim7.holds Tryz.pinned (.plain (OpenSpec.upto fnLiveLoansSpec)) fnLiveLoansUptoCard

/-- THE SECOND FORM's CARD OF 'laws.FnFirstLoans'. -/
def fnFirstLoansUptoCard : Claim7 := { stood := { row := fnFirstLoansUptoRow, standIns := [], harness := (true, "20a3894989218b0769602756e3096f731b7b576747fe359447f5159343af2ab9"), looks := false }, kinds := [], alts := [], laidByText := true, laidKinds := [.data], laidTests := true, laidLooks := .later }
def FnFirstLoansUptoCardSaid : Prop := Claim7.holds Tryz.pinned (.plain (OpenSpec.upto fnFirstLoansSpec)) fnFirstLoansUptoCard

/-- THE SECOND FORM's CARD OF 'laws.FnConflictsAt'. -/
def fnConflictsAtUptoCard : Claim7 := { stood := { row := fnConflictsAtUptoRow, standIns := [], harness := (true, "20a3894989218b0769602756e3096f731b7b576747fe359447f5159343af2ab9"), looks := false }, kinds := [], alts := [], laidByText := true, laidKinds := [.data], laidTests := true, laidLooks := .later }
def FnConflictsAtUptoCardSaid : Prop := Claim7.holds Tryz.pinned (.plain (OpenSpec.upto fnConflictsAtSpec)) fnConflictsAtUptoCard

/-- THE SECOND FORM's CARD OF 'laws.FnAccessesOf'. -/
def fnAccessesOfUptoCard : Claim7 := { stood := { row := fnAccessesOfUptoRow, standIns := [], harness := (true, "20a3894989218b0769602756e3096f731b7b576747fe359447f5159343af2ab9"), looks := false }, kinds := [], alts := [], laidByText := true, laidKinds := [.data], laidTests := true, laidLooks := .later }
def FnAccessesOfUptoCardSaid : Prop := Claim7.holds Tryz.pinned (.plain (OpenSpec.upto fnAccessesOfSpec)) fnAccessesOfUptoCard

/-- THE SECOND FORM's CARD OF 'laws.FnSharedLoans'. -/
def fnSharedLoansUptoCard : Claim7 := { stood := { row := fnSharedLoansUptoRow, standIns := [], harness := (true, "20a3894989218b0769602756e3096f731b7b576747fe359447f5159343af2ab9"), looks := false }, kinds := [], alts := [], laidByText := true, laidKinds := [.data], laidTests := true, laidLooks := .later }
def FnSharedLoansUptoCardSaid : Prop := Claim7.holds Tryz.pinned (.plain (OpenSpec.upto fnSharedLoansSpec)) fnSharedLoansUptoCard

/-- THE SECOND FORM's CARD OF 'laws.FnReadAccess'. -/
def fnReadAccessUptoCard : Claim7 := { stood := { row := fnReadAccessUptoRow, standIns := [], harness := (true, "20a3894989218b0769602756e3096f731b7b576747fe359447f5159343af2ab9"), looks := false }, kinds := [], alts := [], laidByText := true, laidKinds := [.data], laidTests := true, laidLooks := .later }
def FnReadAccessUptoCardSaid : Prop := Claim7.holds Tryz.pinned (.plain (OpenSpec.upto fnReadAccessSpec)) fnReadAccessUptoCard
end Rows
end Go.Proofs.YtopibompapopiaaGreatDoor

/-
  DERIVED. GIVEN WITH THE SEED: THE CARDS: each row of YtofcdecpipgmjaaGreatDoorRows.lean that lists a variable, with what it lists TIED to the program's text (the seventh form; the later family's looks); each row that meets fmt, with fmt's text TOLD by the authors' own Lean function (tested against real Go, not proved from fmt's source: count such statements apart). THE CARD IS WHAT COUNTS. Prove the row's statement (the work); the ties are given (YtofcdecpipgmjaaGreatDoorTie.lean); close each card by the builder's one call (the guide's Derived/Test/ToyasCard.lean, 'card_holds'). Laid BY PROGRAM, IN A SANDBOX (cutbox-door.mjs). By AI agents, Wed Nov 11 2026. No macro, syntax, notation, axiom, sorry.
-/
import Derived.Test.YtofcdecpipgmjaaGreatDoorRows
import GoSem.ClaimSeven
namespace Go.Proofs.YtofcdecpipgmjaaGreatDoor
namespace Rows

/-- THE TIED CARD OF 'laws.FnCellsOf'. -/
def fnCellsOfCard : Claim7 := { stood := { row := fnCellsOfRow, standIns := [], harness := (true, "a8cee4c2774af7e9bec96c1cf39a97fded44048fc6d579c08f505256ae79d544"), looks := false }, kinds := [], alts := [], laidByText := true, laidKinds := [.data], laidTests := true, laidLooks := .later }
def FnCellsOfCardSaid : Prop := Claim7.holds Tryz.pinned (.plain (OpenSpec.ofChange fnCellsOfSpec)) fnCellsOfCard

/-- THE TIED CARD OF 'laws.FnMayAlias'. -/
def fnMayAliasCard : Claim7 := { stood := { row := fnMayAliasRow, standIns := [], harness := (true, "a8cee4c2774af7e9bec96c1cf39a97fded44048fc6d579c08f505256ae79d544"), looks := false }, kinds := [], alts := [], laidByText := true, laidKinds := [.data], laidTests := true, laidLooks := .later }
def FnMayAliasCardSaid : Prop := Claim7.holds Tryz.pinned (.plain (OpenSpec.ofChange fnMayAliasSpec)) fnMayAliasCard

/-- THE TIED CARD OF 'laws.FnSettersOf'. -/
def fnSettersOfCard : Claim7 := { stood := { row := fnSettersOfRow, standIns := [], harness := (true, "a8cee4c2774af7e9bec96c1cf39a97fded44048fc6d579c08f505256ae79d544"), looks := false }, kinds := [], alts := [], laidByText := true, laidKinds := [.data], laidTests := true, laidLooks := .later }
def FnSettersOfCardSaid : Prop := Claim7.holds Tryz.pinned (.plain (OpenSpec.ofChange fnSettersOfSpec)) fnSettersOfCard

/-- THE TIED CARD OF 'laws.FnUsersOf'. -/
def fnUsersOfCard : Claim7 := { stood := { row := fnUsersOfRow, standIns := [], harness := (true, "a8cee4c2774af7e9bec96c1cf39a97fded44048fc6d579c08f505256ae79d544"), looks := false }, kinds := [], alts := [], laidByText := true, laidKinds := [.data], laidTests := true, laidLooks := .later }
def FnUsersOfCardSaid : Prop := Claim7.holds Tryz.pinned (.plain (OpenSpec.ofChange fnUsersOfSpec)) fnUsersOfCard

/-- THE TIED CARD OF 'laws.FnCellMakers'. -/
def fnCellMakersCard : Claim7 := { stood := { row := fnCellMakersRow, standIns := [], harness := (true, "a8cee4c2774af7e9bec96c1cf39a97fded44048fc6d579c08f505256ae79d544"), looks := false }, kinds := [], alts := [], laidByText := true, laidKinds := [.data], laidTests := true, laidLooks := .later }
def FnCellMakersCardSaid : Prop := Claim7.holds Tryz.pinned (.plain (OpenSpec.ofChange fnCellMakersSpec)) fnCellMakersCard

/-- THE TIED CARD OF 'laws.FnCellsSet'. -/
def fnCellsSetCard : Claim7 := { stood := { row := fnCellsSetRow, standIns := [], harness := (true, "a8cee4c2774af7e9bec96c1cf39a97fded44048fc6d579c08f505256ae79d544"), looks := false }, kinds := [], alts := [], laidByText := true, laidKinds := [.data], laidTests := true, laidLooks := .later }
def FnCellsSetCardSaid : Prop := Claim7.holds Tryz.pinned (.plain (OpenSpec.ofChange fnCellsSetSpec)) fnCellsSetCard

/-- THE TIED CARD OF 'laws.FnNumbersSet'. -/
def fnNumbersSetCard : Claim7 := { stood := { row := fnNumbersSetRow, standIns := [], harness := (true, "a8cee4c2774af7e9bec96c1cf39a97fded44048fc6d579c08f505256ae79d544"), looks := false }, kinds := [], alts := [], laidByText := true, laidKinds := [.data], laidTests := true, laidLooks := .later }
def FnNumbersSetCardSaid : Prop := Claim7.holds Tryz.pinned (.plain (OpenSpec.ofChange fnNumbersSetSpec)) fnNumbersSetCard

/-- THE TIED CARD OF 'laws.FnSetterOwn'. -/
def fnSetterOwnCard : Claim7 := { stood := { row := fnSetterOwnRow, standIns := [], harness := (true, "a8cee4c2774af7e9bec96c1cf39a97fded44048fc6d579c08f505256ae79d544"), looks := false }, kinds := [], alts := [], laidByText := true, laidKinds := [.data], laidTests := true, laidLooks := .later }
def FnSetterOwnCardSaid : Prop := Claim7.holds Tryz.pinned (.plain (OpenSpec.ofChange fnSetterOwnSpec)) fnSetterOwnCard

/-- THE TIED CARD OF 'laws.FnAliasLoan'. -/
def fnAliasLoanCard : Claim7 := { stood := { row := fnAliasLoanRow, standIns := [], harness := (true, "a8cee4c2774af7e9bec96c1cf39a97fded44048fc6d579c08f505256ae79d544"), looks := false }, kinds := [], alts := [], laidByText := true, laidKinds := [.data], laidTests := true, laidLooks := .later }
def FnAliasLoanCardSaid : Prop := Claim7.holds Tryz.pinned (.plain (OpenSpec.ofChange fnAliasLoanSpec)) fnAliasLoanCard

/-- THE SECOND FORM's CARD OF 'laws.FnCellsOf'. -/
def fnCellsOfUptoCard : Claim7 := { stood := { row := fnCellsOfUptoRow, standIns := [], harness := (true, "a8cee4c2774af7e9bec96c1cf39a97fded44048fc6d579c08f505256ae79d544"), looks := false }, kinds := [], alts := [], laidByText := true, laidKinds := [.data], laidTests := true, laidLooks := .later }
def FnCellsOfUptoCardSaid : Prop := Claim7.holds Tryz.pinned (.plain (OpenSpec.upto fnCellsOfSpec)) fnCellsOfUptoCard

/-- THE SECOND FORM's CARD OF 'laws.FnMayAlias'. -/
def fnMayAliasUptoCard : Claim7 := { stood := { row := fnMayAliasUptoRow, standIns := [], harness := (true, "a8cee4c2774af7e9bec96c1cf39a97fded44048fc6d579c08f505256ae79d544"), looks := false }, kinds := [], alts := [], laidByText := true, laidKinds := [.data], laidTests := true, laidLooks := .later }
def FnMayAliasUptoCardSaid : Prop := Claim7.holds Tryz.pinned (.plain (OpenSpec.upto fnMayAliasSpec)) fnMayAliasUptoCard

/-- THE SECOND FORM's CARD OF 'laws.FnSettersOf'. -/
def fnSettersOfUptoCard : Claim7 := { stood := { row := fnSettersOfUptoRow, standIns := [], harness := (true, "a8cee4c2774af7e9bec96c1cf39a97fded44048fc6d579c08f505256ae79d544"), looks := false }, kinds := [], alts := [], laidByText := true, laidKinds := [.data], laidTests := true, laidLooks := .later }
def FnSettersOfUptoCardSaid : Prop := Claim7.holds Tryz.pinned (.plain (OpenSpec.upto fnSettersOfSpec)) fnSettersOfUptoCard

/-- THE SECOND FORM's CARD OF 'laws.FnUsersOf'. -/
def fnUsersOfUptoCard : Claim7 := { stood := { row := fnUsersOfUptoRow, standIns := [], harness := (true, "a8cee4c2774af7e9bec96c1cf39a97fded44048fc6d579c08f505256ae79d544"), looks := false }, kinds := [], alts := [], laidByText := true, laidKinds := [.data], laidTests := true, laidLooks := .later }
def FnUsersOfUptoCardSaid : Prop := Claim7.holds Tryz.pinned (.plain (OpenSpec.upto fnUsersOfSpec)) fnUsersOfUptoCard

/-- THE SECOND FORM's CARD OF 'laws.FnCellMakers'. -/
def fnCellMakersUptoCard : Claim7 := { stood := { row := fnCellMakersUptoRow, standIns := [], harness := (true, "a8cee4c2774af7e9bec96c1cf39a97fded44048fc6d579c08f505256ae79d544"), looks := false }, kinds := [], alts := [], laidByText := true, laidKinds := [.data], laidTests := true, laidLooks := .later }
def FnCellMakersUptoCardSaid : Prop := Claim7.holds Tryz.pinned (.plain (OpenSpec.upto fnCellMakersSpec)) fnCellMakersUptoCard

/-- THE SECOND FORM's CARD OF 'laws.FnCellsSet'. -/
def fnCellsSetUptoCard : Claim7 := { stood := { row := fnCellsSetUptoRow, standIns := [], harness := (true, "a8cee4c2774af7e9bec96c1cf39a97fded44048fc6d579c08f505256ae79d544"), looks := false }, kinds := [], alts := [], laidByText := true, laidKinds := [.data], laidTests := true, laidLooks := .later }
def FnCellsSetUptoCardSaid : Prop := Claim7.holds Tryz.pinned (.plain (OpenSpec.upto fnCellsSetSpec)) fnCellsSetUptoCard

/-- THE SECOND FORM's CARD OF 'laws.FnNumbersSet'. -/
def fnNumbersSetUptoCard : Claim7 := { stood := { row := fnNumbersSetUptoRow, standIns := [], harness := (true, "a8cee4c2774af7e9bec96c1cf39a97fded44048fc6d579c08f505256ae79d544"), looks := false }, kinds := [], alts := [], laidByText := true, laidKinds := [.data], laidTests := true, laidLooks := .later }
def FnNumbersSetUptoCardSaid : Prop := Claim7.holds Tryz.pinned (.plain (OpenSpec.upto fnNumbersSetSpec)) fnNumbersSetUptoCard

/-- THE SECOND FORM's CARD OF 'laws.FnSetterOwn'. -/
def fnSetterOwnUptoCard : Claim7 := { stood := { row := fnSetterOwnUptoRow, standIns := [], harness := (true, "a8cee4c2774af7e9bec96c1cf39a97fded44048fc6d579c08f505256ae79d544"), looks := false }, kinds := [], alts := [], laidByText := true, laidKinds := [.data], laidTests := true, laidLooks := .later }
def FnSetterOwnUptoCardSaid : Prop := Claim7.holds Tryz.pinned (.plain (OpenSpec.upto fnSetterOwnSpec)) fnSetterOwnUptoCard

/-- THE SECOND FORM's CARD OF 'laws.FnAliasLoan'. -/
def fnAliasLoanUptoCard : Claim7 := { stood := { row := fnAliasLoanUptoRow, standIns := [], harness := (true, "a8cee4c2774af7e9bec96c1cf39a97fded44048fc6d579c08f505256ae79d544"), looks := false }, kinds := [], alts := [], laidByText := true, laidKinds := [.data], laidTests := true, laidLooks := .later }
def FnAliasLoanUptoCardSaid : Prop := Claim7.holds Tryz.pinned (.plain (OpenSpec.upto fnAliasLoanSpec)) fnAliasLoanUptoCard
end Rows
end Go.Proofs.YtofcdecpipgmjaaGreatDoor

/-
  DERIVED. GIVEN WITH THE SEED: THE CARDS: each row of YtnoejapnjhogaaaGreatDoorRows.lean that lists a variable, with what it lists TIED to the program's text (the seventh form; the later family's looks); each row that meets fmt, with fmt's text TOLD by the authors' own Lean function (tested against real Go, not proved from fmt's source: count such statements apart). THE CARD IS WHAT COUNTS. Prove the row's statement (the work); the ties are given (YtnoejapnjhogaaaGreatDoorTie.lean); close each card by the builder's one call (the guide's Derived/Test/ToyasCard.lean, 'card_holds'). Laid BY PROGRAM, IN A SANDBOX (cutbox-door.mjs). By AI agents, Wed Nov 11 2026. No macro, syntax, notation, axiom, sorry.
-/
import Derived.Test.YtnoejapnjhogaaaGreatDoorRows
import GoSem.ClaimSeven
namespace Go.Proofs.YtnoejapnjhogaaaGreatDoor
namespace Rows

/-- THE TIED CARD OF 'laws.FnExactCellsOf'. -/
def fnExactCellsOfCard : Claim7 := { stood := { row := fnExactCellsOfRow, standIns := [], harness := (true, "7f80af8b871f8829284ac6e563a5151c09c868faf3d4727962b208c2b9a4ac96"), looks := false }, kinds := [], alts := [], laidByText := true, laidKinds := [.data], laidTests := true, laidLooks := .later }
def FnExactCellsOfCardSaid : Prop := Claim7.holds Tryz.pinned (.plain (OpenSpec.ofChange fnExactCellsOfSpec)) fnExactCellsOfCard

/-- THE TIED CARD OF 'laws.FnExactMayAlias'. -/
def fnExactMayAliasCard : Claim7 := { stood := { row := fnExactMayAliasRow, standIns := [], harness := (true, "7f80af8b871f8829284ac6e563a5151c09c868faf3d4727962b208c2b9a4ac96"), looks := false }, kinds := [], alts := [], laidByText := true, laidKinds := [.data], laidTests := true, laidLooks := .later }
def FnExactMayAliasCardSaid : Prop := Claim7.holds Tryz.pinned (.plain (OpenSpec.ofChange fnExactMayAliasSpec)) fnExactMayAliasCard

/-- THE TIED CARD OF 'laws.FnExactNumbersOf'. -/
def fnExactNumbersOfCard : Claim7 := { stood := { row := fnExactNumbersOfRow, standIns := [], harness := (true, "7f80af8b871f8829284ac6e563a5151c09c868faf3d4727962b208c2b9a4ac96"), looks := false }, kinds := [], alts := [], laidByText := true, laidKinds := [.data], laidTests := true, laidLooks := .later }
def FnExactNumbersOfCardSaid : Prop := Claim7.holds Tryz.pinned (.plain (OpenSpec.ofChange fnExactNumbersOfSpec)) fnExactNumbersOfCard

/-- THE TIED CARD OF 'laws.FnExactNumberOf'. -/
def fnExactNumberOfCard : Claim7 := { stood := { row := fnExactNumberOfRow, standIns := [], harness := (true, "7f80af8b871f8829284ac6e563a5151c09c868faf3d4727962b208c2b9a4ac96"), looks := false }, kinds := [], alts := [], laidByText := true, laidKinds := [.data], laidTests := true, laidLooks := .later }
def FnExactNumberOfCardSaid : Prop := Claim7.holds Tryz.pinned (.plain (OpenSpec.ofChange fnExactNumberOfSpec)) fnExactNumberOfCard

/-- THE TIED CARD OF 'laws.FnExactSettersOf'. -/
def fnExactSettersOfCard : Claim7 := { stood := { row := fnExactSettersOfRow, standIns := [], harness := (true, "7f80af8b871f8829284ac6e563a5151c09c868faf3d4727962b208c2b9a4ac96"), looks := false }, kinds := [], alts := [], laidByText := true, laidKinds := [.data], laidTests := true, laidLooks := .later }
def FnExactSettersOfCardSaid : Prop := Claim7.holds Tryz.pinned (.plain (OpenSpec.ofChange fnExactSettersOfSpec)) fnExactSettersOfCard

/-- THE TIED CARD OF 'laws.FnExactUsersOf'. -/
def fnExactUsersOfCard : Claim7 := { stood := { row := fnExactUsersOfRow, standIns := [], harness := (true, "7f80af8b871f8829284ac6e563a5151c09c868faf3d4727962b208c2b9a4ac96"), looks := false }, kinds := [], alts := [], laidByText := true, laidKinds := [.data], laidTests := true, laidLooks := .later }
def FnExactUsersOfCardSaid : Prop := Claim7.holds Tryz.pinned (.plain (OpenSpec.ofChange fnExactUsersOfSpec)) fnExactUsersOfCard

/-- THE TIED CARD OF 'laws.FnExactAccessesOf'. -/
def fnExactAccessesOfCard : Claim7 := { stood := { row := fnExactAccessesOfRow, standIns := [], harness := (true, "7f80af8b871f8829284ac6e563a5151c09c868faf3d4727962b208c2b9a4ac96"), looks := false }, kinds := [], alts := [], laidByText := true, laidKinds := [.data], laidTests := true, laidLooks := .later }
def FnExactAccessesOfCardSaid : Prop := Claim7.holds Tryz.pinned (.plain (OpenSpec.ofChange fnExactAccessesOfSpec)) fnExactAccessesOfCard

/-- THE TIED CARD OF 'laws.FnExactConflictsAt'. -/
def fnExactConflictsAtCard : Claim7 := { stood := { row := fnExactConflictsAtRow, standIns := [], harness := (true, "7f80af8b871f8829284ac6e563a5151c09c868faf3d4727962b208c2b9a4ac96"), looks := false }, kinds := [], alts := [], laidByText := true, laidKinds := [.data], laidTests := true, laidLooks := .later }
def FnExactConflictsAtCardSaid : Prop := Claim7.holds Tryz.pinned (.plain (OpenSpec.ofChange fnExactConflictsAtSpec)) fnExactConflictsAtCard

/-- THE SECOND FORM's CARD OF 'laws.FnExactCellsOf'. -/
def fnExactCellsOfUptoCard : Claim7 := { stood := { row := fnExactCellsOfUptoRow, standIns := [], harness := (true, "7f80af8b871f8829284ac6e563a5151c09c868faf3d4727962b208c2b9a4ac96"), looks := false }, kinds := [], alts := [], laidByText := true, laidKinds := [.data], laidTests := true, laidLooks := .later }
def FnExactCellsOfUptoCardSaid : Prop := Claim7.holds Tryz.pinned (.plain (OpenSpec.upto fnExactCellsOfSpec)) fnExactCellsOfUptoCard

/-- THE SECOND FORM's CARD OF 'laws.FnExactMayAlias'. -/
def fnExactMayAliasUptoCard : Claim7 := { stood := { row := fnExactMayAliasUptoRow, standIns := [], harness := (true, "7f80af8b871f8829284ac6e563a5151c09c868faf3d4727962b208c2b9a4ac96"), looks := false }, kinds := [], alts := [], laidByText := true, laidKinds := [.data], laidTests := true, laidLooks := .later }
def FnExactMayAliasUptoCardSaid : Prop := Claim7.holds Tryz.pinned (.plain (OpenSpec.upto fnExactMayAliasSpec)) fnExactMayAliasUptoCard

/-- THE SECOND FORM's CARD OF 'laws.FnExactNumbersOf'. -/
def fnExactNumbersOfUptoCard : Claim7 := { stood := { row := fnExactNumbersOfUptoRow, standIns := [], harness := (true, "7f80af8b871f8829284ac6e563a5151c09c868faf3d4727962b208c2b9a4ac96"), looks := false }, kinds := [], alts := [], laidByText := true, laidKinds := [.data], laidTests := true, laidLooks := .later }
def FnExactNumbersOfUptoCardSaid : Prop := Claim7.holds Tryz.pinned (.plain (OpenSpec.upto fnExactNumbersOfSpec)) fnExactNumbersOfUptoCard

/-- THE SECOND FORM's CARD OF 'laws.FnExactNumberOf'. -/
def fnExactNumberOfUptoCard : Claim7 := { stood := { row := fnExactNumberOfUptoRow, standIns := [], harness := (true, "7f80af8b871f8829284ac6e563a5151c09c868faf3d4727962b208c2b9a4ac96"), looks := false }, kinds := [], alts := [], laidByText := true, laidKinds := [.data], laidTests := true, laidLooks := .later }
def FnExactNumberOfUptoCardSaid : Prop := Claim7.holds Tryz.pinned (.plain (OpenSpec.upto fnExactNumberOfSpec)) fnExactNumberOfUptoCard

/-- THE SECOND FORM's CARD OF 'laws.FnExactSettersOf'. -/
def fnExactSettersOfUptoCard : Claim7 := { stood := { row := fnExactSettersOfUptoRow, standIns := [], harness := (true, "7f80af8b871f8829284ac6e563a5151c09c868faf3d4727962b208c2b9a4ac96"), looks := false }, kinds := [], alts := [], laidByText := true, laidKinds := [.data], laidTests := true, laidLooks := .later }
def FnExactSettersOfUptoCardSaid : Prop := Claim7.holds Tryz.pinned (.plain (OpenSpec.upto fnExactSettersOfSpec)) fnExactSettersOfUptoCard

/-- THE SECOND FORM's CARD OF 'laws.FnExactUsersOf'. -/
def fnExactUsersOfUptoCard : Claim7 := { stood := { row := fnExactUsersOfUptoRow, standIns := [], harness := (true, "7f80af8b871f8829284ac6e563a5151c09c868faf3d4727962b208c2b9a4ac96"), looks := false }, kinds := [], alts := [], laidByText := true, laidKinds := [.data], laidTests := true, laidLooks := .later }
def FnExactUsersOfUptoCardSaid : Prop := Claim7.holds Tryz.pinned (.plain (OpenSpec.upto fnExactUsersOfSpec)) fnExactUsersOfUptoCard

/-- THE SECOND FORM's CARD OF 'laws.FnExactAccessesOf'. -/
def fnExactAccessesOfUptoCard : Claim7 := { stood := { row := fnExactAccessesOfUptoRow, standIns := [], harness := (true, "7f80af8b871f8829284ac6e563a5151c09c868faf3d4727962b208c2b9a4ac96"), looks := false }, kinds := [], alts := [], laidByText := true, laidKinds := [.data], laidTests := true, laidLooks := .later }
def FnExactAccessesOfUptoCardSaid : Prop := Claim7.holds Tryz.pinned (.plain (OpenSpec.upto fnExactAccessesOfSpec)) fnExactAccessesOfUptoCard

/-- THE SECOND FORM's CARD OF 'laws.FnExactConflictsAt'. -/
def fnExactConflictsAtUptoCard : Claim7 := { stood := { row := fnExactConflictsAtUptoRow, standIns := [], harness := (true, "7f80af8b871f8829284ac6e563a5151c09c868faf3d4727962b208c2b9a4ac96"), looks := false }, kinds := [], alts := [], laidByText := true, laidKinds := [.data], laidTests := true, laidLooks := .later }
def FnExactConflictsAtUptoCardSaid : Prop := Claim7.holds Tryz.pinned (.plain (OpenSpec.upto fnExactConflictsAtSpec)) fnExactConflictsAtUptoCard
end Rows
end Go.Proofs.YtnoejapnjhogaaaGreatDoor

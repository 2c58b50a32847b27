/-
  DERIVED. GIVEN WITH THE SEED: THE CARDS: each row of YtedkkphogeealaaGreatDoorRows.lean that lists a variable, with what it lists TIED to the program's text (the seventh form; the later family's looks); each row that meets fmt, with fmt's text TOLD by the authors' own Lean function (tested against real Go, not proved from fmt's source: count such statements apart). THE CARD IS WHAT COUNTS. Prove the row's statement (the work); the ties are given (YtedkkphogeealaaGreatDoorTie.lean); close each card by the builder's one call (the guide's Derived/Test/ToyasCard.lean, 'card_holds'). Laid BY PROGRAM, IN A SANDBOX (cutbox-door.mjs). By AI agents, Wed Nov 11 2026. No macro, syntax, notation, axiom, sorry.
-/
import Derived.Test.YtedkkphogeealaaGreatDoorRows
import GoSem.ClaimSeven
namespace Go.Proofs.YtedkkphogeealaaGreatDoor
namespace Rows

/-- THE TIED CARD OF 'laws.FnExactAccepts'. -/
def fnExactAcceptsCard : Claim7 := { stood := { row := fnExactAcceptsRow, standIns := [], harness := (true, "7ff1b889dd3e7060031c708905c5681d92d9db4f1bc37e17259a9f0b75fb960a"), looks := false }, kinds := [], alts := [], laidByText := true, laidKinds := [.data], laidTests := true, laidLooks := .later }
def FnExactAcceptsCardSaid : Prop := Claim7.holds Tryz.pinned (.plain (OpenSpec.ofChange fnExactAcceptsSpec)) fnExactAcceptsCard

/-- THE TIED CARD OF 'laws.FnExactFirstIssue'. -/
def fnExactFirstIssueCard : Claim7 := { stood := { row := fnExactFirstIssueRow, standIns := [], harness := (true, "7ff1b889dd3e7060031c708905c5681d92d9db4f1bc37e17259a9f0b75fb960a"), looks := false }, kinds := [], alts := [], laidByText := true, laidKinds := [.data], laidTests := true, laidLooks := .later }
def FnExactFirstIssueCardSaid : Prop := Claim7.holds Tryz.pinned (.plain (OpenSpec.ofChange fnExactFirstIssueSpec)) fnExactFirstIssueCard

/-- THE TIED CARD OF 'laws.FnExactCheckProgram'. -/
def fnExactCheckProgramCard : Claim7 := { stood := { row := fnExactCheckProgramRow, standIns := [], harness := (true, "7ff1b889dd3e7060031c708905c5681d92d9db4f1bc37e17259a9f0b75fb960a"), looks := false }, kinds := [], alts := [], laidByText := true, laidKinds := [.data], laidTests := true, laidLooks := .later }
def FnExactCheckProgramCardSaid : Prop := Claim7.holds Tryz.pinned (.plain (OpenSpec.ofChange fnExactCheckProgramSpec)) fnExactCheckProgramCard

/-- THE TIED CARD OF 'laws.FnExactCheckPlain'. -/
def fnExactCheckPlainCard : Claim7 := { stood := { row := fnExactCheckPlainRow, standIns := [], harness := (true, "7ff1b889dd3e7060031c708905c5681d92d9db4f1bc37e17259a9f0b75fb960a"), looks := false }, kinds := [], alts := [], laidByText := true, laidKinds := [.data], laidTests := true, laidLooks := .later }
def FnExactCheckPlainCardSaid : Prop := Claim7.holds Tryz.pinned (.plain (OpenSpec.ofChange fnExactCheckPlainSpec)) fnExactCheckPlainCard

/-- THE TIED CARD OF 'laws.FnExactUseAfter'. -/
def fnExactUseAfterCard : Claim7 := { stood := { row := fnExactUseAfterRow, standIns := [], harness := (true, "7ff1b889dd3e7060031c708905c5681d92d9db4f1bc37e17259a9f0b75fb960a"), looks := false }, kinds := [], alts := [], laidByText := true, laidKinds := [.data], laidTests := true, laidLooks := .later }
def FnExactUseAfterCardSaid : Prop := Claim7.holds Tryz.pinned (.plain (OpenSpec.ofChange fnExactUseAfterSpec)) fnExactUseAfterCard

/-- THE TIED CARD OF 'laws.FnExactWitnessOf'. -/
def fnExactWitnessOfCard : Claim7 := { stood := { row := fnExactWitnessOfRow, standIns := [], harness := (true, "7ff1b889dd3e7060031c708905c5681d92d9db4f1bc37e17259a9f0b75fb960a"), looks := false }, kinds := [], alts := [], laidByText := true, laidKinds := [.data], laidTests := true, laidLooks := .later }
def FnExactWitnessOfCardSaid : Prop := Claim7.holds Tryz.pinned (.plain (OpenSpec.ofChange fnExactWitnessOfSpec)) fnExactWitnessOfCard

/-- THE SECOND FORM's CARD OF 'laws.FnExactAccepts'. -/
def fnExactAcceptsUptoCard : Claim7 := { stood := { row := fnExactAcceptsUptoRow, standIns := [], harness := (true, "7ff1b889dd3e7060031c708905c5681d92d9db4f1bc37e17259a9f0b75fb960a"), looks := false }, kinds := [], alts := [], laidByText := true, laidKinds := [.data], laidTests := true, laidLooks := .later }
def FnExactAcceptsUptoCardSaid : Prop := Claim7.holds Tryz.pinned (.plain (OpenSpec.upto fnExactAcceptsSpec)) fnExactAcceptsUptoCard

/-- THE SECOND FORM's CARD OF 'laws.FnExactFirstIssue'. -/
def fnExactFirstIssueUptoCard : Claim7 := { stood := { row := fnExactFirstIssueUptoRow, standIns := [], harness := (true, "7ff1b889dd3e7060031c708905c5681d92d9db4f1bc37e17259a9f0b75fb960a"), looks := false }, kinds := [], alts := [], laidByText := true, laidKinds := [.data], laidTests := true, laidLooks := .later }
def FnExactFirstIssueUptoCardSaid : Prop := Claim7.holds Tryz.pinned (.plain (OpenSpec.upto fnExactFirstIssueSpec)) fnExactFirstIssueUptoCard

/-- THE SECOND FORM's CARD OF 'laws.FnExactCheckProgram'. -/
def fnExactCheckProgramUptoCard : Claim7 := { stood := { row := fnExactCheckProgramUptoRow, standIns := [], harness := (true, "7ff1b889dd3e7060031c708905c5681d92d9db4f1bc37e17259a9f0b75fb960a"), looks := false }, kinds := [], alts := [], laidByText := true, laidKinds := [.data], laidTests := true, laidLooks := .later }
def FnExactCheckProgramUptoCardSaid : Prop := Claim7.holds Tryz.pinned (.plain (OpenSpec.upto fnExactCheckProgramSpec)) fnExactCheckProgramUptoCard

/-- THE SECOND FORM's CARD OF 'laws.FnExactCheckPlain'. -/
def fnExactCheckPlainUptoCard : Claim7 := { stood := { row := fnExactCheckPlainUptoRow, standIns := [], harness := (true, "7ff1b889dd3e7060031c708905c5681d92d9db4f1bc37e17259a9f0b75fb960a"), looks := false }, kinds := [], alts := [], laidByText := true, laidKinds := [.data], laidTests := true, laidLooks := .later }
def FnExactCheckPlainUptoCardSaid : Prop := Claim7.holds Tryz.pinned (.plain (OpenSpec.upto fnExactCheckPlainSpec)) fnExactCheckPlainUptoCard

/-- THE SECOND FORM's CARD OF 'laws.FnExactUseAfter'. -/
def fnExactUseAfterUptoCard : Claim7 := { stood := { row := fnExactUseAfterUptoRow, standIns := [], harness := (true, "7ff1b889dd3e7060031c708905c5681d92d9db4f1bc37e17259a9f0b75fb960a"), looks := false }, kinds := [], alts := [], laidByText := true, laidKinds := [.data], laidTests := true, laidLooks := .later }
def FnExactUseAfterUptoCardSaid : Prop := Claim7.holds Tryz.pinned (.plain (OpenSpec.upto fnExactUseAfterSpec)) fnExactUseAfterUptoCard

/-- THE SECOND FORM's CARD OF 'laws.FnExactWitnessOf'. -/
def fnExactWitnessOfUptoCard : Claim7 := { stood := { row := fnExactWitnessOfUptoRow, standIns := [], harness := (true, "7ff1b889dd3e7060031c708905c5681d92d9db4f1bc37e17259a9f0b75fb960a"), looks := false }, kinds := [], alts := [], laidByText := true, laidKinds := [.data], laidTests := true, laidLooks := .later }
def FnExactWitnessOfUptoCardSaid : Prop := Claim7.holds Tryz.pinned (.plain (OpenSpec.upto fnExactWitnessOfSpec)) fnExactWitnessOfUptoCard
end Rows
end Go.Proofs.YtedkkphogeealaaGreatDoor

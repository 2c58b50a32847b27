/-
  DERIVED. GIVEN WITH THE SEED: THE CARDS: each row of YtlddoookojjleaaGreatDoorRows.lean that lists a variable, with what it lists TIED to the program's text (the seventh form; the later family's looks); each row that meets fmt, with fmt's text TOLD by the authors' own Lean function (tested against real Go, not proved from fmt's source: count such statements apart). THE CARD IS WHAT COUNTS. Prove the row's statement (the work); the ties are given (YtlddoookojjleaaGreatDoorTie.lean); close each card by the builder's one call (the guide's Derived/Test/ToyasCard.lean, 'card_holds'). Laid BY PROGRAM, IN A SANDBOX (cutbox-door.mjs). By AI agents, Wed Nov 11 2026. No macro, syntax, notation, axiom, sorry.
-/
import Derived.Test.YtlddoookojjleaaGreatDoorRows
import GoSem.ClaimSeven
namespace Go.Proofs.YtlddoookojjleaaGreatDoor
namespace Rows

/-- THE TIED CARD OF 'laws.FnShortWay'. -/
def fnShortWayCard : Claim7 := { stood := { row := fnShortWayRow, standIns := [], harness := (true, "1c2be277f08d7da3297d2e53c2640923796337fca388110a081093ad582ef819"), looks := false }, kinds := [], alts := [], laidByText := true, laidKinds := [.data], laidTests := true, laidLooks := .later }
def FnShortWayCardSaid : Prop := Claim7.holds Tryz.pinned (.plain (OpenSpec.ofChange fnShortWaySpec)) fnShortWayCard

/-- THE SECOND FORM's CARD OF 'laws.FnShortWay'. -/
def fnShortWayUptoCard : Claim7 := { stood := { row := fnShortWayUptoRow, standIns := [], harness := (true, "1c2be277f08d7da3297d2e53c2640923796337fca388110a081093ad582ef819"), looks := false }, kinds := [], alts := [], laidByText := true, laidKinds := [.data], laidTests := true, laidLooks := .later }
def FnShortWayUptoCardSaid : Prop := Claim7.holds Tryz.pinned (.plain (OpenSpec.upto fnShortWaySpec)) fnShortWayUptoCard
end Rows
end Go.Proofs.YtlddoookojjleaaGreatDoor

/-
  DERIVED. GIVEN WITH THE SEED: THE CARDS: each row of YtidjphifgemicaaGreatDoorRows.lean that lists a variable, with what it lists TIED to the program's text (the seventh form; the later family's looks); each row that meets fmt, with fmt's text TOLD by the authors' own Lean function (tested against real Go, not proved from fmt's source: count such statements apart). THE CARD IS WHAT COUNTS. Prove the row's statement (the work); the ties are given (YtidjphifgemicaaGreatDoorTie.lean); close each card by the builder's one call (the guide's Derived/Test/ToyasCard.lean, 'card_holds'). Laid BY PROGRAM, IN A SANDBOX (cutbox-door.mjs). By AI agents, Wed Nov 11 2026. No macro, syntax, notation, axiom, sorry.
-/
import Derived.Test.YtidjphifgemicaaGreatDoorRows
import GoSem.ClaimSeven
namespace Go.Proofs.YtidjphifgemicaaGreatDoor
namespace Rows

/-- THE TIED CARD OF 'laws.FnExactLoansOf'. -/
def fnExactLoansOfCard : Claim7 := { stood := { row := fnExactLoansOfRow, standIns := [], harness := (true, "2d980463ff887a466bc62581025fec2c6c3fca02220bae4487770537fdc006ce"), looks := false }, kinds := [], alts := [], laidByText := true, laidKinds := [.data], laidTests := true, laidLooks := .later }
def FnExactLoansOfCardSaid : Prop := Claim7.holds Tryz.pinned (.plain (OpenSpec.ofChange fnExactLoansOfSpec)) fnExactLoansOfCard

/-- THE TIED CARD OF 'laws.FnExactLoansIn'. -/
def fnExactLoansInCard : Claim7 := { stood := { row := fnExactLoansInRow, standIns := [], harness := (true, "2d980463ff887a466bc62581025fec2c6c3fca02220bae4487770537fdc006ce"), looks := false }, kinds := [], alts := [], laidByText := true, laidKinds := [.data], laidTests := true, laidLooks := .later }
def FnExactLoansInCardSaid : Prop := Claim7.holds Tryz.pinned (.plain (OpenSpec.ofChange fnExactLoansInSpec)) fnExactLoansInCard

/-- THE TIED CARD OF 'laws.FnExactPlacedLoans'. -/
def fnExactPlacedLoansCard : Claim7 := { stood := { row := fnExactPlacedLoansRow, standIns := [], harness := (true, "2d980463ff887a466bc62581025fec2c6c3fca02220bae4487770537fdc006ce"), looks := false }, kinds := [], alts := [], laidByText := true, laidKinds := [.data], laidTests := true, laidLooks := .later }
def FnExactPlacedLoansCardSaid : Prop := Claim7.holds Tryz.pinned (.plain (OpenSpec.ofChange fnExactPlacedLoansSpec)) fnExactPlacedLoansCard

/-- THE TIED CARD OF 'laws.FnExactLiveLoans'. -/
def fnExactLiveLoansCard : Claim7 := { stood := { row := fnExactLiveLoansRow, standIns := [], harness := (true, "2d980463ff887a466bc62581025fec2c6c3fca02220bae4487770537fdc006ce"), looks := false }, kinds := [], alts := [], laidByText := true, laidKinds := [.data], laidTests := true, laidLooks := .later }
def FnExactLiveLoansCardSaid : Prop := Claim7.holds Tryz.pinned (.plain (OpenSpec.ofChange fnExactLiveLoansSpec)) fnExactLiveLoansCard

/-- THE TIED CARD OF 'laws.FnExactAccessesOf'. -/
def fnExactAccessesOfCard : Claim7 := { stood := { row := fnExactAccessesOfRow, standIns := [], harness := (true, "2d980463ff887a466bc62581025fec2c6c3fca02220bae4487770537fdc006ce"), looks := false }, kinds := [], alts := [], laidByText := true, laidKinds := [.data], laidTests := true, laidLooks := .later }
def FnExactAccessesOfCardSaid : Prop := Claim7.holds Tryz.pinned (.plain (OpenSpec.ofChange fnExactAccessesOfSpec)) fnExactAccessesOfCard

/-- THE TIED CARD OF 'laws.FnExactConflictsAt'. -/
def fnExactConflictsAtCard : Claim7 := { stood := { row := fnExactConflictsAtRow, standIns := [], harness := (true, "2d980463ff887a466bc62581025fec2c6c3fca02220bae4487770537fdc006ce"), looks := false }, kinds := [], alts := [], laidByText := true, laidKinds := [.data], laidTests := true, laidLooks := .later }
def FnExactConflictsAtCardSaid : Prop := Claim7.holds Tryz.pinned (.plain (OpenSpec.ofChange fnExactConflictsAtSpec)) fnExactConflictsAtCard

/-- THE TIED CARD OF 'laws.FnLoansOf'. -/
def fnLoansOfCard : Claim7 := { stood := { row := fnLoansOfRow, standIns := [], harness := (true, "2d980463ff887a466bc62581025fec2c6c3fca02220bae4487770537fdc006ce"), looks := false }, kinds := [], alts := [], laidByText := true, laidKinds := [.data], laidTests := true, laidLooks := .later }
def FnLoansOfCardSaid : Prop := Claim7.holds Tryz.pinned (.plain (OpenSpec.ofChange fnLoansOfSpec)) fnLoansOfCard

/-- THE TIED CARD OF 'laws.FnLoansIn'. -/
def fnLoansInCard : Claim7 := { stood := { row := fnLoansInRow, standIns := [], harness := (true, "2d980463ff887a466bc62581025fec2c6c3fca02220bae4487770537fdc006ce"), looks := false }, kinds := [], alts := [], laidByText := true, laidKinds := [.data], laidTests := true, laidLooks := .later }
def FnLoansInCardSaid : Prop := Claim7.holds Tryz.pinned (.plain (OpenSpec.ofChange fnLoansInSpec)) fnLoansInCard

/-- THE SECOND FORM's CARD OF 'laws.FnExactLoansOf'. -/
def fnExactLoansOfUptoCard : Claim7 := { stood := { row := fnExactLoansOfUptoRow, standIns := [], harness := (true, "2d980463ff887a466bc62581025fec2c6c3fca02220bae4487770537fdc006ce"), looks := false }, kinds := [], alts := [], laidByText := true, laidKinds := [.data], laidTests := true, laidLooks := .later }
def FnExactLoansOfUptoCardSaid : Prop := Claim7.holds Tryz.pinned (.plain (OpenSpec.upto fnExactLoansOfSpec)) fnExactLoansOfUptoCard

/-- THE SECOND FORM's CARD OF 'laws.FnExactLoansIn'. -/
def fnExactLoansInUptoCard : Claim7 := { stood := { row := fnExactLoansInUptoRow, standIns := [], harness := (true, "2d980463ff887a466bc62581025fec2c6c3fca02220bae4487770537fdc006ce"), looks := false }, kinds := [], alts := [], laidByText := true, laidKinds := [.data], laidTests := true, laidLooks := .later }
def FnExactLoansInUptoCardSaid : Prop := Claim7.holds Tryz.pinned (.plain (OpenSpec.upto fnExactLoansInSpec)) fnExactLoansInUptoCard

/-- THE SECOND FORM's CARD OF 'laws.FnExactPlacedLoans'. -/
def fnExactPlacedLoansUptoCard : Claim7 := { stood := { row := fnExactPlacedLoansUptoRow, standIns := [], harness := (true, "2d980463ff887a466bc62581025fec2c6c3fca02220bae4487770537fdc006ce"), looks := false }, kinds := [], alts := [], laidByText := true, laidKinds := [.data], laidTests := true, laidLooks := .later }
def FnExactPlacedLoansUptoCardSaid : Prop := Claim7.holds Tryz.pinned (.plain (OpenSpec.upto fnExactPlacedLoansSpec)) fnExactPlacedLoansUptoCard

/-- THE SECOND FORM's CARD OF 'laws.FnExactLiveLoans'. -/
def fnExactLiveLoansUptoCard : Claim7 := { stood := { row := fnExactLiveLoansUptoRow, standIns := [], harness := (true, "2d980463ff887a466bc62581025fec2c6c3fca02220bae4487770537fdc006ce"), looks := false }, kinds := [], alts := [], laidByText := true, laidKinds := [.data], laidTests := true, laidLooks := .later }
def FnExactLiveLoansUptoCardSaid : Prop := Claim7.holds Tryz.pinned (.plain (OpenSpec.upto fnExactLiveLoansSpec)) fnExactLiveLoansUptoCard

/-- THE SECOND FORM's CARD OF 'laws.FnExactAccessesOf'. -/
def fnExactAccessesOfUptoCard : Claim7 := { stood := { row := fnExactAccessesOfUptoRow, standIns := [], harness := (true, "2d980463ff887a466bc62581025fec2c6c3fca02220bae4487770537fdc006ce"), looks := false }, kinds := [], alts := [], laidByText := true, laidKinds := [.data], laidTests := true, laidLooks := .later }
def FnExactAccessesOfUptoCardSaid : Prop := Claim7.holds Tryz.pinned (.plain (OpenSpec.upto fnExactAccessesOfSpec)) fnExactAccessesOfUptoCard

/-- THE SECOND FORM's CARD OF 'laws.FnExactConflictsAt'. -/
def fnExactConflictsAtUptoCard : Claim7 := { stood := { row := fnExactConflictsAtUptoRow, standIns := [], harness := (true, "2d980463ff887a466bc62581025fec2c6c3fca02220bae4487770537fdc006ce"), looks := false }, kinds := [], alts := [], laidByText := true, laidKinds := [.data], laidTests := true, laidLooks := .later }
def FnExactConflictsAtUptoCardSaid : Prop := Claim7.holds Tryz.pinned (.plain (OpenSpec.upto fnExactConflictsAtSpec)) fnExactConflictsAtUptoCard

/-- THE SECOND FORM's CARD OF 'laws.FnLoansOf'. -/
def fnLoansOfUptoCard : Claim7 := { stood := { row := fnLoansOfUptoRow, standIns := [], harness := (true, "2d980463ff887a466bc62581025fec2c6c3fca02220bae4487770537fdc006ce"), looks := false }, kinds := [], alts := [], laidByText := true, laidKinds := [.data], laidTests := true, laidLooks := .later }
def FnLoansOfUptoCardSaid : Prop := Claim7.holds Tryz.pinned (.plain (OpenSpec.upto fnLoansOfSpec)) fnLoansOfUptoCard

/-- THE SECOND FORM's CARD OF 'laws.FnLoansIn'. -/
def fnLoansInUptoCard : Claim7 := { stood := { row := fnLoansInUptoRow, standIns := [], harness := (true, "2d980463ff887a466bc62581025fec2c6c3fca02220bae4487770537fdc006ce"), looks := false }, kinds := [], alts := [], laidByText := true, laidKinds := [.data], laidTests := true, laidLooks := .later }
def FnLoansInUptoCardSaid : Prop := Claim7.holds Tryz.pinned (.plain (OpenSpec.upto fnLoansInSpec)) fnLoansInUptoCard
end Rows
end Go.Proofs.YtidjphifgemicaaGreatDoor

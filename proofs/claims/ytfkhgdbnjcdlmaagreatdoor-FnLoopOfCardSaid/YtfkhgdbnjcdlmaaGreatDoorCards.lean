/-
  DERIVED. GIVEN WITH THE SEED: THE CARDS: each row of YtfkhgdbnjcdlmaaGreatDoorRows.lean that lists a variable, with what it lists TIED to the program's text (the seventh form; the later family's looks); each row that meets fmt, with fmt's text TOLD by the authors' own Lean function (tested against real Go, not proved from fmt's source: count such statements apart). THE CARD IS WHAT COUNTS. Prove the row's statement (the work); the ties are given (YtfkhgdbnjcdlmaaGreatDoorTie.lean); close each card by the builder's one call (the guide's Derived/Test/ToyasCard.lean, 'card_holds'). Laid BY PROGRAM, IN A SANDBOX (cutbox-door.mjs). By AI agents, Wed Nov 11 2026. No macro, syntax, notation, axiom, sorry.
-/
import Derived.Test.YtfkhgdbnjcdlmaaGreatDoorRows
import GoSem.ClaimSeven
namespace Go.Proofs.YtfkhgdbnjcdlmaaGreatDoor
namespace Rows

/-- THE TIED CARD OF 'laws.FnDominates'. -/
def fnDominatesCard : Claim7 := { stood := { row := fnDominatesRow, standIns := [], harness := (true, "70c01f2bfcc204bc4de513bb5534ac2ab9a5304d11017bf1ae724bf30b413d5a"), looks := false }, kinds := [], alts := [], laidByText := true, laidKinds := [.data], laidTests := true, laidLooks := .later }
def FnDominatesCardSaid : Prop := Claim7.holds Tryz.pinned (.plain (OpenSpec.ofChange fnDominatesSpec)) fnDominatesCard

/-- THE TIED CARD OF 'laws.FnDominatorsOf'. -/
def fnDominatorsOfCard : Claim7 := { stood := { row := fnDominatorsOfRow, standIns := [], harness := (true, "70c01f2bfcc204bc4de513bb5534ac2ab9a5304d11017bf1ae724bf30b413d5a"), looks := false }, kinds := [], alts := [], laidByText := true, laidKinds := [.data], laidTests := true, laidLooks := .later }
def FnDominatorsOfCardSaid : Prop := Claim7.holds Tryz.pinned (.plain (OpenSpec.ofChange fnDominatorsOfSpec)) fnDominatorsOfCard

/-- THE TIED CARD OF 'laws.FnLastDominator'. -/
def fnLastDominatorCard : Claim7 := { stood := { row := fnLastDominatorRow, standIns := [], harness := (true, "70c01f2bfcc204bc4de513bb5534ac2ab9a5304d11017bf1ae724bf30b413d5a"), looks := false }, kinds := [], alts := [], laidByText := true, laidKinds := [.data], laidTests := true, laidLooks := .later }
def FnLastDominatorCardSaid : Prop := Claim7.holds Tryz.pinned (.plain (OpenSpec.ofChange fnLastDominatorSpec)) fnLastDominatorCard

/-- THE TIED CARD OF 'laws.FnAlwaysReaches'. -/
def fnAlwaysReachesCard : Claim7 := { stood := { row := fnAlwaysReachesRow, standIns := [], harness := (true, "70c01f2bfcc204bc4de513bb5534ac2ab9a5304d11017bf1ae724bf30b413d5a"), looks := false }, kinds := [], alts := [], laidByText := true, laidKinds := [.data], laidTests := true, laidLooks := .later }
def FnAlwaysReachesCardSaid : Prop := Claim7.holds Tryz.pinned (.plain (OpenSpec.ofChange fnAlwaysReachesSpec)) fnAlwaysReachesCard

/-- THE TIED CARD OF 'laws.FnLoopOf'. -/
def fnLoopOfCard : Claim7 := { stood := { row := fnLoopOfRow, standIns := [], harness := (true, "70c01f2bfcc204bc4de513bb5534ac2ab9a5304d11017bf1ae724bf30b413d5a"), looks := false }, kinds := [], alts := [], laidByText := true, laidKinds := [.data], laidTests := true, laidLooks := .later }
def FnLoopOfCardSaid : Prop := Claim7.holds Tryz.pinned (.plain (OpenSpec.ofChange fnLoopOfSpec)) fnLoopOfCard

/-- THE TIED CARD OF 'laws.FnDominatesThree'. -/
def fnDominatesThreeCard : Claim7 := { stood := { row := fnDominatesThreeRow, standIns := [], harness := (true, "70c01f2bfcc204bc4de513bb5534ac2ab9a5304d11017bf1ae724bf30b413d5a"), looks := false }, kinds := [], alts := [], laidByText := true, laidKinds := [.data], laidTests := true, laidLooks := .later }
def FnDominatesThreeCardSaid : Prop := Claim7.holds Tryz.pinned (.plain (OpenSpec.ofChange fnDominatesThreeSpec)) fnDominatesThreeCard

/-- THE TIED CARD OF 'laws.FnFirstDominates'. -/
def fnFirstDominatesCard : Claim7 := { stood := { row := fnFirstDominatesRow, standIns := [], harness := (true, "70c01f2bfcc204bc4de513bb5534ac2ab9a5304d11017bf1ae724bf30b413d5a"), looks := false }, kinds := [], alts := [], laidByText := true, laidKinds := [.data], laidTests := true, laidLooks := .later }
def FnFirstDominatesCardSaid : Prop := Claim7.holds Tryz.pinned (.plain (OpenSpec.ofChange fnFirstDominatesSpec)) fnFirstDominatesCard

/-- THE TIED CARD OF 'laws.FnReachesThree'. -/
def fnReachesThreeCard : Claim7 := { stood := { row := fnReachesThreeRow, standIns := [], harness := (true, "70c01f2bfcc204bc4de513bb5534ac2ab9a5304d11017bf1ae724bf30b413d5a"), looks := false }, kinds := [], alts := [], laidByText := true, laidKinds := [.data], laidTests := true, laidLooks := .later }
def FnReachesThreeCardSaid : Prop := Claim7.holds Tryz.pinned (.plain (OpenSpec.ofChange fnReachesThreeSpec)) fnReachesThreeCard

/-- THE SECOND FORM's CARD OF 'laws.FnDominates'. -/
def fnDominatesUptoCard : Claim7 := { stood := { row := fnDominatesUptoRow, standIns := [], harness := (true, "70c01f2bfcc204bc4de513bb5534ac2ab9a5304d11017bf1ae724bf30b413d5a"), looks := false }, kinds := [], alts := [], laidByText := true, laidKinds := [.data], laidTests := true, laidLooks := .later }
def FnDominatesUptoCardSaid : Prop := Claim7.holds Tryz.pinned (.plain (OpenSpec.upto fnDominatesSpec)) fnDominatesUptoCard

/-- THE SECOND FORM's CARD OF 'laws.FnDominatorsOf'. -/
def fnDominatorsOfUptoCard : Claim7 := { stood := { row := fnDominatorsOfUptoRow, standIns := [], harness := (true, "70c01f2bfcc204bc4de513bb5534ac2ab9a5304d11017bf1ae724bf30b413d5a"), looks := false }, kinds := [], alts := [], laidByText := true, laidKinds := [.data], laidTests := true, laidLooks := .later }
def FnDominatorsOfUptoCardSaid : Prop := Claim7.holds Tryz.pinned (.plain (OpenSpec.upto fnDominatorsOfSpec)) fnDominatorsOfUptoCard

/-- THE SECOND FORM's CARD OF 'laws.FnLastDominator'. -/
def fnLastDominatorUptoCard : Claim7 := { stood := { row := fnLastDominatorUptoRow, standIns := [], harness := (true, "70c01f2bfcc204bc4de513bb5534ac2ab9a5304d11017bf1ae724bf30b413d5a"), looks := false }, kinds := [], alts := [], laidByText := true, laidKinds := [.data], laidTests := true, laidLooks := .later }
def FnLastDominatorUptoCardSaid : Prop := Claim7.holds Tryz.pinned (.plain (OpenSpec.upto fnLastDominatorSpec)) fnLastDominatorUptoCard

/-- THE SECOND FORM's CARD OF 'laws.FnAlwaysReaches'. -/
def fnAlwaysReachesUptoCard : Claim7 := { stood := { row := fnAlwaysReachesUptoRow, standIns := [], harness := (true, "70c01f2bfcc204bc4de513bb5534ac2ab9a5304d11017bf1ae724bf30b413d5a"), looks := false }, kinds := [], alts := [], laidByText := true, laidKinds := [.data], laidTests := true, laidLooks := .later }
def FnAlwaysReachesUptoCardSaid : Prop := Claim7.holds Tryz.pinned (.plain (OpenSpec.upto fnAlwaysReachesSpec)) fnAlwaysReachesUptoCard

/-- THE SECOND FORM's CARD OF 'laws.FnLoopOf'. -/
def fnLoopOfUptoCard : Claim7 := { stood := { row := fnLoopOfUptoRow, standIns := [], harness := (true, "70c01f2bfcc204bc4de513bb5534ac2ab9a5304d11017bf1ae724bf30b413d5a"), looks := false }, kinds := [], alts := [], laidByText := true, laidKinds := [.data], laidTests := true, laidLooks := .later }
def FnLoopOfUptoCardSaid : Prop := Claim7.holds Tryz.pinned (.plain (OpenSpec.upto fnLoopOfSpec)) fnLoopOfUptoCard

/-- THE SECOND FORM's CARD OF 'laws.FnDominatesThree'. -/
def fnDominatesThreeUptoCard : Claim7 := { stood := { row := fnDominatesThreeUptoRow, standIns := [], harness := (true, "70c01f2bfcc204bc4de513bb5534ac2ab9a5304d11017bf1ae724bf30b413d5a"), looks := false }, kinds := [], alts := [], laidByText := true, laidKinds := [.data], laidTests := true, laidLooks := .later }
def FnDominatesThreeUptoCardSaid : Prop := Claim7.holds Tryz.pinned (.plain (OpenSpec.upto fnDominatesThreeSpec)) fnDominatesThreeUptoCard

/-- THE SECOND FORM's CARD OF 'laws.FnFirstDominates'. -/
def fnFirstDominatesUptoCard : Claim7 := { stood := { row := fnFirstDominatesUptoRow, standIns := [], harness := (true, "70c01f2bfcc204bc4de513bb5534ac2ab9a5304d11017bf1ae724bf30b413d5a"), looks := false }, kinds := [], alts := [], laidByText := true, laidKinds := [.data], laidTests := true, laidLooks := .later }
def FnFirstDominatesUptoCardSaid : Prop := Claim7.holds Tryz.pinned (.plain (OpenSpec.upto fnFirstDominatesSpec)) fnFirstDominatesUptoCard

/-- THE SECOND FORM's CARD OF 'laws.FnReachesThree'. -/
def fnReachesThreeUptoCard : Claim7 := { stood := { row := fnReachesThreeUptoRow, standIns := [], harness := (true, "70c01f2bfcc204bc4de513bb5534ac2ab9a5304d11017bf1ae724bf30b413d5a"), looks := false }, kinds := [], alts := [], laidByText := true, laidKinds := [.data], laidTests := true, laidLooks := .later }
def FnReachesThreeUptoCardSaid : Prop := Claim7.holds Tryz.pinned (.plain (OpenSpec.upto fnReachesThreeSpec)) fnReachesThreeUptoCard
end Rows
end Go.Proofs.YtfkhgdbnjcdlmaaGreatDoor

/-
  DERIVED. GIVEN WITH THE SEED: THE CARDS: each row of YtekjdagcjijkaaaDoorRows.lean that lists a variable, with what it lists TIED to the program's text (the seventh form; the later family's looks); each row that meets fmt, with fmt's text TOLD by the authors' own Lean function (tested against real Go, not proved from fmt's source: count such statements apart). THE CARD IS WHAT COUNTS. Prove the row's statement (the work); the ties are given (YtekjdagcjijkaaaDoorTie.lean); close each card by the builder's one call (the guide's Derived/Test/ToyasCard.lean, 'card_holds'). Laid BY PROGRAM, IN A SANDBOX (cutbox-door.mjs). By AI agents, Wed Nov 11 2026. No macro, syntax, notation, axiom, sorry.
-/
import Derived.Test.YtekjdagcjijkaaaDoorRows
import GoSem.ClaimSeven
namespace Go.Proofs.YtekjdagcjijkaaaDoor
namespace Rows

/-- THE TIED CARD OF 'laws.FnExactDominates'. -/
def fnExactDominatesCard : Claim7 := { stood := { row := fnExactDominatesRow, standIns := [], harness := (true, "c5c52c1a05fda1925a387ca77203dbbf1792218953a2b296dfca8894bac71c2f"), looks := false }, kinds := [], alts := [], laidByText := true, laidKinds := [.data], laidTests := true, laidLooks := .later }
def FnExactDominatesCardSaid : Prop := Claim7.holds Tryd.pinned (.plain (OpenSpec.ofChange fnExactDominatesSpec)) fnExactDominatesCard

/-- THE TIED CARD OF 'laws.FnExactDominatorsOf'. -/
def fnExactDominatorsOfCard : Claim7 := { stood := { row := fnExactDominatorsOfRow, standIns := [], harness := (true, "c5c52c1a05fda1925a387ca77203dbbf1792218953a2b296dfca8894bac71c2f"), looks := false }, kinds := [], alts := [], laidByText := true, laidKinds := [.data], laidTests := true, laidLooks := .later }
def FnExactDominatorsOfCardSaid : Prop := Claim7.holds Tryd.pinned (.plain (OpenSpec.ofChange fnExactDominatorsOfSpec)) fnExactDominatorsOfCard

/-- THE TIED CARD OF 'laws.FnExactLastDominator'. -/
def fnExactLastDominatorCard : Claim7 := { stood := { row := fnExactLastDominatorRow, standIns := [], harness := (true, "c5c52c1a05fda1925a387ca77203dbbf1792218953a2b296dfca8894bac71c2f"), looks := false }, kinds := [], alts := [], laidByText := true, laidKinds := [.data], laidTests := true, laidLooks := .later }
def FnExactLastDominatorCardSaid : Prop := Claim7.holds Tryd.pinned (.plain (OpenSpec.ofChange fnExactLastDominatorSpec)) fnExactLastDominatorCard

/-- THE TIED CARD OF 'laws.FnExactAlwaysReaches'. -/
def fnExactAlwaysReachesCard : Claim7 := { stood := { row := fnExactAlwaysReachesRow, standIns := [], harness := (true, "c5c52c1a05fda1925a387ca77203dbbf1792218953a2b296dfca8894bac71c2f"), looks := false }, kinds := [], alts := [], laidByText := true, laidKinds := [.data], laidTests := true, laidLooks := .later }
def FnExactAlwaysReachesCardSaid : Prop := Claim7.holds Tryd.pinned (.plain (OpenSpec.ofChange fnExactAlwaysReachesSpec)) fnExactAlwaysReachesCard

/-- THE SECOND FORM's CARD OF 'laws.FnExactDominates'. -/
def fnExactDominatesUptoCard : Claim7 := { stood := { row := fnExactDominatesUptoRow, standIns := [], harness := (true, "c5c52c1a05fda1925a387ca77203dbbf1792218953a2b296dfca8894bac71c2f"), looks := false }, kinds := [], alts := [], laidByText := true, laidKinds := [.data], laidTests := true, laidLooks := .later }
def FnExactDominatesUptoCardSaid : Prop := Claim7.holds Tryd.pinned (.plain (OpenSpec.upto fnExactDominatesSpec)) fnExactDominatesUptoCard

/-- THE SECOND FORM's CARD OF 'laws.FnExactDominatorsOf'. -/
def fnExactDominatorsOfUptoCard : Claim7 := { stood := { row := fnExactDominatorsOfUptoRow, standIns := [], harness := (true, "c5c52c1a05fda1925a387ca77203dbbf1792218953a2b296dfca8894bac71c2f"), looks := false }, kinds := [], alts := [], laidByText := true, laidKinds := [.data], laidTests := true, laidLooks := .later }
def FnExactDominatorsOfUptoCardSaid : Prop := Claim7.holds Tryd.pinned (.plain (OpenSpec.upto fnExactDominatorsOfSpec)) fnExactDominatorsOfUptoCard

/-- THE SECOND FORM's CARD OF 'laws.FnExactLastDominator'. -/
def fnExactLastDominatorUptoCard : Claim7 := { stood := { row := fnExactLastDominatorUptoRow, standIns := [], harness := (true, "c5c52c1a05fda1925a387ca77203dbbf1792218953a2b296dfca8894bac71c2f"), looks := false }, kinds := [], alts := [], laidByText := true, laidKinds := [.data], laidTests := true, laidLooks := .later }
def FnExactLastDominatorUptoCardSaid : Prop := Claim7.holds Tryd.pinned (.plain (OpenSpec.upto fnExactLastDominatorSpec)) fnExactLastDominatorUptoCard

/-- THE SECOND FORM's CARD OF 'laws.FnExactAlwaysReaches'. -/
def fnExactAlwaysReachesUptoCard : Claim7 := { stood := { row := fnExactAlwaysReachesUptoRow, standIns := [], harness := (true, "c5c52c1a05fda1925a387ca77203dbbf1792218953a2b296dfca8894bac71c2f"), looks := false }, kinds := [], alts := [], laidByText := true, laidKinds := [.data], laidTests := true, laidLooks := .later }
def FnExactAlwaysReachesUptoCardSaid : Prop := Claim7.holds Tryd.pinned (.plain (OpenSpec.upto fnExactAlwaysReachesSpec)) fnExactAlwaysReachesUptoCard
end Rows
end Go.Proofs.YtekjdagcjijkaaaDoor

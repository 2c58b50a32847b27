/-
  DERIVED. GIVEN WITH THE SEED: THE CARDS: each row of YtbffldgiccijlaaDoorRows.lean that lists a variable, with what it lists TIED to the program's text (the seventh form; the later family's looks); each row that meets fmt, with fmt's text TOLD by the authors' own Lean function (tested against real Go, not proved from fmt's source: count such statements apart). THE CARD IS WHAT COUNTS. Prove the row's statement (the work); the ties are given (YtbffldgiccijlaaDoorTie.lean); close each card by the builder's one call (the guide's Derived/Test/ToyasCard.lean, 'card_holds'). Laid BY PROGRAM, IN A SANDBOX (cutbox-door.mjs). By AI agents, Wed Nov 11 2026. No macro, syntax, notation, axiom, sorry.
-/
import Derived.Test.YtbffldgiccijlaaDoorRows
import GoSem.ClaimSeven
namespace Go.Proofs.YtbffldgiccijlaaDoor
namespace Rows

/-- THE TIED CARD OF 'laws.FnEndReached'. -/
def fnEndReachedCard : Claim7 := { stood := { row := fnEndReachedRow, standIns := [], harness := (true, "b9a8ebde2238e8c9cc3744834b9c8ad2830396350f5557b6fa5e5b2a796d63f9"), looks := false }, kinds := [], alts := [], laidByText := true, laidKinds := [.data], laidTests := true, laidLooks := .later }
def FnEndReachedCardSaid : Prop := Claim7.holds Tryd.pinned (.plain (OpenSpec.ofChange fnEndReachedSpec)) fnEndReachedCard

/-- THE SECOND FORM's CARD OF 'laws.FnEndReached'. -/
def fnEndReachedUptoCard : Claim7 := { stood := { row := fnEndReachedUptoRow, standIns := [], harness := (true, "b9a8ebde2238e8c9cc3744834b9c8ad2830396350f5557b6fa5e5b2a796d63f9"), looks := false }, kinds := [], alts := [], laidByText := true, laidKinds := [.data], laidTests := true, laidLooks := .later }
def FnEndReachedUptoCardSaid : Prop := Claim7.holds Tryd.pinned (.plain (OpenSpec.upto fnEndReachedSpec)) fnEndReachedUptoCard
end Rows
end Go.Proofs.YtbffldgiccijlaaDoor

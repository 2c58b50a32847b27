/-
  DERIVED. GIVEN WITH THE SEED: THE CARDS: each row of YtcdidoapbbbkdaaGreatDoorRows.lean that lists a variable, with what it lists TIED to the program's text (the seventh form; the later family's looks); each row that meets fmt, with fmt's text TOLD by the authors' own Lean function (tested against real Go, not proved from fmt's source: count such statements apart). THE CARD IS WHAT COUNTS. Prove the row's statement (the work); the ties are given (YtcdidoapbbbkdaaGreatDoorTie.lean); close each card by the builder's one call (the guide's Derived/Test/ToyasCard.lean, 'card_holds'). Laid BY PROGRAM, IN A SANDBOX (cutbox-door.mjs). By AI agents, Wed Nov 11 2026. No macro, syntax, notation, axiom, sorry.
-/
import Derived.Test.YtcdidoapbbbkdaaGreatDoorRows
import GoSem.ClaimSeven
namespace Go.Proofs.YtcdidoapbbbkdaaGreatDoor
namespace Rows

/-- THE TIED CARD OF 'laws.FnAlwaysSet'. -/
def fnAlwaysSetCard : Claim7 := { stood := { row := fnAlwaysSetRow, standIns := [], harness := (true, "385fa4c2d0f729267aafa0182a9fadf578cf2c37f381376e54bc9b79c8758c79"), looks := false }, kinds := [], alts := [], laidByText := true, laidKinds := [.data], laidTests := true, laidLooks := .later }
def FnAlwaysSetCardSaid : Prop := Claim7.holds Tryz.pinned (.plain (OpenSpec.ofChange fnAlwaysSetSpec)) fnAlwaysSetCard

/-- THE TIED CARD OF 'laws.FnLiveAfter'. -/
def fnLiveAfterCard : Claim7 := { stood := { row := fnLiveAfterRow, standIns := [], harness := (true, "385fa4c2d0f729267aafa0182a9fadf578cf2c37f381376e54bc9b79c8758c79"), looks := false }, kinds := [], alts := [], laidByText := true, laidKinds := [.data], laidTests := true, laidLooks := .later }
def FnLiveAfterCardSaid : Prop := Claim7.holds Tryz.pinned (.plain (OpenSpec.ofChange fnLiveAfterSpec)) fnLiveAfterCard

/-- THE SECOND FORM's CARD OF 'laws.FnAlwaysSet'. -/
def fnAlwaysSetUptoCard : Claim7 := { stood := { row := fnAlwaysSetUptoRow, standIns := [], harness := (true, "385fa4c2d0f729267aafa0182a9fadf578cf2c37f381376e54bc9b79c8758c79"), looks := false }, kinds := [], alts := [], laidByText := true, laidKinds := [.data], laidTests := true, laidLooks := .later }
def FnAlwaysSetUptoCardSaid : Prop := Claim7.holds Tryz.pinned (.plain (OpenSpec.upto fnAlwaysSetSpec)) fnAlwaysSetUptoCard

/-- THE SECOND FORM's CARD OF 'laws.FnLiveAfter'. -/
def fnLiveAfterUptoCard : Claim7 := { stood := { row := fnLiveAfterUptoRow, standIns := [], harness := (true, "385fa4c2d0f729267aafa0182a9fadf578cf2c37f381376e54bc9b79c8758c79"), looks := false }, kinds := [], alts := [], laidByText := true, laidKinds := [.data], laidTests := true, laidLooks := .later }
def FnLiveAfterUptoCardSaid : Prop := Claim7.holds Tryz.pinned (.plain (OpenSpec.upto fnLiveAfterSpec)) fnLiveAfterUptoCard
end Rows
end Go.Proofs.YtcdidoapbbbkdaaGreatDoor

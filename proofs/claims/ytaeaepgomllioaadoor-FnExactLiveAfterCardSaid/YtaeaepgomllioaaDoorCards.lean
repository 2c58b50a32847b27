/-
  DERIVED. GIVEN WITH THE SEED: THE CARDS: each row of YtaeaepgomllioaaDoorRows.lean that lists a variable, with what it lists TIED to the program's text (the seventh form; the later family's looks); each row that meets fmt, with fmt's text TOLD by the authors' own Lean function (tested against real Go, not proved from fmt's source: count such statements apart). THE CARD IS WHAT COUNTS. Prove the row's statement (the work); the ties are given (YtaeaepgomllioaaDoorTie.lean); close each card by the builder's one call (the guide's Derived/Test/ToyasCard.lean, 'card_holds'). Laid BY PROGRAM, IN A SANDBOX (cutbox-door.mjs). By AI agents, Wed Nov 11 2026. No macro, syntax, notation, axiom, sorry.
-/
import Derived.Test.YtaeaepgomllioaaDoorRows
import GoSem.ClaimSeven
namespace Go.Proofs.YtaeaepgomllioaaDoor
namespace Rows

/-- THE TIED CARD OF 'laws.FnExactPathsFrom'. -/
def fnExactPathsFromCard : Claim7 := { stood := { row := fnExactPathsFromRow, standIns := [], harness := (true, "3be68ce1437c43b74faf53d492eec16903981c1b1dc721d5cb9adfda8a9e0797"), looks := false }, kinds := [], alts := [], laidByText := true, laidKinds := [.data], laidTests := true, laidLooks := .later }
def FnExactPathsFromCardSaid : Prop := Claim7.holds Tryd.pinned (.plain (OpenSpec.ofChange fnExactPathsFromSpec)) fnExactPathsFromCard

/-- THE TIED CARD OF 'laws.FnExactPathsTo'. -/
def fnExactPathsToCard : Claim7 := { stood := { row := fnExactPathsToRow, standIns := [], harness := (true, "3be68ce1437c43b74faf53d492eec16903981c1b1dc721d5cb9adfda8a9e0797"), looks := false }, kinds := [], alts := [], laidByText := true, laidKinds := [.data], laidTests := true, laidLooks := .later }
def FnExactPathsToCardSaid : Prop := Claim7.holds Tryd.pinned (.plain (OpenSpec.ofChange fnExactPathsToSpec)) fnExactPathsToCard

/-- THE TIED CARD OF 'laws.FnExactSetBy'. -/
def fnExactSetByCard : Claim7 := { stood := { row := fnExactSetByRow, standIns := [], harness := (true, "3be68ce1437c43b74faf53d492eec16903981c1b1dc721d5cb9adfda8a9e0797"), looks := false }, kinds := [], alts := [], laidByText := true, laidKinds := [.data], laidTests := true, laidLooks := .later }
def FnExactSetByCardSaid : Prop := Claim7.holds Tryd.pinned (.plain (OpenSpec.ofChange fnExactSetBySpec)) fnExactSetByCard

/-- THE TIED CARD OF 'laws.FnExactLiveAfter'. -/
def fnExactLiveAfterCard : Claim7 := { stood := { row := fnExactLiveAfterRow, standIns := [], harness := (true, "3be68ce1437c43b74faf53d492eec16903981c1b1dc721d5cb9adfda8a9e0797"), looks := false }, kinds := [], alts := [], laidByText := true, laidKinds := [.data], laidTests := true, laidLooks := .later }
def FnExactLiveAfterCardSaid : Prop := Claim7.holds Tryd.pinned (.plain (OpenSpec.ofChange fnExactLiveAfterSpec)) fnExactLiveAfterCard

/-- THE SECOND FORM's CARD OF 'laws.FnExactPathsFrom'. -/
def fnExactPathsFromUptoCard : Claim7 := { stood := { row := fnExactPathsFromUptoRow, standIns := [], harness := (true, "3be68ce1437c43b74faf53d492eec16903981c1b1dc721d5cb9adfda8a9e0797"), looks := false }, kinds := [], alts := [], laidByText := true, laidKinds := [.data], laidTests := true, laidLooks := .later }
def FnExactPathsFromUptoCardSaid : Prop := Claim7.holds Tryd.pinned (.plain (OpenSpec.upto fnExactPathsFromSpec)) fnExactPathsFromUptoCard

/-- THE SECOND FORM's CARD OF 'laws.FnExactPathsTo'. -/
def fnExactPathsToUptoCard : Claim7 := { stood := { row := fnExactPathsToUptoRow, standIns := [], harness := (true, "3be68ce1437c43b74faf53d492eec16903981c1b1dc721d5cb9adfda8a9e0797"), looks := false }, kinds := [], alts := [], laidByText := true, laidKinds := [.data], laidTests := true, laidLooks := .later }
def FnExactPathsToUptoCardSaid : Prop := Claim7.holds Tryd.pinned (.plain (OpenSpec.upto fnExactPathsToSpec)) fnExactPathsToUptoCard

/-- THE SECOND FORM's CARD OF 'laws.FnExactSetBy'. -/
def fnExactSetByUptoCard : Claim7 := { stood := { row := fnExactSetByUptoRow, standIns := [], harness := (true, "3be68ce1437c43b74faf53d492eec16903981c1b1dc721d5cb9adfda8a9e0797"), looks := false }, kinds := [], alts := [], laidByText := true, laidKinds := [.data], laidTests := true, laidLooks := .later }
def FnExactSetByUptoCardSaid : Prop := Claim7.holds Tryd.pinned (.plain (OpenSpec.upto fnExactSetBySpec)) fnExactSetByUptoCard

/-- THE SECOND FORM's CARD OF 'laws.FnExactLiveAfter'. -/
def fnExactLiveAfterUptoCard : Claim7 := { stood := { row := fnExactLiveAfterUptoRow, standIns := [], harness := (true, "3be68ce1437c43b74faf53d492eec16903981c1b1dc721d5cb9adfda8a9e0797"), looks := false }, kinds := [], alts := [], laidByText := true, laidKinds := [.data], laidTests := true, laidLooks := .later }
def FnExactLiveAfterUptoCardSaid : Prop := Claim7.holds Tryd.pinned (.plain (OpenSpec.upto fnExactLiveAfterSpec)) fnExactLiveAfterUptoCard
end Rows
end Go.Proofs.YtaeaepgomllioaaDoor

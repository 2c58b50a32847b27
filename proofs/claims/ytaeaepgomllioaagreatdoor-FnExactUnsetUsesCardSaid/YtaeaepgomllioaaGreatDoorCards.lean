/-
  DERIVED. GIVEN WITH THE SEED: THE CARDS: each row of YtaeaepgomllioaaGreatDoorRows.lean that lists a variable, with what it lists TIED to the program's text (the seventh form; the later family's looks); each row that meets fmt, with fmt's text TOLD by the authors' own Lean function (tested against real Go, not proved from fmt's source: count such statements apart). THE CARD IS WHAT COUNTS. Prove the row's statement (the work); the ties are given (YtaeaepgomllioaaGreatDoorTie.lean); close each card by the builder's one call (the guide's Derived/Test/ToyasCard.lean, 'card_holds'). Laid BY PROGRAM, IN A SANDBOX (cutbox-door.mjs). By AI agents, Wed Nov 11 2026. No macro, syntax, notation, axiom, sorry.
-/
import Derived.Test.YtaeaepgomllioaaGreatDoorRows
import GoSem.ClaimSeven
namespace Go.Proofs.YtaeaepgomllioaaGreatDoor
namespace Rows

/-- THE TIED CARD OF 'laws.FnExactAlwaysSet'. -/
def fnExactAlwaysSetCard : Claim7 := { stood := { row := fnExactAlwaysSetRow, standIns := [], harness := (true, "a628b68cbcb5581663142ff1ad951eba9a34147f0f75a570207b8450ed403994"), looks := false }, kinds := [], alts := [], laidByText := true, laidKinds := [.data], laidTests := true, laidLooks := .later }
def FnExactAlwaysSetCardSaid : Prop := Claim7.holds Tryz.pinned (.plain (OpenSpec.ofChange fnExactAlwaysSetSpec)) fnExactAlwaysSetCard

/-- THE TIED CARD OF 'laws.FnExactMaybeSet'. -/
def fnExactMaybeSetCard : Claim7 := { stood := { row := fnExactMaybeSetRow, standIns := [], harness := (true, "a628b68cbcb5581663142ff1ad951eba9a34147f0f75a570207b8450ed403994"), looks := false }, kinds := [], alts := [], laidByText := true, laidKinds := [.data], laidTests := true, laidLooks := .later }
def FnExactMaybeSetCardSaid : Prop := Claim7.holds Tryz.pinned (.plain (OpenSpec.ofChange fnExactMaybeSetSpec)) fnExactMaybeSetCard

/-- THE TIED CARD OF 'laws.FnExactUnsetUses'. -/
def fnExactUnsetUsesCard : Claim7 := { stood := { row := fnExactUnsetUsesRow, standIns := [], harness := (true, "a628b68cbcb5581663142ff1ad951eba9a34147f0f75a570207b8450ed403994"), looks := false }, kinds := [], alts := [], laidByText := true, laidKinds := [.data], laidTests := true, laidLooks := .later }
def FnExactUnsetUsesCardSaid : Prop := Claim7.holds Tryz.pinned (.plain (OpenSpec.ofChange fnExactUnsetUsesSpec)) fnExactUnsetUsesCard

/-- THE TIED CARD OF 'laws.FnAlwaysSet'. -/
def fnAlwaysSetCard : Claim7 := { stood := { row := fnAlwaysSetRow, standIns := [], harness := (true, "a628b68cbcb5581663142ff1ad951eba9a34147f0f75a570207b8450ed403994"), looks := false }, kinds := [], alts := [], laidByText := true, laidKinds := [.data], laidTests := true, laidLooks := .later }
def FnAlwaysSetCardSaid : Prop := Claim7.holds Tryz.pinned (.plain (OpenSpec.ofChange fnAlwaysSetSpec)) fnAlwaysSetCard

/-- THE SECOND FORM's CARD OF 'laws.FnExactAlwaysSet'. -/
def fnExactAlwaysSetUptoCard : Claim7 := { stood := { row := fnExactAlwaysSetUptoRow, standIns := [], harness := (true, "a628b68cbcb5581663142ff1ad951eba9a34147f0f75a570207b8450ed403994"), looks := false }, kinds := [], alts := [], laidByText := true, laidKinds := [.data], laidTests := true, laidLooks := .later }
def FnExactAlwaysSetUptoCardSaid : Prop := Claim7.holds Tryz.pinned (.plain (OpenSpec.upto fnExactAlwaysSetSpec)) fnExactAlwaysSetUptoCard

/-- THE SECOND FORM's CARD OF 'laws.FnExactMaybeSet'. -/
def fnExactMaybeSetUptoCard : Claim7 := { stood := { row := fnExactMaybeSetUptoRow, standIns := [], harness := (true, "a628b68cbcb5581663142ff1ad951eba9a34147f0f75a570207b8450ed403994"), looks := false }, kinds := [], alts := [], laidByText := true, laidKinds := [.data], laidTests := true, laidLooks := .later }
def FnExactMaybeSetUptoCardSaid : Prop := Claim7.holds Tryz.pinned (.plain (OpenSpec.upto fnExactMaybeSetSpec)) fnExactMaybeSetUptoCard

/-- THE SECOND FORM's CARD OF 'laws.FnExactUnsetUses'. -/
def fnExactUnsetUsesUptoCard : Claim7 := { stood := { row := fnExactUnsetUsesUptoRow, standIns := [], harness := (true, "a628b68cbcb5581663142ff1ad951eba9a34147f0f75a570207b8450ed403994"), looks := false }, kinds := [], alts := [], laidByText := true, laidKinds := [.data], laidTests := true, laidLooks := .later }
def FnExactUnsetUsesUptoCardSaid : Prop := Claim7.holds Tryz.pinned (.plain (OpenSpec.upto fnExactUnsetUsesSpec)) fnExactUnsetUsesUptoCard

/-- THE SECOND FORM's CARD OF 'laws.FnAlwaysSet'. -/
def fnAlwaysSetUptoCard : Claim7 := { stood := { row := fnAlwaysSetUptoRow, standIns := [], harness := (true, "a628b68cbcb5581663142ff1ad951eba9a34147f0f75a570207b8450ed403994"), looks := false }, kinds := [], alts := [], laidByText := true, laidKinds := [.data], laidTests := true, laidLooks := .later }
def FnAlwaysSetUptoCardSaid : Prop := Claim7.holds Tryz.pinned (.plain (OpenSpec.upto fnAlwaysSetSpec)) fnAlwaysSetUptoCard
end Rows
end Go.Proofs.YtaeaepgomllioaaGreatDoor

/-
  DERIVED. GIVEN WITH THE SEED: THE CARDS: each row of YtbffldgiccijlaaGreatDoorRows.lean that lists a variable, with what it lists TIED to the program's text (the seventh form; the later family's looks); each row that meets fmt, with fmt's text TOLD by the authors' own Lean function (tested against real Go, not proved from fmt's source: count such statements apart). THE CARD IS WHAT COUNTS. Prove the row's statement (the work); the ties are given (YtbffldgiccijlaaGreatDoorTie.lean); close each card by the builder's one call (the guide's Derived/Test/ToyasCard.lean, 'card_holds'). Laid BY PROGRAM, IN A SANDBOX (cutbox-door.mjs). By AI agents, Wed Nov 11 2026. No macro, syntax, notation, axiom, sorry.
-/
import Derived.Test.YtbffldgiccijlaaGreatDoorRows
import GoSem.ClaimSeven
namespace Go.Proofs.YtbffldgiccijlaaGreatDoor
namespace Rows

/-- THE TIED CARD OF 'laws.FnPathsFrom'. -/
def fnPathsFromCard : Claim7 := { stood := { row := fnPathsFromRow, standIns := [], harness := (true, "ca4b1107ca120ec6fe4617b652e9a3e2f83b69ff52ae50c919f96cc733ce0d93"), looks := false }, kinds := [], alts := [], laidByText := true, laidKinds := [.data], laidTests := true, laidLooks := .later }
def FnPathsFromCardSaid : Prop := Claim7.holds Tryz.pinned (.plain (OpenSpec.ofChange fnPathsFromSpec)) fnPathsFromCard

/-- THE TIED CARD OF 'laws.FnPathsTo'. -/
def fnPathsToCard : Claim7 := { stood := { row := fnPathsToRow, standIns := [], harness := (true, "ca4b1107ca120ec6fe4617b652e9a3e2f83b69ff52ae50c919f96cc733ce0d93"), looks := false }, kinds := [], alts := [], laidByText := true, laidKinds := [.data], laidTests := true, laidLooks := .later }
def FnPathsToCardSaid : Prop := Claim7.holds Tryz.pinned (.plain (OpenSpec.ofChange fnPathsToSpec)) fnPathsToCard

/-- THE TIED CARD OF 'laws.FnUseOf'. -/
def fnUseOfCard : Claim7 := { stood := { row := fnUseOfRow, standIns := [], harness := (true, "ca4b1107ca120ec6fe4617b652e9a3e2f83b69ff52ae50c919f96cc733ce0d93"), looks := false }, kinds := [], alts := [], laidByText := true, laidKinds := [.data], laidTests := true, laidLooks := .later }
def FnUseOfCardSaid : Prop := Claim7.holds Tryz.pinned (.plain (OpenSpec.ofChange fnUseOfSpec)) fnUseOfCard

/-- THE TIED CARD OF 'laws.FnSetAfter'. -/
def fnSetAfterCard : Claim7 := { stood := { row := fnSetAfterRow, standIns := [], harness := (true, "ca4b1107ca120ec6fe4617b652e9a3e2f83b69ff52ae50c919f96cc733ce0d93"), looks := false }, kinds := [], alts := [], laidByText := true, laidKinds := [.data], laidTests := true, laidLooks := .later }
def FnSetAfterCardSaid : Prop := Claim7.holds Tryz.pinned (.plain (OpenSpec.ofChange fnSetAfterSpec)) fnSetAfterCard

/-- THE TIED CARD OF 'laws.FnFirstSet'. -/
def fnFirstSetCard : Claim7 := { stood := { row := fnFirstSetRow, standIns := [], harness := (true, "ca4b1107ca120ec6fe4617b652e9a3e2f83b69ff52ae50c919f96cc733ce0d93"), looks := false }, kinds := [], alts := [], laidByText := true, laidKinds := [.data], laidTests := true, laidLooks := .later }
def FnFirstSetCardSaid : Prop := Claim7.holds Tryz.pinned (.plain (OpenSpec.ofChange fnFirstSetSpec)) fnFirstSetCard

/-- THE TIED CARD OF 'laws.FnEndLive'. -/
def fnEndLiveCard : Claim7 := { stood := { row := fnEndLiveRow, standIns := [], harness := (true, "ca4b1107ca120ec6fe4617b652e9a3e2f83b69ff52ae50c919f96cc733ce0d93"), looks := false }, kinds := [], alts := [], laidByText := true, laidKinds := [.data], laidTests := true, laidLooks := .later }
def FnEndLiveCardSaid : Prop := Claim7.holds Tryz.pinned (.plain (OpenSpec.ofChange fnEndLiveSpec)) fnEndLiveCard

/-- THE TIED CARD OF 'laws.FnUnsetFirst'. -/
def fnUnsetFirstCard : Claim7 := { stood := { row := fnUnsetFirstRow, standIns := [], harness := (true, "ca4b1107ca120ec6fe4617b652e9a3e2f83b69ff52ae50c919f96cc733ce0d93"), looks := false }, kinds := [], alts := [], laidByText := true, laidKinds := [.data], laidTests := true, laidLooks := .later }
def FnUnsetFirstCardSaid : Prop := Claim7.holds Tryz.pinned (.plain (OpenSpec.ofChange fnUnsetFirstSpec)) fnUnsetFirstCard

/-- THE TIED CARD OF 'laws.FnUnsetUses'. -/
def fnUnsetUsesCard : Claim7 := { stood := { row := fnUnsetUsesRow, standIns := [], harness := (true, "ca4b1107ca120ec6fe4617b652e9a3e2f83b69ff52ae50c919f96cc733ce0d93"), looks := false }, kinds := [], alts := [], laidByText := true, laidKinds := [.data], laidTests := true, laidLooks := .later }
def FnUnsetUsesCardSaid : Prop := Claim7.holds Tryz.pinned (.plain (OpenSpec.ofChange fnUnsetUsesSpec)) fnUnsetUsesCard

/-- THE TIED CARD OF 'laws.FnLiveStep'. -/
def fnLiveStepCard : Claim7 := { stood := { row := fnLiveStepRow, standIns := [], harness := (true, "ca4b1107ca120ec6fe4617b652e9a3e2f83b69ff52ae50c919f96cc733ce0d93"), looks := false }, kinds := [], alts := [], laidByText := true, laidKinds := [.data], laidTests := true, laidLooks := .later }
def FnLiveStepCardSaid : Prop := Claim7.holds Tryz.pinned (.plain (OpenSpec.ofChange fnLiveStepSpec)) fnLiveStepCard

/-- THE SECOND FORM's CARD OF 'laws.FnPathsFrom'. -/
def fnPathsFromUptoCard : Claim7 := { stood := { row := fnPathsFromUptoRow, standIns := [], harness := (true, "ca4b1107ca120ec6fe4617b652e9a3e2f83b69ff52ae50c919f96cc733ce0d93"), looks := false }, kinds := [], alts := [], laidByText := true, laidKinds := [.data], laidTests := true, laidLooks := .later }
def FnPathsFromUptoCardSaid : Prop := Claim7.holds Tryz.pinned (.plain (OpenSpec.upto fnPathsFromSpec)) fnPathsFromUptoCard

/-- THE SECOND FORM's CARD OF 'laws.FnPathsTo'. -/
def fnPathsToUptoCard : Claim7 := { stood := { row := fnPathsToUptoRow, standIns := [], harness := (true, "ca4b1107ca120ec6fe4617b652e9a3e2f83b69ff52ae50c919f96cc733ce0d93"), looks := false }, kinds := [], alts := [], laidByText := true, laidKinds := [.data], laidTests := true, laidLooks := .later }
def FnPathsToUptoCardSaid : Prop := Claim7.holds Tryz.pinned (.plain (OpenSpec.upto fnPathsToSpec)) fnPathsToUptoCard

/-- THE SECOND FORM's CARD OF 'laws.FnUseOf'. -/
def fnUseOfUptoCard : Claim7 := { stood := { row := fnUseOfUptoRow, standIns := [], harness := (true, "ca4b1107ca120ec6fe4617b652e9a3e2f83b69ff52ae50c919f96cc733ce0d93"), looks := false }, kinds := [], alts := [], laidByText := true, laidKinds := [.data], laidTests := true, laidLooks := .later }
def FnUseOfUptoCardSaid : Prop := Claim7.holds Tryz.pinned (.plain (OpenSpec.upto fnUseOfSpec)) fnUseOfUptoCard

/-- THE SECOND FORM's CARD OF 'laws.FnSetAfter'. -/
def fnSetAfterUptoCard : Claim7 := { stood := { row := fnSetAfterUptoRow, standIns := [], harness := (true, "ca4b1107ca120ec6fe4617b652e9a3e2f83b69ff52ae50c919f96cc733ce0d93"), looks := false }, kinds := [], alts := [], laidByText := true, laidKinds := [.data], laidTests := true, laidLooks := .later }
def FnSetAfterUptoCardSaid : Prop := Claim7.holds Tryz.pinned (.plain (OpenSpec.upto fnSetAfterSpec)) fnSetAfterUptoCard

/-- THE SECOND FORM's CARD OF 'laws.FnFirstSet'. -/
def fnFirstSetUptoCard : Claim7 := { stood := { row := fnFirstSetUptoRow, standIns := [], harness := (true, "ca4b1107ca120ec6fe4617b652e9a3e2f83b69ff52ae50c919f96cc733ce0d93"), looks := false }, kinds := [], alts := [], laidByText := true, laidKinds := [.data], laidTests := true, laidLooks := .later }
def FnFirstSetUptoCardSaid : Prop := Claim7.holds Tryz.pinned (.plain (OpenSpec.upto fnFirstSetSpec)) fnFirstSetUptoCard

/-- THE SECOND FORM's CARD OF 'laws.FnEndLive'. -/
def fnEndLiveUptoCard : Claim7 := { stood := { row := fnEndLiveUptoRow, standIns := [], harness := (true, "ca4b1107ca120ec6fe4617b652e9a3e2f83b69ff52ae50c919f96cc733ce0d93"), looks := false }, kinds := [], alts := [], laidByText := true, laidKinds := [.data], laidTests := true, laidLooks := .later }
def FnEndLiveUptoCardSaid : Prop := Claim7.holds Tryz.pinned (.plain (OpenSpec.upto fnEndLiveSpec)) fnEndLiveUptoCard

/-- THE SECOND FORM's CARD OF 'laws.FnUnsetFirst'. -/
def fnUnsetFirstUptoCard : Claim7 := { stood := { row := fnUnsetFirstUptoRow, standIns := [], harness := (true, "ca4b1107ca120ec6fe4617b652e9a3e2f83b69ff52ae50c919f96cc733ce0d93"), looks := false }, kinds := [], alts := [], laidByText := true, laidKinds := [.data], laidTests := true, laidLooks := .later }
def FnUnsetFirstUptoCardSaid : Prop := Claim7.holds Tryz.pinned (.plain (OpenSpec.upto fnUnsetFirstSpec)) fnUnsetFirstUptoCard

/-- THE SECOND FORM's CARD OF 'laws.FnUnsetUses'. -/
def fnUnsetUsesUptoCard : Claim7 := { stood := { row := fnUnsetUsesUptoRow, standIns := [], harness := (true, "ca4b1107ca120ec6fe4617b652e9a3e2f83b69ff52ae50c919f96cc733ce0d93"), looks := false }, kinds := [], alts := [], laidByText := true, laidKinds := [.data], laidTests := true, laidLooks := .later }
def FnUnsetUsesUptoCardSaid : Prop := Claim7.holds Tryz.pinned (.plain (OpenSpec.upto fnUnsetUsesSpec)) fnUnsetUsesUptoCard

/-- THE SECOND FORM's CARD OF 'laws.FnLiveStep'. -/
def fnLiveStepUptoCard : Claim7 := { stood := { row := fnLiveStepUptoRow, standIns := [], harness := (true, "ca4b1107ca120ec6fe4617b652e9a3e2f83b69ff52ae50c919f96cc733ce0d93"), looks := false }, kinds := [], alts := [], laidByText := true, laidKinds := [.data], laidTests := true, laidLooks := .later }
def FnLiveStepUptoCardSaid : Prop := Claim7.holds Tryz.pinned (.plain (OpenSpec.upto fnLiveStepSpec)) fnLiveStepUptoCard
end Rows
end Go.Proofs.YtbffldgiccijlaaGreatDoor

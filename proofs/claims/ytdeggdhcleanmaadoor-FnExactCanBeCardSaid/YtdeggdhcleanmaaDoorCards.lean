/-
  DERIVED. GIVEN WITH THE SEED: THE CARDS: each row of YtdeggdhcleanmaaDoorRows.lean that lists a variable, with what it lists TIED to the program's text (the seventh form; the later family's looks); each row that meets fmt, with fmt's text TOLD by the authors' own Lean function (tested against real Go, not proved from fmt's source: count such statements apart). THE CARD IS WHAT COUNTS. Prove the row's statement (the work); the ties are given (YtdeggdhcleanmaaDoorTie.lean); close each card by the builder's one call (the guide's Derived/Test/ToyasCard.lean, 'card_holds'). Laid BY PROGRAM, IN A SANDBOX (cutbox-door.mjs). By AI agents, Wed Nov 11 2026. No macro, syntax, notation, axiom, sorry.
-/
import Derived.Test.YtdeggdhcleanmaaDoorRows
import GoSem.ClaimSeven
namespace Go.Proofs.YtdeggdhcleanmaaDoor
namespace Rows

/-- THE TIED CARD OF 'laws.FnExactVisited'. -/
def fnExactVisitedCard : Claim7 := { stood := { row := fnExactVisitedRow, standIns := [], harness := (true, "12f3dd0b99c3231bd9c7c0049581dec747397166eb2e7cabc6db5377c14b6086"), looks := false }, kinds := [], alts := [], laidByText := true, laidKinds := [.data], laidTests := true, laidLooks := .later }
def FnExactVisitedCardSaid : Prop := Claim7.holds Tryd.pinned (.plain (OpenSpec.ofChange fnExactVisitedSpec)) fnExactVisitedCard

/-- THE TIED CARD OF 'laws.FnExactCanBe'. -/
def fnExactCanBeCard : Claim7 := { stood := { row := fnExactCanBeRow, standIns := [], harness := (true, "12f3dd0b99c3231bd9c7c0049581dec747397166eb2e7cabc6db5377c14b6086"), looks := false }, kinds := [], alts := [], laidByText := true, laidKinds := [.data], laidTests := true, laidLooks := .later }
def FnExactCanBeCardSaid : Prop := Claim7.holds Tryd.pinned (.plain (OpenSpec.ofChange fnExactCanBeSpec)) fnExactCanBeCard

/-- THE TIED CARD OF 'laws.FnExactSeen'. -/
def fnExactSeenCard : Claim7 := { stood := { row := fnExactSeenRow, standIns := [], harness := (true, "12f3dd0b99c3231bd9c7c0049581dec747397166eb2e7cabc6db5377c14b6086"), looks := false }, kinds := [], alts := [], laidByText := true, laidKinds := [.data], laidTests := true, laidLooks := .later }
def FnExactSeenCardSaid : Prop := Claim7.holds Tryd.pinned (.plain (OpenSpec.ofChange fnExactSeenSpec)) fnExactSeenCard

/-- THE TIED CARD OF 'laws.FnExactPlacesAfter'. -/
def fnExactPlacesAfterCard : Claim7 := { stood := { row := fnExactPlacesAfterRow, standIns := [], harness := (true, "12f3dd0b99c3231bd9c7c0049581dec747397166eb2e7cabc6db5377c14b6086"), looks := false }, kinds := [], alts := [], laidByText := true, laidKinds := [.data], laidTests := true, laidLooks := .later }
def FnExactPlacesAfterCardSaid : Prop := Claim7.holds Tryd.pinned (.plain (OpenSpec.ofChange fnExactPlacesAfterSpec)) fnExactPlacesAfterCard

/-- THE TIED CARD OF 'laws.FnExactAreTents'. -/
def fnExactAreTentsCard : Claim7 := { stood := { row := fnExactAreTentsRow, standIns := [], harness := (true, "12f3dd0b99c3231bd9c7c0049581dec747397166eb2e7cabc6db5377c14b6086"), looks := false }, kinds := [], alts := [], laidByText := true, laidKinds := [.data], laidTests := true, laidLooks := .later }
def FnExactAreTentsCardSaid : Prop := Claim7.holds Tryd.pinned (.plain (OpenSpec.ofChange fnExactAreTentsSpec)) fnExactAreTentsCard

/-- THE TIED CARD OF 'laws.FnExactPutUp'. -/
def fnExactPutUpCard : Claim7 := { stood := { row := fnExactPutUpRow, standIns := [], harness := (true, "12f3dd0b99c3231bd9c7c0049581dec747397166eb2e7cabc6db5377c14b6086"), looks := false }, kinds := [], alts := [], laidByText := true, laidKinds := [.data], laidTests := true, laidLooks := .later }
def FnExactPutUpCardSaid : Prop := Claim7.holds Tryd.pinned (.plain (OpenSpec.ofChange fnExactPutUpSpec)) fnExactPutUpCard

/-- THE TIED CARD OF 'laws.FnExactTentOf'. -/
def fnExactTentOfCard : Claim7 := { stood := { row := fnExactTentOfRow, standIns := [], harness := (true, "12f3dd0b99c3231bd9c7c0049581dec747397166eb2e7cabc6db5377c14b6086"), looks := false }, kinds := [], alts := [], laidByText := true, laidKinds := [.data], laidTests := true, laidLooks := .later }
def FnExactTentOfCardSaid : Prop := Claim7.holds Tryd.pinned (.plain (OpenSpec.ofChange fnExactTentOfSpec)) fnExactTentOfCard

/-- THE TIED CARD OF 'laws.FnExactBedsFree'. -/
def fnExactBedsFreeCard : Claim7 := { stood := { row := fnExactBedsFreeRow, standIns := [], harness := (true, "12f3dd0b99c3231bd9c7c0049581dec747397166eb2e7cabc6db5377c14b6086"), looks := false }, kinds := [], alts := [], laidByText := true, laidKinds := [.data], laidTests := true, laidLooks := .later }
def FnExactBedsFreeCardSaid : Prop := Claim7.holds Tryd.pinned (.plain (OpenSpec.ofChange fnExactBedsFreeSpec)) fnExactBedsFreeCard

/-- THE TIED CARD OF 'laws.FnExactMoveTo'. -/
def fnExactMoveToCard : Claim7 := { stood := { row := fnExactMoveToRow, standIns := [], harness := (true, "12f3dd0b99c3231bd9c7c0049581dec747397166eb2e7cabc6db5377c14b6086"), looks := false }, kinds := [], alts := [], laidByText := true, laidKinds := [.data], laidTests := true, laidLooks := .later }
def FnExactMoveToCardSaid : Prop := Claim7.holds Tryd.pinned (.plain (OpenSpec.ofChange fnExactMoveToSpec)) fnExactMoveToCard

/-- THE SECOND FORM's CARD OF 'laws.FnExactVisited'. -/
def fnExactVisitedUptoCard : Claim7 := { stood := { row := fnExactVisitedUptoRow, standIns := [], harness := (true, "12f3dd0b99c3231bd9c7c0049581dec747397166eb2e7cabc6db5377c14b6086"), looks := false }, kinds := [], alts := [], laidByText := true, laidKinds := [.data], laidTests := true, laidLooks := .later }
def FnExactVisitedUptoCardSaid : Prop := Claim7.holds Tryd.pinned (.plain (OpenSpec.upto fnExactVisitedSpec)) fnExactVisitedUptoCard

/-- THE SECOND FORM's CARD OF 'laws.FnExactCanBe'. -/
def fnExactCanBeUptoCard : Claim7 := { stood := { row := fnExactCanBeUptoRow, standIns := [], harness := (true, "12f3dd0b99c3231bd9c7c0049581dec747397166eb2e7cabc6db5377c14b6086"), looks := false }, kinds := [], alts := [], laidByText := true, laidKinds := [.data], laidTests := true, laidLooks := .later }
def FnExactCanBeUptoCardSaid : Prop := Claim7.holds Tryd.pinned (.plain (OpenSpec.upto fnExactCanBeSpec)) fnExactCanBeUptoCard

/-- THE SECOND FORM's CARD OF 'laws.FnExactSeen'. -/
def fnExactSeenUptoCard : Claim7 := { stood := { row := fnExactSeenUptoRow, standIns := [], harness := (true, "12f3dd0b99c3231bd9c7c0049581dec747397166eb2e7cabc6db5377c14b6086"), looks := false }, kinds := [], alts := [], laidByText := true, laidKinds := [.data], laidTests := true, laidLooks := .later }
def FnExactSeenUptoCardSaid : Prop := Claim7.holds Tryd.pinned (.plain (OpenSpec.upto fnExactSeenSpec)) fnExactSeenUptoCard

/-- THE SECOND FORM's CARD OF 'laws.FnExactPlacesAfter'. -/
def fnExactPlacesAfterUptoCard : Claim7 := { stood := { row := fnExactPlacesAfterUptoRow, standIns := [], harness := (true, "12f3dd0b99c3231bd9c7c0049581dec747397166eb2e7cabc6db5377c14b6086"), looks := false }, kinds := [], alts := [], laidByText := true, laidKinds := [.data], laidTests := true, laidLooks := .later }
def FnExactPlacesAfterUptoCardSaid : Prop := Claim7.holds Tryd.pinned (.plain (OpenSpec.upto fnExactPlacesAfterSpec)) fnExactPlacesAfterUptoCard

/-- THE SECOND FORM's CARD OF 'laws.FnExactAreTents'. -/
def fnExactAreTentsUptoCard : Claim7 := { stood := { row := fnExactAreTentsUptoRow, standIns := [], harness := (true, "12f3dd0b99c3231bd9c7c0049581dec747397166eb2e7cabc6db5377c14b6086"), looks := false }, kinds := [], alts := [], laidByText := true, laidKinds := [.data], laidTests := true, laidLooks := .later }
def FnExactAreTentsUptoCardSaid : Prop := Claim7.holds Tryd.pinned (.plain (OpenSpec.upto fnExactAreTentsSpec)) fnExactAreTentsUptoCard

/-- THE SECOND FORM's CARD OF 'laws.FnExactPutUp'. -/
def fnExactPutUpUptoCard : Claim7 := { stood := { row := fnExactPutUpUptoRow, standIns := [], harness := (true, "12f3dd0b99c3231bd9c7c0049581dec747397166eb2e7cabc6db5377c14b6086"), looks := false }, kinds := [], alts := [], laidByText := true, laidKinds := [.data], laidTests := true, laidLooks := .later }
def FnExactPutUpUptoCardSaid : Prop := Claim7.holds Tryd.pinned (.plain (OpenSpec.upto fnExactPutUpSpec)) fnExactPutUpUptoCard

/-- THE SECOND FORM's CARD OF 'laws.FnExactTentOf'. -/
def fnExactTentOfUptoCard : Claim7 := { stood := { row := fnExactTentOfUptoRow, standIns := [], harness := (true, "12f3dd0b99c3231bd9c7c0049581dec747397166eb2e7cabc6db5377c14b6086"), looks := false }, kinds := [], alts := [], laidByText := true, laidKinds := [.data], laidTests := true, laidLooks := .later }
def FnExactTentOfUptoCardSaid : Prop := Claim7.holds Tryd.pinned (.plain (OpenSpec.upto fnExactTentOfSpec)) fnExactTentOfUptoCard

/-- THE SECOND FORM's CARD OF 'laws.FnExactBedsFree'. -/
def fnExactBedsFreeUptoCard : Claim7 := { stood := { row := fnExactBedsFreeUptoRow, standIns := [], harness := (true, "12f3dd0b99c3231bd9c7c0049581dec747397166eb2e7cabc6db5377c14b6086"), looks := false }, kinds := [], alts := [], laidByText := true, laidKinds := [.data], laidTests := true, laidLooks := .later }
def FnExactBedsFreeUptoCardSaid : Prop := Claim7.holds Tryd.pinned (.plain (OpenSpec.upto fnExactBedsFreeSpec)) fnExactBedsFreeUptoCard

/-- THE SECOND FORM's CARD OF 'laws.FnExactMoveTo'. -/
def fnExactMoveToUptoCard : Claim7 := { stood := { row := fnExactMoveToUptoRow, standIns := [], harness := (true, "12f3dd0b99c3231bd9c7c0049581dec747397166eb2e7cabc6db5377c14b6086"), looks := false }, kinds := [], alts := [], laidByText := true, laidKinds := [.data], laidTests := true, laidLooks := .later }
def FnExactMoveToUptoCardSaid : Prop := Claim7.holds Tryd.pinned (.plain (OpenSpec.upto fnExactMoveToSpec)) fnExactMoveToUptoCard
end Rows
end Go.Proofs.YtdeggdhcleanmaaDoor

/-
  DERIVED. GIVEN WITH THE SEED: THE CARDS: each row of YtlhbnkjijggfaaaDoorRows.lean that lists a variable, with what it lists TIED to the program's text (the seventh form; the later family's looks); each row that meets fmt, with fmt's text TOLD by the authors' own Lean function (tested against real Go, not proved from fmt's source: count such statements apart). THE CARD IS WHAT COUNTS. Prove the row's statement (the work); the ties are given (YtlhbnkjijggfaaaDoorTie.lean); close each card by the builder's one call (the guide's Derived/Test/ToyasCard.lean, 'card_holds'). Laid BY PROGRAM, IN A SANDBOX (cutbox-door.mjs). By AI agents, Wed Nov 11 2026. No macro, syntax, notation, axiom, sorry.
-/
import Derived.Test.YtlhbnkjijggfaaaDoorRows
import GoSem.ClaimSeven
namespace Go.Proofs.YtlhbnkjijggfaaaDoor
namespace Rows

/-- THE TIED CARD OF 'laws.FnExactIsJournal'. -/
def fnExactIsJournalCard : Claim7 := { stood := { row := fnExactIsJournalRow, standIns := [], harness := (true, "65b6aa2743be7e3c227681b4250afdc15905c5186e82df250ce991ef2a3790e1"), looks := false }, kinds := [], alts := [], laidByText := true, laidKinds := [.data], laidTests := true, laidLooks := .later }
def FnExactIsJournalCardSaid : Prop := Claim7.holds Tryd.pinned (.plain (OpenSpec.ofChange fnExactIsJournalSpec)) fnExactIsJournalCard

/-- THE TIED CARD OF 'laws.FnExactWritePage'. -/
def fnExactWritePageCard : Claim7 := { stood := { row := fnExactWritePageRow, standIns := [], harness := (true, "65b6aa2743be7e3c227681b4250afdc15905c5186e82df250ce991ef2a3790e1"), looks := false }, kinds := [], alts := [], laidByText := true, laidKinds := [.data], laidTests := true, laidLooks := .later }
def FnExactWritePageCardSaid : Prop := Claim7.holds Tryd.pinned (.plain (OpenSpec.ofChange fnExactWritePageSpec)) fnExactWritePageCard

/-- THE TIED CARD OF 'laws.FnExactCellOn'. -/
def fnExactCellOnCard : Claim7 := { stood := { row := fnExactCellOnRow, standIns := [], harness := (true, "65b6aa2743be7e3c227681b4250afdc15905c5186e82df250ce991ef2a3790e1"), looks := false }, kinds := [], alts := [], laidByText := true, laidKinds := [.data], laidTests := true, laidLooks := .later }
def FnExactCellOnCardSaid : Prop := Claim7.holds Tryd.pinned (.plain (OpenSpec.ofChange fnExactCellOnSpec)) fnExactCellOnCard

/-- THE TIED CARD OF 'laws.FnExactEatenBetween'. -/
def fnExactEatenBetweenCard : Claim7 := { stood := { row := fnExactEatenBetweenRow, standIns := [], harness := (true, "65b6aa2743be7e3c227681b4250afdc15905c5186e82df250ce991ef2a3790e1"), looks := false }, kinds := [], alts := [], laidByText := true, laidKinds := [.data], laidTests := true, laidLooks := .later }
def FnExactEatenBetweenCardSaid : Prop := Claim7.holds Tryd.pinned (.plain (OpenSpec.ofChange fnExactEatenBetweenSpec)) fnExactEatenBetweenCard

/-- THE TIED CARD OF 'laws.FnExactLowestFood'. -/
def fnExactLowestFoodCard : Claim7 := { stood := { row := fnExactLowestFoodRow, standIns := [], harness := (true, "65b6aa2743be7e3c227681b4250afdc15905c5186e82df250ce991ef2a3790e1"), looks := false }, kinds := [], alts := [], laidByText := true, laidKinds := [.data], laidTests := true, laidLooks := .later }
def FnExactLowestFoodCardSaid : Prop := Claim7.holds Tryd.pinned (.plain (OpenSpec.ofChange fnExactLowestFoodSpec)) fnExactLowestFoodCard

/-- THE TIED CARD OF 'laws.FnExactFirstAt'. -/
def fnExactFirstAtCard : Claim7 := { stood := { row := fnExactFirstAtRow, standIns := [], harness := (true, "65b6aa2743be7e3c227681b4250afdc15905c5186e82df250ce991ef2a3790e1"), looks := false }, kinds := [], alts := [], laidByText := true, laidKinds := [.data], laidTests := true, laidLooks := .later }
def FnExactFirstAtCardSaid : Prop := Claim7.holds Tryd.pinned (.plain (OpenSpec.ofChange fnExactFirstAtSpec)) fnExactFirstAtCard

/-- THE TIED CARD OF 'laws.FnExactNeedAt'. -/
def fnExactNeedAtCard : Claim7 := { stood := { row := fnExactNeedAtRow, standIns := [], harness := (true, "65b6aa2743be7e3c227681b4250afdc15905c5186e82df250ce991ef2a3790e1"), looks := false }, kinds := [], alts := [], laidByText := true, laidKinds := [.data], laidTests := true, laidLooks := .later }
def FnExactNeedAtCardSaid : Prop := Claim7.holds Tryd.pinned (.plain (OpenSpec.ofChange fnExactNeedAtSpec)) fnExactNeedAtCard

/-- THE TIED CARD OF 'laws.FnExactLastsDays'. -/
def fnExactLastsDaysCard : Claim7 := { stood := { row := fnExactLastsDaysRow, standIns := [], harness := (true, "65b6aa2743be7e3c227681b4250afdc15905c5186e82df250ce991ef2a3790e1"), looks := false }, kinds := [], alts := [], laidByText := true, laidKinds := [.data], laidTests := true, laidLooks := .later }
def FnExactLastsDaysCardSaid : Prop := Claim7.holds Tryd.pinned (.plain (OpenSpec.ofChange fnExactLastsDaysSpec)) fnExactLastsDaysCard

/-- THE TIED CARD OF 'laws.FnExactLevelFor'. -/
def fnExactLevelForCard : Claim7 := { stood := { row := fnExactLevelForRow, standIns := [], harness := (true, "65b6aa2743be7e3c227681b4250afdc15905c5186e82df250ce991ef2a3790e1"), looks := false }, kinds := [], alts := [], laidByText := true, laidKinds := [.data], laidTests := true, laidLooks := .later }
def FnExactLevelForCardSaid : Prop := Claim7.holds Tryd.pinned (.plain (OpenSpec.ofChange fnExactLevelForSpec)) fnExactLevelForCard

/-- THE TIED CARD OF 'laws.FnExactMixedDays'. -/
def fnExactMixedDaysCard : Claim7 := { stood := { row := fnExactMixedDaysRow, standIns := [], harness := (true, "65b6aa2743be7e3c227681b4250afdc15905c5186e82df250ce991ef2a3790e1"), looks := false }, kinds := [], alts := [], laidByText := true, laidKinds := [.data], laidTests := true, laidLooks := .later }
def FnExactMixedDaysCardSaid : Prop := Claim7.holds Tryd.pinned (.plain (OpenSpec.ofChange fnExactMixedDaysSpec)) fnExactMixedDaysCard

/-- THE TIED CARD OF 'laws.FnExactLevelName'. -/
def fnExactLevelNameCard : Claim7 := { stood := { row := fnExactLevelNameRow, standIns := [], harness := (true, "65b6aa2743be7e3c227681b4250afdc15905c5186e82df250ce991ef2a3790e1"), looks := false }, kinds := [], alts := [], laidByText := true, laidKinds := [.data], laidTests := true, laidLooks := .later }
def FnExactLevelNameCardSaid : Prop := Claim7.holds Tryd.pinned (.plain (OpenSpec.ofChange fnExactLevelNameSpec)) fnExactLevelNameCard

/-- THE TIED CARD OF 'laws.FnExactTentOf'. -/
def fnExactTentOfCard : Claim7 := { stood := { row := fnExactTentOfRow, standIns := [], harness := (true, "65b6aa2743be7e3c227681b4250afdc15905c5186e82df250ce991ef2a3790e1"), looks := false }, kinds := [], alts := [], laidByText := true, laidKinds := [.data], laidTests := true, laidLooks := .later }
def FnExactTentOfCardSaid : Prop := Claim7.holds Tryd.pinned (.plain (OpenSpec.ofChange fnExactTentOfSpec)) fnExactTentOfCard

/-- THE SECOND FORM's CARD OF 'laws.FnExactIsJournal'. -/
def fnExactIsJournalUptoCard : Claim7 := { stood := { row := fnExactIsJournalUptoRow, standIns := [], harness := (true, "65b6aa2743be7e3c227681b4250afdc15905c5186e82df250ce991ef2a3790e1"), looks := false }, kinds := [], alts := [], laidByText := true, laidKinds := [.data], laidTests := true, laidLooks := .later }
def FnExactIsJournalUptoCardSaid : Prop := Claim7.holds Tryd.pinned (.plain (OpenSpec.upto fnExactIsJournalSpec)) fnExactIsJournalUptoCard

/-- THE SECOND FORM's CARD OF 'laws.FnExactWritePage'. -/
def fnExactWritePageUptoCard : Claim7 := { stood := { row := fnExactWritePageUptoRow, standIns := [], harness := (true, "65b6aa2743be7e3c227681b4250afdc15905c5186e82df250ce991ef2a3790e1"), looks := false }, kinds := [], alts := [], laidByText := true, laidKinds := [.data], laidTests := true, laidLooks := .later }
def FnExactWritePageUptoCardSaid : Prop := Claim7.holds Tryd.pinned (.plain (OpenSpec.upto fnExactWritePageSpec)) fnExactWritePageUptoCard

/-- THE SECOND FORM's CARD OF 'laws.FnExactCellOn'. -/
def fnExactCellOnUptoCard : Claim7 := { stood := { row := fnExactCellOnUptoRow, standIns := [], harness := (true, "65b6aa2743be7e3c227681b4250afdc15905c5186e82df250ce991ef2a3790e1"), looks := false }, kinds := [], alts := [], laidByText := true, laidKinds := [.data], laidTests := true, laidLooks := .later }
def FnExactCellOnUptoCardSaid : Prop := Claim7.holds Tryd.pinned (.plain (OpenSpec.upto fnExactCellOnSpec)) fnExactCellOnUptoCard

/-- THE SECOND FORM's CARD OF 'laws.FnExactEatenBetween'. -/
def fnExactEatenBetweenUptoCard : Claim7 := { stood := { row := fnExactEatenBetweenUptoRow, standIns := [], harness := (true, "65b6aa2743be7e3c227681b4250afdc15905c5186e82df250ce991ef2a3790e1"), looks := false }, kinds := [], alts := [], laidByText := true, laidKinds := [.data], laidTests := true, laidLooks := .later }
def FnExactEatenBetweenUptoCardSaid : Prop := Claim7.holds Tryd.pinned (.plain (OpenSpec.upto fnExactEatenBetweenSpec)) fnExactEatenBetweenUptoCard

/-- THE SECOND FORM's CARD OF 'laws.FnExactLowestFood'. -/
def fnExactLowestFoodUptoCard : Claim7 := { stood := { row := fnExactLowestFoodUptoRow, standIns := [], harness := (true, "65b6aa2743be7e3c227681b4250afdc15905c5186e82df250ce991ef2a3790e1"), looks := false }, kinds := [], alts := [], laidByText := true, laidKinds := [.data], laidTests := true, laidLooks := .later }
def FnExactLowestFoodUptoCardSaid : Prop := Claim7.holds Tryd.pinned (.plain (OpenSpec.upto fnExactLowestFoodSpec)) fnExactLowestFoodUptoCard

/-- THE SECOND FORM's CARD OF 'laws.FnExactFirstAt'. -/
def fnExactFirstAtUptoCard : Claim7 := { stood := { row := fnExactFirstAtUptoRow, standIns := [], harness := (true, "65b6aa2743be7e3c227681b4250afdc15905c5186e82df250ce991ef2a3790e1"), looks := false }, kinds := [], alts := [], laidByText := true, laidKinds := [.data], laidTests := true, laidLooks := .later }
def FnExactFirstAtUptoCardSaid : Prop := Claim7.holds Tryd.pinned (.plain (OpenSpec.upto fnExactFirstAtSpec)) fnExactFirstAtUptoCard

/-- THE SECOND FORM's CARD OF 'laws.FnExactNeedAt'. -/
def fnExactNeedAtUptoCard : Claim7 := { stood := { row := fnExactNeedAtUptoRow, standIns := [], harness := (true, "65b6aa2743be7e3c227681b4250afdc15905c5186e82df250ce991ef2a3790e1"), looks := false }, kinds := [], alts := [], laidByText := true, laidKinds := [.data], laidTests := true, laidLooks := .later }
def FnExactNeedAtUptoCardSaid : Prop := Claim7.holds Tryd.pinned (.plain (OpenSpec.upto fnExactNeedAtSpec)) fnExactNeedAtUptoCard

/-- THE SECOND FORM's CARD OF 'laws.FnExactLastsDays'. -/
def fnExactLastsDaysUptoCard : Claim7 := { stood := { row := fnExactLastsDaysUptoRow, standIns := [], harness := (true, "65b6aa2743be7e3c227681b4250afdc15905c5186e82df250ce991ef2a3790e1"), looks := false }, kinds := [], alts := [], laidByText := true, laidKinds := [.data], laidTests := true, laidLooks := .later }
def FnExactLastsDaysUptoCardSaid : Prop := Claim7.holds Tryd.pinned (.plain (OpenSpec.upto fnExactLastsDaysSpec)) fnExactLastsDaysUptoCard

/-- THE SECOND FORM's CARD OF 'laws.FnExactLevelFor'. -/
def fnExactLevelForUptoCard : Claim7 := { stood := { row := fnExactLevelForUptoRow, standIns := [], harness := (true, "65b6aa2743be7e3c227681b4250afdc15905c5186e82df250ce991ef2a3790e1"), looks := false }, kinds := [], alts := [], laidByText := true, laidKinds := [.data], laidTests := true, laidLooks := .later }
def FnExactLevelForUptoCardSaid : Prop := Claim7.holds Tryd.pinned (.plain (OpenSpec.upto fnExactLevelForSpec)) fnExactLevelForUptoCard

/-- THE SECOND FORM's CARD OF 'laws.FnExactMixedDays'. -/
def fnExactMixedDaysUptoCard : Claim7 := { stood := { row := fnExactMixedDaysUptoRow, standIns := [], harness := (true, "65b6aa2743be7e3c227681b4250afdc15905c5186e82df250ce991ef2a3790e1"), looks := false }, kinds := [], alts := [], laidByText := true, laidKinds := [.data], laidTests := true, laidLooks := .later }
def FnExactMixedDaysUptoCardSaid : Prop := Claim7.holds Tryd.pinned (.plain (OpenSpec.upto fnExactMixedDaysSpec)) fnExactMixedDaysUptoCard

/-- THE SECOND FORM's CARD OF 'laws.FnExactLevelName'. -/
def fnExactLevelNameUptoCard : Claim7 := { stood := { row := fnExactLevelNameUptoRow, standIns := [], harness := (true, "65b6aa2743be7e3c227681b4250afdc15905c5186e82df250ce991ef2a3790e1"), looks := false }, kinds := [], alts := [], laidByText := true, laidKinds := [.data], laidTests := true, laidLooks := .later }
def FnExactLevelNameUptoCardSaid : Prop := Claim7.holds Tryd.pinned (.plain (OpenSpec.upto fnExactLevelNameSpec)) fnExactLevelNameUptoCard

/-- THE SECOND FORM's CARD OF 'laws.FnExactTentOf'. -/
def fnExactTentOfUptoCard : Claim7 := { stood := { row := fnExactTentOfUptoRow, standIns := [], harness := (true, "65b6aa2743be7e3c227681b4250afdc15905c5186e82df250ce991ef2a3790e1"), looks := false }, kinds := [], alts := [], laidByText := true, laidKinds := [.data], laidTests := true, laidLooks := .later }
def FnExactTentOfUptoCardSaid : Prop := Claim7.holds Tryd.pinned (.plain (OpenSpec.upto fnExactTentOfSpec)) fnExactTentOfUptoCard
end Rows
end Go.Proofs.YtlhbnkjijggfaaaDoor

/-
  DERIVED. GIVEN WITH THE SEED: THE CARDS: each row of YtconlnlbaimghaaDoorRows.lean that lists a variable, with what it lists TIED to the program's text (the seventh form; the later family's looks); each row that meets fmt, with fmt's text TOLD by the authors' own Lean function (tested against real Go, not proved from fmt's source: count such statements apart). THE CARD IS WHAT COUNTS. Prove the row's statement (the work); the ties are given (YtconlnlbaimghaaDoorTie.lean); close each card by the builder's one call (the guide's Derived/Test/ToyasCard.lean, 'card_holds'). Laid BY PROGRAM, IN A SANDBOX (cutbox-door.mjs). By AI agents, Wed Nov 11 2026. No macro, syntax, notation, axiom, sorry.
-/
import Derived.Test.YtconlnlbaimghaaDoorRows
import GoSem.ClaimSeven
namespace Go.Proofs.YtconlnlbaimghaaDoor
namespace Rows

/-- THE TIED CARD OF 'laws.FnExactVisited'. -/
def fnExactVisitedCard : Claim7 := { stood := { row := fnExactVisitedRow, standIns := [], harness := (true, "6d9820821dc755a71dd0038eb9dd569ddae0b2204b088298b8fa2809de3ae6e8"), looks := true }, kinds := [], alts := [], laidByText := true, laidKinds := [.data], laidTests := true, laidLooks := .later }
def FnExactVisitedCardSaid : Prop := Claim7.holds Tryd.pinned (.plain (OpenSpec.ofChange fnExactVisitedSpec)) fnExactVisitedCard

/-- THE TIED CARD OF 'laws.FnExactEventName'. -/
def fnExactEventNameCard : Claim7 := { stood := { row := fnExactEventNameRow, standIns := [], harness := (true, "6d9820821dc755a71dd0038eb9dd569ddae0b2204b088298b8fa2809de3ae6e8"), looks := true }, kinds := [], alts := [], laidByText := true, laidKinds := [.data], laidTests := true, laidLooks := .later }
def FnExactEventNameCardSaid : Prop := Claim7.holds Tryd.pinned (.plain (OpenSpec.ofChange fnExactEventNameSpec)) fnExactEventNameCard

/-- THE TIED CARD OF 'laws.FnExactLowestFood'. -/
def fnExactLowestFoodCard : Claim7 := { stood := { row := fnExactLowestFoodRow, standIns := [], harness := (true, "6d9820821dc755a71dd0038eb9dd569ddae0b2204b088298b8fa2809de3ae6e8"), looks := true }, kinds := [], alts := [], laidByText := true, laidKinds := [.data], laidTests := true, laidLooks := .later }
def FnExactLowestFoodCardSaid : Prop := Claim7.holds Tryd.pinned (.plain (OpenSpec.ofChange fnExactLowestFoodSpec)) fnExactLowestFoodCard

/-- THE TIED CARD OF 'laws.FnExactFirstAt'. -/
def fnExactFirstAtCard : Claim7 := { stood := { row := fnExactFirstAtRow, standIns := [], harness := (true, "6d9820821dc755a71dd0038eb9dd569ddae0b2204b088298b8fa2809de3ae6e8"), looks := true }, kinds := [], alts := [], laidByText := true, laidKinds := [.data], laidTests := true, laidLooks := .later }
def FnExactFirstAtCardSaid : Prop := Claim7.holds Tryd.pinned (.plain (OpenSpec.ofChange fnExactFirstAtSpec)) fnExactFirstAtCard

/-- THE TIED CARD OF 'laws.FnExactStormShare'. -/
def fnExactStormShareCard : Claim7 := { stood := { row := fnExactStormShareRow, standIns := [], harness := (true, "6d9820821dc755a71dd0038eb9dd569ddae0b2204b088298b8fa2809de3ae6e8"), looks := true }, kinds := [], alts := [], laidByText := true, laidKinds := [.handle], laidTests := true, laidLooks := .later }
def FnExactStormShareCardSaid : Prop := Claim7.holds Tryd.pinned (.plain (OpenSpec.ofChange fnExactStormShareSpec)) fnExactStormShareCard

/-- THE TIED CARD OF 'laws.FnExactOpenShare'. -/
def fnExactOpenShareCard : Claim7 := { stood := { row := fnExactOpenShareRow, standIns := [], harness := (true, "6d9820821dc755a71dd0038eb9dd569ddae0b2204b088298b8fa2809de3ae6e8"), looks := true }, kinds := [], alts := [], laidByText := true, laidKinds := [.handle], laidTests := true, laidLooks := .later }
def FnExactOpenShareCardSaid : Prop := Claim7.holds Tryd.pinned (.plain (OpenSpec.ofChange fnExactOpenShareSpec)) fnExactOpenShareCard

/-- THE SECOND FORM's CARD OF 'laws.FnExactVisited'. -/
def fnExactVisitedUptoCard : Claim7 := { stood := { row := fnExactVisitedUptoRow, standIns := [], harness := (true, "6d9820821dc755a71dd0038eb9dd569ddae0b2204b088298b8fa2809de3ae6e8"), looks := true }, kinds := [], alts := [], laidByText := true, laidKinds := [.data], laidTests := true, laidLooks := .later }
def FnExactVisitedUptoCardSaid : Prop := Claim7.holds Tryd.pinned (.plain (OpenSpec.upto fnExactVisitedSpec)) fnExactVisitedUptoCard

/-- THE SECOND FORM's CARD OF 'laws.FnExactEventName'. -/
def fnExactEventNameUptoCard : Claim7 := { stood := { row := fnExactEventNameUptoRow, standIns := [], harness := (true, "6d9820821dc755a71dd0038eb9dd569ddae0b2204b088298b8fa2809de3ae6e8"), looks := true }, kinds := [], alts := [], laidByText := true, laidKinds := [.data], laidTests := true, laidLooks := .later }
def FnExactEventNameUptoCardSaid : Prop := Claim7.holds Tryd.pinned (.plain (OpenSpec.upto fnExactEventNameSpec)) fnExactEventNameUptoCard

/-- THE SECOND FORM's CARD OF 'laws.FnExactLowestFood'. -/
def fnExactLowestFoodUptoCard : Claim7 := { stood := { row := fnExactLowestFoodUptoRow, standIns := [], harness := (true, "6d9820821dc755a71dd0038eb9dd569ddae0b2204b088298b8fa2809de3ae6e8"), looks := true }, kinds := [], alts := [], laidByText := true, laidKinds := [.data], laidTests := true, laidLooks := .later }
def FnExactLowestFoodUptoCardSaid : Prop := Claim7.holds Tryd.pinned (.plain (OpenSpec.upto fnExactLowestFoodSpec)) fnExactLowestFoodUptoCard

/-- THE SECOND FORM's CARD OF 'laws.FnExactFirstAt'. -/
def fnExactFirstAtUptoCard : Claim7 := { stood := { row := fnExactFirstAtUptoRow, standIns := [], harness := (true, "6d9820821dc755a71dd0038eb9dd569ddae0b2204b088298b8fa2809de3ae6e8"), looks := true }, kinds := [], alts := [], laidByText := true, laidKinds := [.data], laidTests := true, laidLooks := .later }
def FnExactFirstAtUptoCardSaid : Prop := Claim7.holds Tryd.pinned (.plain (OpenSpec.upto fnExactFirstAtSpec)) fnExactFirstAtUptoCard

/-- THE SECOND FORM's CARD OF 'laws.FnExactStormShare'. -/
def fnExactStormShareUptoCard : Claim7 := { stood := { row := fnExactStormShareUptoRow, standIns := [], harness := (true, "6d9820821dc755a71dd0038eb9dd569ddae0b2204b088298b8fa2809de3ae6e8"), looks := true }, kinds := [], alts := [], laidByText := true, laidKinds := [.handle], laidTests := true, laidLooks := .later }
def FnExactStormShareUptoCardSaid : Prop := Claim7.holds Tryd.pinned (.plain (OpenSpec.upto fnExactStormShareSpec)) fnExactStormShareUptoCard

/-- THE SECOND FORM's CARD OF 'laws.FnExactOpenShare'. -/
def fnExactOpenShareUptoCard : Claim7 := { stood := { row := fnExactOpenShareUptoRow, standIns := [], harness := (true, "6d9820821dc755a71dd0038eb9dd569ddae0b2204b088298b8fa2809de3ae6e8"), looks := true }, kinds := [], alts := [], laidByText := true, laidKinds := [.handle], laidTests := true, laidLooks := .later }
def FnExactOpenShareUptoCardSaid : Prop := Claim7.holds Tryd.pinned (.plain (OpenSpec.upto fnExactOpenShareSpec)) fnExactOpenShareUptoCard
end Rows
end Go.Proofs.YtconlnlbaimghaaDoor

/-
  DERIVED. GIVEN WITH THE SEED: THE CARDS: each row of YtoanhnklemlfmaaDoorRows.lean that lists a variable, with what it lists TIED to the program's text (the seventh form; the later family's looks); each row that meets fmt, with fmt's text TOLD by the authors' own Lean function (tested against real Go, not proved from fmt's source: count such statements apart). THE CARD IS WHAT COUNTS. Prove the row's statement (the work); the ties are given (YtoanhnklemlfmaaDoorTie.lean); close each card by the builder's one call (the guide's Derived/Test/ToyasCard.lean, 'card_holds'). Laid BY PROGRAM, IN A SANDBOX (cutbox-door.mjs). By AI agents, Wed Nov 11 2026. No macro, syntax, notation, axiom, sorry.
-/
import Derived.Test.YtoanhnklemlfmaaDoorRows
import GoSem.ClaimSeven
namespace Go.Proofs.YtoanhnklemlfmaaDoor
namespace Rows

/-- THE TIED CARD OF 'laws.FnExactCellText'. -/
def fnExactCellTextCard : Claim7 := { stood := { row := fnExactCellTextRow, standIns := [], harness := (true, "8efd22bfb39a88f632f00f0f84ada86636d5bbc5e7a41cfd2d1fe673b4e22c9d"), looks := true }, kinds := [], alts := [], laidByText := true, laidKinds := [.data, .data, .data], laidTests := true, laidLooks := .later }
def FnExactCellTextCardSaid : Prop := Claim7.holds Tryd.pinned (.plain (OpenSpec.ofChange fnExactCellTextSpec)) fnExactCellTextCard

/-- THE TIED CARD OF 'laws.FnExactParseCell'. -/
def fnExactParseCellCard : Claim7 := { stood := { row := fnExactParseCellRow, standIns := [], harness := (true, "8efd22bfb39a88f632f00f0f84ada86636d5bbc5e7a41cfd2d1fe673b4e22c9d"), looks := true }, kinds := [], alts := [], laidByText := true, laidKinds := [.data, .data, .data], laidTests := true, laidLooks := .later }
def FnExactParseCellCardSaid : Prop := Claim7.holds Tryd.pinned (.plain (OpenSpec.ofChange fnExactParseCellSpec)) fnExactParseCellCard

/-- THE TIED CARD OF 'laws.FnExactWayText'. -/
def fnExactWayTextCard : Claim7 := { stood := { row := fnExactWayTextRow, standIns := [], harness := (true, "8efd22bfb39a88f632f00f0f84ada86636d5bbc5e7a41cfd2d1fe673b4e22c9d"), looks := true }, kinds := [], alts := [], laidByText := true, laidKinds := [.data, .data, .data], laidTests := true, laidLooks := .later }
def FnExactWayTextCardSaid : Prop := Claim7.holds Tryd.pinned (.plain (OpenSpec.ofChange fnExactWayTextSpec)) fnExactWayTextCard

/-- THE TIED CARD OF 'laws.FnExactPartyText'. -/
def fnExactPartyTextCard : Claim7 := { stood := { row := fnExactPartyTextRow, standIns := [], harness := (true, "8efd22bfb39a88f632f00f0f84ada86636d5bbc5e7a41cfd2d1fe673b4e22c9d"), looks := true }, kinds := [], alts := [], laidByText := true, laidKinds := [.data, .data, .data], laidTests := true, laidLooks := .later }
def FnExactPartyTextCardSaid : Prop := Claim7.holds Tryd.pinned (.plain (OpenSpec.ofChange fnExactPartyTextSpec)) fnExactPartyTextCard

/-- THE TIED CARD OF 'laws.FnExactFormatNumbers'. -/
def fnExactFormatNumbersCard : Claim7 := { stood := { row := fnExactFormatNumbersRow, standIns := [], harness := (true, "8efd22bfb39a88f632f00f0f84ada86636d5bbc5e7a41cfd2d1fe673b4e22c9d"), looks := true }, kinds := [], alts := [], laidByText := true, laidKinds := [.data, .data, .data], laidTests := true, laidLooks := .later }
def FnExactFormatNumbersCardSaid : Prop := Claim7.holds Tryd.pinned (.plain (OpenSpec.ofChange fnExactFormatNumbersSpec)) fnExactFormatNumbersCard

/-- THE TIED CARD OF 'laws.FnExactFormatDepots'. -/
def fnExactFormatDepotsCard : Claim7 := { stood := { row := fnExactFormatDepotsRow, standIns := [], harness := (true, "8efd22bfb39a88f632f00f0f84ada86636d5bbc5e7a41cfd2d1fe673b4e22c9d"), looks := true }, kinds := [], alts := [], laidByText := true, laidKinds := [.data, .data, .data], laidTests := true, laidLooks := .later }
def FnExactFormatDepotsCardSaid : Prop := Claim7.holds Tryd.pinned (.plain (OpenSpec.ofChange fnExactFormatDepotsSpec)) fnExactFormatDepotsCard

/-- THE TIED CARD OF 'laws.FnExactFormatJournal'. -/
def fnExactFormatJournalCard : Claim7 := { stood := { row := fnExactFormatJournalRow, standIns := [], harness := (true, "8efd22bfb39a88f632f00f0f84ada86636d5bbc5e7a41cfd2d1fe673b4e22c9d"), looks := true }, kinds := [], alts := [], laidByText := true, laidKinds := [.data, .data, .data], laidTests := true, laidLooks := .later }
def FnExactFormatJournalCardSaid : Prop := Claim7.holds Tryd.pinned (.plain (OpenSpec.ofChange fnExactFormatJournalSpec)) fnExactFormatJournalCard

/-- THE TIED CARD OF 'laws.FnExactFormatCells'. -/
def fnExactFormatCellsCard : Claim7 := { stood := { row := fnExactFormatCellsRow, standIns := [], harness := (true, "8efd22bfb39a88f632f00f0f84ada86636d5bbc5e7a41cfd2d1fe673b4e22c9d"), looks := true }, kinds := [], alts := [], laidByText := true, laidKinds := [.data, .data, .data], laidTests := true, laidLooks := .later }
def FnExactFormatCellsCardSaid : Prop := Claim7.holds Tryd.pinned (.plain (OpenSpec.ofChange fnExactFormatCellsSpec)) fnExactFormatCellsCard

/-- THE TIED CARD OF 'laws.FnExactFormatTrek'. -/
def fnExactFormatTrekCard : Claim7 := { stood := { row := fnExactFormatTrekRow, standIns := [], harness := (true, "8efd22bfb39a88f632f00f0f84ada86636d5bbc5e7a41cfd2d1fe673b4e22c9d"), looks := true }, kinds := [], alts := [], laidByText := true, laidKinds := [.data, .data, .data], laidTests := true, laidLooks := .later }
def FnExactFormatTrekCardSaid : Prop := Claim7.holds Tryd.pinned (.plain (OpenSpec.ofChange fnExactFormatTrekSpec)) fnExactFormatTrekCard

/-- THE TIED CARD OF 'laws.FnExactStormShare'. -/
def fnExactStormShareCard : Claim7 := { stood := { row := fnExactStormShareRow, standIns := [], harness := (true, "8efd22bfb39a88f632f00f0f84ada86636d5bbc5e7a41cfd2d1fe673b4e22c9d"), looks := true }, kinds := [], alts := [], laidByText := true, laidKinds := [.handle], laidTests := true, laidLooks := .later }
def FnExactStormShareCardSaid : Prop := Claim7.holds Tryd.pinned (.plain (OpenSpec.ofChange fnExactStormShareSpec)) fnExactStormShareCard

/-- THE TIED CARD OF 'laws.FnExactOpenShare'. -/
def fnExactOpenShareCard : Claim7 := { stood := { row := fnExactOpenShareRow, standIns := [], harness := (true, "8efd22bfb39a88f632f00f0f84ada86636d5bbc5e7a41cfd2d1fe673b4e22c9d"), looks := true }, kinds := [], alts := [], laidByText := true, laidKinds := [.handle], laidTests := true, laidLooks := .later }
def FnExactOpenShareCardSaid : Prop := Claim7.holds Tryd.pinned (.plain (OpenSpec.ofChange fnExactOpenShareSpec)) fnExactOpenShareCard

/-- THE SECOND FORM's CARD OF 'laws.FnExactCellText'. -/
def fnExactCellTextUptoCard : Claim7 := { stood := { row := fnExactCellTextUptoRow, standIns := [], harness := (true, "8efd22bfb39a88f632f00f0f84ada86636d5bbc5e7a41cfd2d1fe673b4e22c9d"), looks := true }, kinds := [], alts := [], laidByText := true, laidKinds := [.data, .data, .data], laidTests := true, laidLooks := .later }
def FnExactCellTextUptoCardSaid : Prop := Claim7.holds Tryd.pinned (.plain (OpenSpec.upto fnExactCellTextSpec)) fnExactCellTextUptoCard

/-- THE SECOND FORM's CARD OF 'laws.FnExactParseCell'. -/
def fnExactParseCellUptoCard : Claim7 := { stood := { row := fnExactParseCellUptoRow, standIns := [], harness := (true, "8efd22bfb39a88f632f00f0f84ada86636d5bbc5e7a41cfd2d1fe673b4e22c9d"), looks := true }, kinds := [], alts := [], laidByText := true, laidKinds := [.data, .data, .data], laidTests := true, laidLooks := .later }
def FnExactParseCellUptoCardSaid : Prop := Claim7.holds Tryd.pinned (.plain (OpenSpec.upto fnExactParseCellSpec)) fnExactParseCellUptoCard

/-- THE SECOND FORM's CARD OF 'laws.FnExactWayText'. -/
def fnExactWayTextUptoCard : Claim7 := { stood := { row := fnExactWayTextUptoRow, standIns := [], harness := (true, "8efd22bfb39a88f632f00f0f84ada86636d5bbc5e7a41cfd2d1fe673b4e22c9d"), looks := true }, kinds := [], alts := [], laidByText := true, laidKinds := [.data, .data, .data], laidTests := true, laidLooks := .later }
def FnExactWayTextUptoCardSaid : Prop := Claim7.holds Tryd.pinned (.plain (OpenSpec.upto fnExactWayTextSpec)) fnExactWayTextUptoCard

/-- THE SECOND FORM's CARD OF 'laws.FnExactPartyText'. -/
def fnExactPartyTextUptoCard : Claim7 := { stood := { row := fnExactPartyTextUptoRow, standIns := [], harness := (true, "8efd22bfb39a88f632f00f0f84ada86636d5bbc5e7a41cfd2d1fe673b4e22c9d"), looks := true }, kinds := [], alts := [], laidByText := true, laidKinds := [.data, .data, .data], laidTests := true, laidLooks := .later }
def FnExactPartyTextUptoCardSaid : Prop := Claim7.holds Tryd.pinned (.plain (OpenSpec.upto fnExactPartyTextSpec)) fnExactPartyTextUptoCard

/-- THE SECOND FORM's CARD OF 'laws.FnExactFormatNumbers'. -/
def fnExactFormatNumbersUptoCard : Claim7 := { stood := { row := fnExactFormatNumbersUptoRow, standIns := [], harness := (true, "8efd22bfb39a88f632f00f0f84ada86636d5bbc5e7a41cfd2d1fe673b4e22c9d"), looks := true }, kinds := [], alts := [], laidByText := true, laidKinds := [.data, .data, .data], laidTests := true, laidLooks := .later }
def FnExactFormatNumbersUptoCardSaid : Prop := Claim7.holds Tryd.pinned (.plain (OpenSpec.upto fnExactFormatNumbersSpec)) fnExactFormatNumbersUptoCard

/-- THE SECOND FORM's CARD OF 'laws.FnExactFormatDepots'. -/
def fnExactFormatDepotsUptoCard : Claim7 := { stood := { row := fnExactFormatDepotsUptoRow, standIns := [], harness := (true, "8efd22bfb39a88f632f00f0f84ada86636d5bbc5e7a41cfd2d1fe673b4e22c9d"), looks := true }, kinds := [], alts := [], laidByText := true, laidKinds := [.data, .data, .data], laidTests := true, laidLooks := .later }
def FnExactFormatDepotsUptoCardSaid : Prop := Claim7.holds Tryd.pinned (.plain (OpenSpec.upto fnExactFormatDepotsSpec)) fnExactFormatDepotsUptoCard

/-- THE SECOND FORM's CARD OF 'laws.FnExactFormatJournal'. -/
def fnExactFormatJournalUptoCard : Claim7 := { stood := { row := fnExactFormatJournalUptoRow, standIns := [], harness := (true, "8efd22bfb39a88f632f00f0f84ada86636d5bbc5e7a41cfd2d1fe673b4e22c9d"), looks := true }, kinds := [], alts := [], laidByText := true, laidKinds := [.data, .data, .data], laidTests := true, laidLooks := .later }
def FnExactFormatJournalUptoCardSaid : Prop := Claim7.holds Tryd.pinned (.plain (OpenSpec.upto fnExactFormatJournalSpec)) fnExactFormatJournalUptoCard

/-- THE SECOND FORM's CARD OF 'laws.FnExactFormatCells'. -/
def fnExactFormatCellsUptoCard : Claim7 := { stood := { row := fnExactFormatCellsUptoRow, standIns := [], harness := (true, "8efd22bfb39a88f632f00f0f84ada86636d5bbc5e7a41cfd2d1fe673b4e22c9d"), looks := true }, kinds := [], alts := [], laidByText := true, laidKinds := [.data, .data, .data], laidTests := true, laidLooks := .later }
def FnExactFormatCellsUptoCardSaid : Prop := Claim7.holds Tryd.pinned (.plain (OpenSpec.upto fnExactFormatCellsSpec)) fnExactFormatCellsUptoCard

/-- THE SECOND FORM's CARD OF 'laws.FnExactFormatTrek'. -/
def fnExactFormatTrekUptoCard : Claim7 := { stood := { row := fnExactFormatTrekUptoRow, standIns := [], harness := (true, "8efd22bfb39a88f632f00f0f84ada86636d5bbc5e7a41cfd2d1fe673b4e22c9d"), looks := true }, kinds := [], alts := [], laidByText := true, laidKinds := [.data, .data, .data], laidTests := true, laidLooks := .later }
def FnExactFormatTrekUptoCardSaid : Prop := Claim7.holds Tryd.pinned (.plain (OpenSpec.upto fnExactFormatTrekSpec)) fnExactFormatTrekUptoCard

/-- THE SECOND FORM's CARD OF 'laws.FnExactStormShare'. -/
def fnExactStormShareUptoCard : Claim7 := { stood := { row := fnExactStormShareUptoRow, standIns := [], harness := (true, "8efd22bfb39a88f632f00f0f84ada86636d5bbc5e7a41cfd2d1fe673b4e22c9d"), looks := true }, kinds := [], alts := [], laidByText := true, laidKinds := [.handle], laidTests := true, laidLooks := .later }
def FnExactStormShareUptoCardSaid : Prop := Claim7.holds Tryd.pinned (.plain (OpenSpec.upto fnExactStormShareSpec)) fnExactStormShareUptoCard

/-- THE SECOND FORM's CARD OF 'laws.FnExactOpenShare'. -/
def fnExactOpenShareUptoCard : Claim7 := { stood := { row := fnExactOpenShareUptoRow, standIns := [], harness := (true, "8efd22bfb39a88f632f00f0f84ada86636d5bbc5e7a41cfd2d1fe673b4e22c9d"), looks := true }, kinds := [], alts := [], laidByText := true, laidKinds := [.handle], laidTests := true, laidLooks := .later }
def FnExactOpenShareUptoCardSaid : Prop := Claim7.holds Tryd.pinned (.plain (OpenSpec.upto fnExactOpenShareSpec)) fnExactOpenShareUptoCard
end Rows
end Go.Proofs.YtoanhnklemlfmaaDoor

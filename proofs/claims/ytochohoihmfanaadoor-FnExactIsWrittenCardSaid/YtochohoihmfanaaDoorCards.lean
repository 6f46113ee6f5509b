/-
  DERIVED. GIVEN WITH THE SEED: THE CARDS: each row of YtochohoihmfanaaDoorRows.lean that lists a variable, with what it lists TIED to the program's text (the seventh form; the later family's looks); each row that meets fmt, with fmt's text TOLD by the authors' own Lean function (tested against real Go, not proved from fmt's source: count such statements apart). THE CARD IS WHAT COUNTS. Prove the row's statement (the work); the ties are given (YtochohoihmfanaaDoorTie.lean); close each card by the builder's one call (the guide's Derived/Test/ToyasCard.lean, 'card_holds'). Laid BY PROGRAM, IN A SANDBOX (cutbox-door.mjs). By AI agents, Wed Nov 11 2026. No macro, syntax, notation, axiom, sorry.
-/
import Derived.Test.YtochohoihmfanaaDoorRows
import GoSem.ClaimSeven
namespace Go.Proofs.YtochohoihmfanaaDoor
namespace Rows

/-- THE TIED CARD OF 'laws.FnExactIsWritten'. -/
def fnExactIsWrittenCard : Claim7 := { stood := { row := fnExactIsWrittenRow, standIns := [], harness := (true, "73e2a2228c0ada44cf56ca4607091170eccd8fb08a53c314d43e73cc7a81c909"), looks := false }, kinds := [], alts := [], laidByText := true, laidKinds := [.data], laidTests := true, laidLooks := .later }
def FnExactIsWrittenCardSaid : Prop := Claim7.holds Tryd.pinned (.plain (OpenSpec.ofChange fnExactIsWrittenSpec)) fnExactIsWrittenCard

/-- THE SECOND FORM's CARD OF 'laws.FnExactIsWritten'. -/
def fnExactIsWrittenUptoCard : Claim7 := { stood := { row := fnExactIsWrittenUptoRow, standIns := [], harness := (true, "73e2a2228c0ada44cf56ca4607091170eccd8fb08a53c314d43e73cc7a81c909"), looks := false }, kinds := [], alts := [], laidByText := true, laidKinds := [.data], laidTests := true, laidLooks := .later }
def FnExactIsWrittenUptoCardSaid : Prop := Claim7.holds Tryd.pinned (.plain (OpenSpec.upto fnExactIsWrittenSpec)) fnExactIsWrittenUptoCard
end Rows
end Go.Proofs.YtochohoihmfanaaDoor

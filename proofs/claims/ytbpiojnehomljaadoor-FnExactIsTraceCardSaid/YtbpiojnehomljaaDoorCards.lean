/-
  DERIVED. GIVEN WITH THE SEED: THE CARDS: each row of YtbpiojnehomljaaDoorRows.lean that lists a variable, with what it lists TIED to the program's text (the seventh form; the later family's looks); each row that meets fmt, with fmt's text TOLD by the authors' own Lean function (tested against real Go, not proved from fmt's source: count such statements apart). THE CARD IS WHAT COUNTS. Prove the row's statement (the work); the ties are given (YtbpiojnehomljaaDoorTie.lean); close each card by the builder's one call (the guide's Derived/Test/ToyasCard.lean, 'card_holds'). Laid BY PROGRAM, IN A SANDBOX (cutbox-door.mjs). By AI agents, Wed Nov 11 2026. No macro, syntax, notation, axiom, sorry.
-/
import Derived.Test.YtbpiojnehomljaaDoorRows
import GoSem.ClaimSeven
namespace Go.Proofs.YtbpiojnehomljaaDoor
namespace Rows

/-- THE TIED CARD OF 'laws.FnExactFarthestOut'. -/
def fnExactFarthestOutCard : Claim7 := { stood := { row := fnExactFarthestOutRow, standIns := [], harness := (true, "071e72b55e3152ee3849d95994b762764916bd4a61b5700eabe3da3a73359536"), looks := true }, kinds := [], alts := [], laidByText := true, laidKinds := [.handle], laidTests := true, laidLooks := .later }
def FnExactFarthestOutCardSaid : Prop := Claim7.holds Tryd.pinned (.plain (OpenSpec.ofChange fnExactFarthestOutSpec)) fnExactFarthestOutCard

/-- THE TIED CARD OF 'laws.FnExactIsTrace'. -/
def fnExactIsTraceCard : Claim7 := { stood := { row := fnExactIsTraceRow, standIns := [], harness := (true, "071e72b55e3152ee3849d95994b762764916bd4a61b5700eabe3da3a73359536"), looks := true }, kinds := [], alts := [], laidByText := true, laidKinds := [.data], laidTests := true, laidLooks := .later }
def FnExactIsTraceCardSaid : Prop := Claim7.holds Tryd.pinned (.plain (OpenSpec.ofChange fnExactIsTraceSpec)) fnExactIsTraceCard

/-- THE SECOND FORM's CARD OF 'laws.FnExactFarthestOut'. -/
def fnExactFarthestOutUptoCard : Claim7 := { stood := { row := fnExactFarthestOutUptoRow, standIns := [], harness := (true, "071e72b55e3152ee3849d95994b762764916bd4a61b5700eabe3da3a73359536"), looks := true }, kinds := [], alts := [], laidByText := true, laidKinds := [.handle], laidTests := true, laidLooks := .later }
def FnExactFarthestOutUptoCardSaid : Prop := Claim7.holds Tryd.pinned (.plain (OpenSpec.upto fnExactFarthestOutSpec)) fnExactFarthestOutUptoCard

/-- THE SECOND FORM's CARD OF 'laws.FnExactIsTrace'. -/
def fnExactIsTraceUptoCard : Claim7 := { stood := { row := fnExactIsTraceUptoRow, standIns := [], harness := (true, "071e72b55e3152ee3849d95994b762764916bd4a61b5700eabe3da3a73359536"), looks := true }, kinds := [], alts := [], laidByText := true, laidKinds := [.data], laidTests := true, laidLooks := .later }
def FnExactIsTraceUptoCardSaid : Prop := Claim7.holds Tryd.pinned (.plain (OpenSpec.upto fnExactIsTraceSpec)) fnExactIsTraceUptoCard
end Rows
end Go.Proofs.YtbpiojnehomljaaDoor

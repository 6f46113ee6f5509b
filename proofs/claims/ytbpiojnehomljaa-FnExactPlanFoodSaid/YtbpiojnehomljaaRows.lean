/-
  No cell of these rows narrows 'for every input' (looked for: loops, veiled, ifaces, maps, wideKeys, modest, calm, conditions, laid).
  DERIVED. THE GIVEN ROWS OF THIS SEAT. 7 by the template 'for every input the law returns true; each argument reads behind the call as it read before'; 0 by the template 'total and deterministic' (their statements: YtbpiojnehomljaaTotals.lean).
  GIVEN WITH THE SEED: the statements are not yours to turn. If you find one false, say at which input.
  Laid BY PROGRAM, IN A SANDBOX (cutbox-rows.mjs): the forced cells as the released guide's own fill.sh prints them over the translation 3b69f23cade5bccf… (all of the seat's roots in one cut). By AI agents, Wed Nov 11 2026. No macro, syntax, notation, axiom, sorry.
-/
import Derived.Test.YtbpiojnehomljaaChecked
import GoSem.Claim
import GoSem.ClaimJoined
import GoSem.ClaimMapViews
import Derived.JoinedTies
import Derived.KernelRfl
namespace Go.Proofs.Ytbpiojnehomljaa
/- THE CELL 'sum', in the pinned program and in every row, IS THE sha256 OF THE DUMP (.gsa) THAT YtbpiojnehomljaaProg.lean LOADS. Nothing in Lean hashes anything: it is a label: what it is worth is what the hold of that sum in a sandbox is worth. -/
noncomputable def Try.pinned : Pinned := { name := "ytbpiojnehomljaa", sum := "3b69f23cade5bccffe91bf112e72a1769d4f0e6bd9062ea8c907d5fe88d9972f", checked := Try.checked }
namespace Rows
def none {H : Type} : Left H := { results := [], args := [] }

/-- 'laws.FnExactPlanCells': WHATEVER THE INPUT: true; the input reads as it did. -/
def fnExactPlanCellsSpec : ChangeSpec := { name := "fnExactPlanCells", fn := fun _ => fun
  | [d1, d2, d3] => { results := [.lit (.bool true)], args := [d1, d2, d3] }
  | _ => none }
def fnExactPlanCellsRow : OpenClaim := { program := "ytbpiojnehomljaa", sum := "3b69f23cade5bccffe91bf112e72a1769d4f0e6bd9062ea8c907d5fe88d9972f", func := "loop.example/g03008/laws.FnExactPlanCells", spec := "fnExactPlanCells", unfollowed := true, recurses := true, apart := false }
def FnExactPlanCellsSaid : Prop := fnExactPlanCellsRow.holds Try.pinned (OpenSpec.ofChange fnExactPlanCellsSpec)

/-- ITS FALSE NEIGHBOUR: 'it returns false'. Refute it at one input. -/
def fnExactPlanCellsWrong : ChangeSpec := { name := "fnExactPlanCells", fn := fun _ => fun
  | [d1, d2, d3] => { results := [.lit (.bool false)], args := [d1, d2, d3] }
  | _ => none }
def FnExactPlanCellsWrongFalsely : Prop := fnExactPlanCellsRow.holds Try.pinned (OpenSpec.ofChange fnExactPlanCellsWrong)

/-- 'laws.FnExactPlanDays': WHATEVER THE INPUT: true; the input reads as it did. -/
def fnExactPlanDaysSpec : ChangeSpec := { name := "fnExactPlanDays", fn := fun _ => fun
  | [d1, d2, d3] => { results := [.lit (.bool true)], args := [d1, d2, d3] }
  | _ => none }
def fnExactPlanDaysRow : OpenClaim := { program := "ytbpiojnehomljaa", sum := "3b69f23cade5bccffe91bf112e72a1769d4f0e6bd9062ea8c907d5fe88d9972f", func := "loop.example/g03008/laws.FnExactPlanDays", spec := "fnExactPlanDays", unfollowed := true, recurses := true, apart := false }
def FnExactPlanDaysSaid : Prop := fnExactPlanDaysRow.holds Try.pinned (OpenSpec.ofChange fnExactPlanDaysSpec)

/-- ITS FALSE NEIGHBOUR: 'it returns false'. Refute it at one input. -/
def fnExactPlanDaysWrong : ChangeSpec := { name := "fnExactPlanDays", fn := fun _ => fun
  | [d1, d2, d3] => { results := [.lit (.bool false)], args := [d1, d2, d3] }
  | _ => none }
def FnExactPlanDaysWrongFalsely : Prop := fnExactPlanDaysRow.holds Try.pinned (OpenSpec.ofChange fnExactPlanDaysWrong)

/-- 'laws.FnExactPlanFood': WHATEVER THE INPUT: true; the input reads as it did. -/
def fnExactPlanFoodSpec : ChangeSpec := { name := "fnExactPlanFood", fn := fun _ => fun
  | [d1, d2, d3, d4, d5] => { results := [.lit (.bool true)], args := [d1, d2, d3, d4, d5] }
  | _ => none }
def fnExactPlanFoodRow : OpenClaim := { program := "ytbpiojnehomljaa", sum := "3b69f23cade5bccffe91bf112e72a1769d4f0e6bd9062ea8c907d5fe88d9972f", func := "loop.example/g03008/laws.FnExactPlanFood", spec := "fnExactPlanFood", unfollowed := true, recurses := true, apart := false }
def FnExactPlanFoodSaid : Prop := fnExactPlanFoodRow.holds Try.pinned (OpenSpec.ofChange fnExactPlanFoodSpec)

/-- ITS FALSE NEIGHBOUR: 'it returns false'. Refute it at one input. -/
def fnExactPlanFoodWrong : ChangeSpec := { name := "fnExactPlanFood", fn := fun _ => fun
  | [d1, d2, d3, d4, d5] => { results := [.lit (.bool false)], args := [d1, d2, d3, d4, d5] }
  | _ => none }
def FnExactPlanFoodWrongFalsely : Prop := fnExactPlanFoodRow.holds Try.pinned (OpenSpec.ofChange fnExactPlanFoodWrong)

/-- 'laws.FnExactCountWeathers': WHATEVER THE INPUT: true; the input reads as it did. -/
def fnExactCountWeathersSpec : ChangeSpec := { name := "fnExactCountWeathers", fn := fun _ => fun
  | [d1, d2, d3] => { results := [.lit (.bool true)], args := [d1, d2, d3] }
  | _ => none }
def fnExactCountWeathersRow : OpenClaim := { program := "ytbpiojnehomljaa", sum := "3b69f23cade5bccffe91bf112e72a1769d4f0e6bd9062ea8c907d5fe88d9972f", func := "loop.example/g03008/laws.FnExactCountWeathers", spec := "fnExactCountWeathers", unfollowed := true, recurses := true, apart := false }
def FnExactCountWeathersSaid : Prop := fnExactCountWeathersRow.holds Try.pinned (OpenSpec.ofChange fnExactCountWeathersSpec)

/-- ITS FALSE NEIGHBOUR: 'it returns false'. Refute it at one input. -/
def fnExactCountWeathersWrong : ChangeSpec := { name := "fnExactCountWeathers", fn := fun _ => fun
  | [d1, d2, d3] => { results := [.lit (.bool false)], args := [d1, d2, d3] }
  | _ => none }
def FnExactCountWeathersWrongFalsely : Prop := fnExactCountWeathersRow.holds Try.pinned (OpenSpec.ofChange fnExactCountWeathersWrong)

/-- 'laws.FnExactSlowestDays': WHATEVER THE INPUT: true; the input reads as it did. -/
def fnExactSlowestDaysSpec : ChangeSpec := { name := "fnExactSlowestDays", fn := fun _ => fun
  | [d1, d2, d3] => { results := [.lit (.bool true)], args := [d1, d2, d3] }
  | _ => none }
def fnExactSlowestDaysRow : OpenClaim := { program := "ytbpiojnehomljaa", sum := "3b69f23cade5bccffe91bf112e72a1769d4f0e6bd9062ea8c907d5fe88d9972f", func := "loop.example/g03008/laws.FnExactSlowestDays", spec := "fnExactSlowestDays", unfollowed := true, recurses := true, apart := false }
def FnExactSlowestDaysSaid : Prop := fnExactSlowestDaysRow.holds Try.pinned (OpenSpec.ofChange fnExactSlowestDaysSpec)

/-- ITS FALSE NEIGHBOUR: 'it returns false'. Refute it at one input. -/
def fnExactSlowestDaysWrong : ChangeSpec := { name := "fnExactSlowestDays", fn := fun _ => fun
  | [d1, d2, d3] => { results := [.lit (.bool false)], args := [d1, d2, d3] }
  | _ => none }
def FnExactSlowestDaysWrongFalsely : Prop := fnExactSlowestDaysRow.holds Try.pinned (OpenSpec.ofChange fnExactSlowestDaysWrong)

/-- 'laws.FnExactBestLoad': WHATEVER THE INPUT: true; the input reads as it did. -/
def fnExactBestLoadSpec : ChangeSpec := { name := "fnExactBestLoad", fn := fun _ => fun
  | [d1, d2] => { results := [.lit (.bool true)], args := [d1, d2] }
  | _ => none }
def fnExactBestLoadRow : OpenClaim := { program := "ytbpiojnehomljaa", sum := "3b69f23cade5bccffe91bf112e72a1769d4f0e6bd9062ea8c907d5fe88d9972f", func := "loop.example/g03008/laws.FnExactBestLoad", spec := "fnExactBestLoad", unfollowed := true, recurses := true, apart := false }
def FnExactBestLoadSaid : Prop := fnExactBestLoadRow.holds Try.pinned (OpenSpec.ofChange fnExactBestLoadSpec)

/-- ITS FALSE NEIGHBOUR: 'it returns false'. Refute it at one input. -/
def fnExactBestLoadWrong : ChangeSpec := { name := "fnExactBestLoad", fn := fun _ => fun
  | [d1, d2] => { results := [.lit (.bool false)], args := [d1, d2] }
  | _ => none }
def FnExactBestLoadWrongFalsely : Prop := fnExactBestLoadRow.holds Try.pinned (OpenSpec.ofChange fnExactBestLoadWrong)

/-- 'laws.FnExactBestWorth': WHATEVER THE INPUT: true; the input reads as it did. -/
def fnExactBestWorthSpec : ChangeSpec := { name := "fnExactBestWorth", fn := fun _ => fun
  | [d1, d2] => { results := [.lit (.bool true)], args := [d1, d2] }
  | _ => none }
def fnExactBestWorthRow : OpenClaim := { program := "ytbpiojnehomljaa", sum := "3b69f23cade5bccffe91bf112e72a1769d4f0e6bd9062ea8c907d5fe88d9972f", func := "loop.example/g03008/laws.FnExactBestWorth", spec := "fnExactBestWorth", unfollowed := true, recurses := true, apart := false }
def FnExactBestWorthSaid : Prop := fnExactBestWorthRow.holds Try.pinned (OpenSpec.ofChange fnExactBestWorthSpec)

/-- ITS FALSE NEIGHBOUR: 'it returns false'. Refute it at one input. -/
def fnExactBestWorthWrong : ChangeSpec := { name := "fnExactBestWorth", fn := fun _ => fun
  | [d1, d2] => { results := [.lit (.bool false)], args := [d1, d2] }
  | _ => none }
def FnExactBestWorthWrongFalsely : Prop := fnExactBestWorthRow.holds Try.pinned (OpenSpec.ofChange fnExactBestWorthWrong)

/- THE SECOND FORM. 'bulk': how many values and letters a reading holds, each counted each time it is reached (what is shared counts as often as it is met; a slice's spare places count too). A statement '..UptoSaid' is the law's where the arguments, and the package variables that the reading takes, are together of bulk at most 1048576: NARROWER than '..Said'. Prove '..Said' where nothing that the law and all that it calls make is longer than what came in: it says more and counts as full. Else prove '..UptoSaid'. A law counts once. -/
mutual
def uptoBulk {H : Type} : DataW H → Nat
  | .lit (.string bytes) => bytes.length + 1
  | .lit _ => 1
  | .nil => 1
  | .ptr d => uptoBulk d + 1
  | .slice elems spare => uptoBulkAll elems + uptoBulkAll spare + 1
  | .agg parts => uptoBulkAll parts + 1
  | .iface _ d => uptoBulk d + 1
  | .map entries => uptoBulkEntries entries + 1
  | .held _ => 1
def uptoBulkAll {H : Type} : List (DataW H) → Nat
  | [] => 0
  | d :: r => uptoBulk d + uptoBulkAll r
def uptoBulkEntries {H : Type} : List (Lit × DataW H) → Nat
  | [] => 0
  | x :: r => uptoBulkEntry x + uptoBulkEntries r
def uptoBulkEntry {H : Type} : Lit × DataW H → Nat
  | (.string bytes, d) => bytes.length + uptoBulk d + 1
  | (_, d) => uptoBulk d + 1
 end
def uptoSmall : (H : Type) → List (DataW H) → Bool := fun _ ds => decide (uptoBulkAll ds ≤ 1048576)
def OpenSpec.upto (s : _root_.Go.ChangeSpec) : _root_.Go.OpenSpec := { _root_.Go.OpenSpec.ofChange s with cond := some uptoSmall }

/-- 'laws.FnExactPlanCells', WHERE WHAT IT READS IS OF BULK AT MOST 1048576: true; the input reads as it did. -/
def fnExactPlanCellsUptoRow : OpenClaim := { program := "ytbpiojnehomljaa", sum := "3b69f23cade5bccffe91bf112e72a1769d4f0e6bd9062ea8c907d5fe88d9972f", func := "loop.example/g03008/laws.FnExactPlanCells", spec := "fnExactPlanCells", unfollowed := true, recurses := true, apart := false, narrowed := true }
def FnExactPlanCellsUptoSaid : Prop := fnExactPlanCellsUptoRow.holds Try.pinned (OpenSpec.upto fnExactPlanCellsSpec)

/-- 'laws.FnExactPlanDays', WHERE WHAT IT READS IS OF BULK AT MOST 1048576: true; the input reads as it did. -/
def fnExactPlanDaysUptoRow : OpenClaim := { program := "ytbpiojnehomljaa", sum := "3b69f23cade5bccffe91bf112e72a1769d4f0e6bd9062ea8c907d5fe88d9972f", func := "loop.example/g03008/laws.FnExactPlanDays", spec := "fnExactPlanDays", unfollowed := true, recurses := true, apart := false, narrowed := true }
def FnExactPlanDaysUptoSaid : Prop := fnExactPlanDaysUptoRow.holds Try.pinned (OpenSpec.upto fnExactPlanDaysSpec)

/-- 'laws.FnExactPlanFood', WHERE WHAT IT READS IS OF BULK AT MOST 1048576: true; the input reads as it did. -/
def fnExactPlanFoodUptoRow : OpenClaim := { program := "ytbpiojnehomljaa", sum := "3b69f23cade5bccffe91bf112e72a1769d4f0e6bd9062ea8c907d5fe88d9972f", func := "loop.example/g03008/laws.FnExactPlanFood", spec := "fnExactPlanFood", unfollowed := true, recurses := true, apart := false, narrowed := true }
def FnExactPlanFoodUptoSaid : Prop := fnExactPlanFoodUptoRow.holds Try.pinned (OpenSpec.upto fnExactPlanFoodSpec)

/-- 'laws.FnExactCountWeathers', WHERE WHAT IT READS IS OF BULK AT MOST 1048576: true; the input reads as it did. -/
def fnExactCountWeathersUptoRow : OpenClaim := { program := "ytbpiojnehomljaa", sum := "3b69f23cade5bccffe91bf112e72a1769d4f0e6bd9062ea8c907d5fe88d9972f", func := "loop.example/g03008/laws.FnExactCountWeathers", spec := "fnExactCountWeathers", unfollowed := true, recurses := true, apart := false, narrowed := true }
def FnExactCountWeathersUptoSaid : Prop := fnExactCountWeathersUptoRow.holds Try.pinned (OpenSpec.upto fnExactCountWeathersSpec)

/-- 'laws.FnExactSlowestDays', WHERE WHAT IT READS IS OF BULK AT MOST 1048576: true; the input reads as it did. -/
def fnExactSlowestDaysUptoRow : OpenClaim := { program := "ytbpiojnehomljaa", sum := "3b69f23cade5bccffe91bf112e72a1769d4f0e6bd9062ea8c907d5fe88d9972f", func := "loop.example/g03008/laws.FnExactSlowestDays", spec := "fnExactSlowestDays", unfollowed := true, recurses := true, apart := false, narrowed := true }
def FnExactSlowestDaysUptoSaid : Prop := fnExactSlowestDaysUptoRow.holds Try.pinned (OpenSpec.upto fnExactSlowestDaysSpec)

/-- 'laws.FnExactBestLoad', WHERE WHAT IT READS IS OF BULK AT MOST 1048576: true; the input reads as it did. -/
def fnExactBestLoadUptoRow : OpenClaim := { program := "ytbpiojnehomljaa", sum := "3b69f23cade5bccffe91bf112e72a1769d4f0e6bd9062ea8c907d5fe88d9972f", func := "loop.example/g03008/laws.FnExactBestLoad", spec := "fnExactBestLoad", unfollowed := true, recurses := true, apart := false, narrowed := true }
def FnExactBestLoadUptoSaid : Prop := fnExactBestLoadUptoRow.holds Try.pinned (OpenSpec.upto fnExactBestLoadSpec)

/-- 'laws.FnExactBestWorth', WHERE WHAT IT READS IS OF BULK AT MOST 1048576: true; the input reads as it did. -/
def fnExactBestWorthUptoRow : OpenClaim := { program := "ytbpiojnehomljaa", sum := "3b69f23cade5bccffe91bf112e72a1769d4f0e6bd9062ea8c907d5fe88d9972f", func := "loop.example/g03008/laws.FnExactBestWorth", spec := "fnExactBestWorth", unfollowed := true, recurses := true, apart := false, narrowed := true }
def FnExactBestWorthUptoSaid : Prop := fnExactBestWorthUptoRow.holds Try.pinned (OpenSpec.upto fnExactBestWorthSpec)

end Rows
end Go.Proofs.Ytbpiojnehomljaa

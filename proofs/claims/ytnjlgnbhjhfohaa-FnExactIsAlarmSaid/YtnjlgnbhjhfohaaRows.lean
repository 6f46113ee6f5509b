/-
  No cell of these rows narrows 'for every input' (looked for: loops, veiled, ifaces, maps, wideKeys, modest, calm, conditions, laid).
  DERIVED. THE GIVEN ROWS OF THIS SEAT. 7 by the template 'for every input the law returns true; each argument reads behind the call as it read before'; 0 by the template 'total and deterministic' (their statements: YtnjlgnbhjhfohaaTotals.lean).
  GIVEN WITH THE SEED: the statements are not yours to turn. If you find one false, say at which input.
  Laid BY PROGRAM, IN A SANDBOX (cutbox-rows.mjs): the forced cells as the released guide's own fill.sh prints them over the translation 86f4010383b98a83… (all of the seat's roots in one cut). By AI agents, Wed Nov 11 2026. No macro, syntax, notation, axiom, sorry.
-/
import Derived.Test.YtnjlgnbhjhfohaaChecked
import GoSem.Claim
import GoSem.ClaimJoined
import GoSem.ClaimMapViews
import Derived.JoinedTies
import Derived.KernelRfl
namespace Go.Proofs.Ytnjlgnbhjhfohaa
/- THE CELL 'sum', in the pinned program and in every row, IS THE sha256 OF THE DUMP (.gsa) THAT YtnjlgnbhjhfohaaProg.lean LOADS. Nothing in Lean hashes anything: it is a label: what it is worth is what the hold of that sum in a sandbox is worth. -/
noncomputable def Try.pinned : Pinned := { name := "ytnjlgnbhjhfohaa", sum := "86f4010383b98a834fb164d58a028de3e2c67287c4407e9cf066b4d40a488eac", checked := Try.checked }
namespace Rows
def none {H : Type} : Left H := { results := [], args := [] }

/-- 'laws.FnExactFoodEaten': WHATEVER THE INPUT: true; the input reads as it did. -/
def fnExactFoodEatenSpec : ChangeSpec := { name := "fnExactFoodEaten", fn := fun _ => fun
  | [d1, d2] => { results := [.lit (.bool true)], args := [d1, d2] }
  | _ => none }
def fnExactFoodEatenRow : OpenClaim := { program := "ytnjlgnbhjhfohaa", sum := "86f4010383b98a834fb164d58a028de3e2c67287c4407e9cf066b4d40a488eac", func := "loop.example/g03008/laws.FnExactFoodEaten", spec := "fnExactFoodEaten", apart := false }
def FnExactFoodEatenSaid : Prop := fnExactFoodEatenRow.holds Try.pinned (OpenSpec.ofChange fnExactFoodEatenSpec)

/-- ITS FALSE NEIGHBOUR: 'it returns false'. Refute it at one input. -/
def fnExactFoodEatenWrong : ChangeSpec := { name := "fnExactFoodEaten", fn := fun _ => fun
  | [d1, d2] => { results := [.lit (.bool false)], args := [d1, d2] }
  | _ => none }
def FnExactFoodEatenWrongFalsely : Prop := fnExactFoodEatenRow.holds Try.pinned (OpenSpec.ofChange fnExactFoodEatenWrong)

/-- 'laws.FnExactIsRadio': WHATEVER THE INPUT: true; the input reads as it did. -/
def fnExactIsRadioSpec : ChangeSpec := { name := "fnExactIsRadio", fn := fun _ => fun
  | [d] => { results := [.lit (.bool true)], args := [d] }
  | _ => none }
def fnExactIsRadioRow : OpenClaim := { program := "ytnjlgnbhjhfohaa", sum := "86f4010383b98a834fb164d58a028de3e2c67287c4407e9cf066b4d40a488eac", func := "loop.example/g03008/laws.FnExactIsRadio", spec := "fnExactIsRadio", apart := false }
def FnExactIsRadioSaid : Prop := fnExactIsRadioRow.holds Try.pinned (OpenSpec.ofChange fnExactIsRadioSpec)

/-- ITS FALSE NEIGHBOUR: 'it returns false'. Refute it at one input. -/
def fnExactIsRadioWrong : ChangeSpec := { name := "fnExactIsRadio", fn := fun _ => fun
  | [d] => { results := [.lit (.bool false)], args := [d] }
  | _ => none }
def FnExactIsRadioWrongFalsely : Prop := fnExactIsRadioRow.holds Try.pinned (OpenSpec.ofChange fnExactIsRadioWrong)

/-- 'laws.FnExactHear': WHATEVER THE INPUT: true; the input reads as it did. -/
def fnExactHearSpec : ChangeSpec := { name := "fnExactHear", fn := fun _ => fun
  | [d1, d2] => { results := [.lit (.bool true)], args := [d1, d2] }
  | _ => none }
def fnExactHearRow : OpenClaim := { program := "ytnjlgnbhjhfohaa", sum := "86f4010383b98a834fb164d58a028de3e2c67287c4407e9cf066b4d40a488eac", func := "loop.example/g03008/laws.FnExactHear", spec := "fnExactHear", unfollowed := true, recurses := true, apart := false }
def FnExactHearSaid : Prop := fnExactHearRow.holds Try.pinned (OpenSpec.ofChange fnExactHearSpec)

/-- ITS FALSE NEIGHBOUR: 'it returns false'. Refute it at one input. -/
def fnExactHearWrong : ChangeSpec := { name := "fnExactHear", fn := fun _ => fun
  | [d1, d2] => { results := [.lit (.bool false)], args := [d1, d2] }
  | _ => none }
def FnExactHearWrongFalsely : Prop := fnExactHearRow.holds Try.pinned (OpenSpec.ofChange fnExactHearWrong)

/-- 'laws.FnExactMiss': WHATEVER THE INPUT: true; the input reads as it did. -/
def fnExactMissSpec : ChangeSpec := { name := "fnExactMiss", fn := fun _ => fun
  | [d1, d2] => { results := [.lit (.bool true)], args := [d1, d2] }
  | _ => none }
def fnExactMissRow : OpenClaim := { program := "ytnjlgnbhjhfohaa", sum := "86f4010383b98a834fb164d58a028de3e2c67287c4407e9cf066b4d40a488eac", func := "loop.example/g03008/laws.FnExactMiss", spec := "fnExactMiss", unfollowed := true, recurses := true, apart := false }
def FnExactMissSaid : Prop := fnExactMissRow.holds Try.pinned (OpenSpec.ofChange fnExactMissSpec)

/-- ITS FALSE NEIGHBOUR: 'it returns false'. Refute it at one input. -/
def fnExactMissWrong : ChangeSpec := { name := "fnExactMiss", fn := fun _ => fun
  | [d1, d2] => { results := [.lit (.bool false)], args := [d1, d2] }
  | _ => none }
def FnExactMissWrongFalsely : Prop := fnExactMissRow.holds Try.pinned (OpenSpec.ofChange fnExactMissWrong)

/-- 'laws.FnExactIsAlarm': WHATEVER THE INPUT: true; the input reads as it did. -/
def fnExactIsAlarmSpec : ChangeSpec := { name := "fnExactIsAlarm", fn := fun _ => fun
  | [d] => { results := [.lit (.bool true)], args := [d] }
  | _ => none }
def fnExactIsAlarmRow : OpenClaim := { program := "ytnjlgnbhjhfohaa", sum := "86f4010383b98a834fb164d58a028de3e2c67287c4407e9cf066b4d40a488eac", func := "loop.example/g03008/laws.FnExactIsAlarm", spec := "fnExactIsAlarm", apart := false }
def FnExactIsAlarmSaid : Prop := fnExactIsAlarmRow.holds Try.pinned (OpenSpec.ofChange fnExactIsAlarmSpec)

/-- ITS FALSE NEIGHBOUR: 'it returns false'. Refute it at one input. -/
def fnExactIsAlarmWrong : ChangeSpec := { name := "fnExactIsAlarm", fn := fun _ => fun
  | [d] => { results := [.lit (.bool false)], args := [d] }
  | _ => none }
def FnExactIsAlarmWrongFalsely : Prop := fnExactIsAlarmRow.holds Try.pinned (OpenSpec.ofChange fnExactIsAlarmWrong)

/-- 'laws.FnExactAlarmHour': WHATEVER THE INPUT: true; the input reads as it did. -/
def fnExactAlarmHourSpec : ChangeSpec := { name := "fnExactAlarmHour", fn := fun _ => fun
  | [d] => { results := [.lit (.bool true)], args := [d] }
  | _ => none }
def fnExactAlarmHourRow : OpenClaim := { program := "ytnjlgnbhjhfohaa", sum := "86f4010383b98a834fb164d58a028de3e2c67287c4407e9cf066b4d40a488eac", func := "loop.example/g03008/laws.FnExactAlarmHour", spec := "fnExactAlarmHour", apart := false }
def FnExactAlarmHourSaid : Prop := fnExactAlarmHourRow.holds Try.pinned (OpenSpec.ofChange fnExactAlarmHourSpec)

/-- ITS FALSE NEIGHBOUR: 'it returns false'. Refute it at one input. -/
def fnExactAlarmHourWrong : ChangeSpec := { name := "fnExactAlarmHour", fn := fun _ => fun
  | [d] => { results := [.lit (.bool false)], args := [d] }
  | _ => none }
def FnExactAlarmHourWrongFalsely : Prop := fnExactAlarmHourRow.holds Try.pinned (OpenSpec.ofChange fnExactAlarmHourWrong)

/-- 'laws.FnRadio': WHATEVER THE INPUT: true; the input reads as it did. -/
def fnRadioSpec : ChangeSpec := { name := "fnRadio", fn := fun _ => fun
  | [d] => { results := [.lit (.bool true)], args := [d] }
  | _ => none }
def fnRadioRow : OpenClaim := { program := "ytnjlgnbhjhfohaa", sum := "86f4010383b98a834fb164d58a028de3e2c67287c4407e9cf066b4d40a488eac", func := "loop.example/g03008/laws.FnRadio", spec := "fnRadio", unfollowed := true, recurses := true, apart := false }
def FnRadioSaid : Prop := fnRadioRow.holds Try.pinned (OpenSpec.ofChange fnRadioSpec)

/-- ITS FALSE NEIGHBOUR: 'it returns false'. Refute it at one input. -/
def fnRadioWrong : ChangeSpec := { name := "fnRadio", fn := fun _ => fun
  | [d] => { results := [.lit (.bool false)], args := [d] }
  | _ => none }
def FnRadioWrongFalsely : Prop := fnRadioRow.holds Try.pinned (OpenSpec.ofChange fnRadioWrong)

/- THE SECOND FORM. 'bulk': how many values and letters a reading holds, each counted each time it is reached (what is shared counts as often as it is met; a slice's spare places count too). A statement '..UptoSaid' is the law's where the arguments, and the package variables that the reading takes, are together of bulk at most 1048576: NARROWER than '..Said'. Prove '..Said' where nothing that the law and all that it calls make is longer than what came in: it says more and counts as full. Else prove '..UptoSaid'. A law counts once. -/
mutual
def uptoBulk {H : Type} : DataW H → Nat
  | .lit (.string bytes) => bytes.length + 1
  | .lit _ => 1
  | .nil => 1
  | .ptr d => uptoBulk d + 1
  | .slice elems spare => uptoBulkAll elems + uptoBulkAll spare + 1
  | .agg parts => uptoBulkAll parts + 1
  | .iface _ d => uptoBulk d + 1
  | .map entries => uptoBulkEntries entries + 1
  | .held _ => 1
def uptoBulkAll {H : Type} : List (DataW H) → Nat
  | [] => 0
  | d :: r => uptoBulk d + uptoBulkAll r
def uptoBulkEntries {H : Type} : List (Lit × DataW H) → Nat
  | [] => 0
  | x :: r => uptoBulkEntry x + uptoBulkEntries r
def uptoBulkEntry {H : Type} : Lit × DataW H → Nat
  | (.string bytes, d) => bytes.length + uptoBulk d + 1
  | (_, d) => uptoBulk d + 1
 end
def uptoSmall : (H : Type) → List (DataW H) → Bool := fun _ ds => decide (uptoBulkAll ds ≤ 1048576)
def OpenSpec.upto (s : _root_.Go.ChangeSpec) : _root_.Go.OpenSpec := { _root_.Go.OpenSpec.ofChange s with cond := some uptoSmall }

/-- 'laws.FnExactFoodEaten', WHERE WHAT IT READS IS OF BULK AT MOST 1048576: true; the input reads as it did. -/
def fnExactFoodEatenUptoRow : OpenClaim := { program := "ytnjlgnbhjhfohaa", sum := "86f4010383b98a834fb164d58a028de3e2c67287c4407e9cf066b4d40a488eac", func := "loop.example/g03008/laws.FnExactFoodEaten", spec := "fnExactFoodEaten", apart := false, narrowed := true }
def FnExactFoodEatenUptoSaid : Prop := fnExactFoodEatenUptoRow.holds Try.pinned (OpenSpec.upto fnExactFoodEatenSpec)

/-- 'laws.FnExactIsRadio', WHERE WHAT IT READS IS OF BULK AT MOST 1048576: true; the input reads as it did. -/
def fnExactIsRadioUptoRow : OpenClaim := { program := "ytnjlgnbhjhfohaa", sum := "86f4010383b98a834fb164d58a028de3e2c67287c4407e9cf066b4d40a488eac", func := "loop.example/g03008/laws.FnExactIsRadio", spec := "fnExactIsRadio", apart := false, narrowed := true }
def FnExactIsRadioUptoSaid : Prop := fnExactIsRadioUptoRow.holds Try.pinned (OpenSpec.upto fnExactIsRadioSpec)

/-- 'laws.FnExactHear', WHERE WHAT IT READS IS OF BULK AT MOST 1048576: true; the input reads as it did. -/
def fnExactHearUptoRow : OpenClaim := { program := "ytnjlgnbhjhfohaa", sum := "86f4010383b98a834fb164d58a028de3e2c67287c4407e9cf066b4d40a488eac", func := "loop.example/g03008/laws.FnExactHear", spec := "fnExactHear", unfollowed := true, recurses := true, apart := false, narrowed := true }
def FnExactHearUptoSaid : Prop := fnExactHearUptoRow.holds Try.pinned (OpenSpec.upto fnExactHearSpec)

/-- 'laws.FnExactMiss', WHERE WHAT IT READS IS OF BULK AT MOST 1048576: true; the input reads as it did. -/
def fnExactMissUptoRow : OpenClaim := { program := "ytnjlgnbhjhfohaa", sum := "86f4010383b98a834fb164d58a028de3e2c67287c4407e9cf066b4d40a488eac", func := "loop.example/g03008/laws.FnExactMiss", spec := "fnExactMiss", unfollowed := true, recurses := true, apart := false, narrowed := true }
def FnExactMissUptoSaid : Prop := fnExactMissUptoRow.holds Try.pinned (OpenSpec.upto fnExactMissSpec)

/-- 'laws.FnExactIsAlarm', WHERE WHAT IT READS IS OF BULK AT MOST 1048576: true; the input reads as it did. -/
def fnExactIsAlarmUptoRow : OpenClaim := { program := "ytnjlgnbhjhfohaa", sum := "86f4010383b98a834fb164d58a028de3e2c67287c4407e9cf066b4d40a488eac", func := "loop.example/g03008/laws.FnExactIsAlarm", spec := "fnExactIsAlarm", apart := false, narrowed := true }
def FnExactIsAlarmUptoSaid : Prop := fnExactIsAlarmUptoRow.holds Try.pinned (OpenSpec.upto fnExactIsAlarmSpec)

/-- 'laws.FnExactAlarmHour', WHERE WHAT IT READS IS OF BULK AT MOST 1048576: true; the input reads as it did. -/
def fnExactAlarmHourUptoRow : OpenClaim := { program := "ytnjlgnbhjhfohaa", sum := "86f4010383b98a834fb164d58a028de3e2c67287c4407e9cf066b4d40a488eac", func := "loop.example/g03008/laws.FnExactAlarmHour", spec := "fnExactAlarmHour", apart := false, narrowed := true }
def FnExactAlarmHourUptoSaid : Prop := fnExactAlarmHourUptoRow.holds Try.pinned (OpenSpec.upto fnExactAlarmHourSpec)

/-- 'laws.FnRadio', WHERE WHAT IT READS IS OF BULK AT MOST 1048576: true; the input reads as it did. -/
def fnRadioUptoRow : OpenClaim := { program := "ytnjlgnbhjhfohaa", sum := "86f4010383b98a834fb164d58a028de3e2c67287c4407e9cf066b4d40a488eac", func := "loop.example/g03008/laws.FnRadio", spec := "fnRadio", unfollowed := true, recurses := true, apart := false, narrowed := true }
def FnRadioUptoSaid : Prop := fnRadioUptoRow.holds Try.pinned (OpenSpec.upto fnRadioSpec)

end Rows
end Go.Proofs.Ytnjlgnbhjhfohaa

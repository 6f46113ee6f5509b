/-
  No cell of these rows narrows 'for every input' (looked for: loops, veiled, ifaces, maps, wideKeys, modest, calm, conditions, laid).
  DERIVED. THE GIVEN ROWS OF THIS SEAT. 12 by the template 'for every input the law returns true; each argument reads behind the call as it read before'; 0 by the template 'total and deterministic' (their statements: YtonalkamfgpokaaGreatTotals.lean).
  GIVEN WITH THE SEED: the statements are not yours to turn. If you find one false, say at which input.
  Laid BY PROGRAM, IN A SANDBOX (cutbox-rows.mjs): the forced cells as the released guide's own fill.sh prints them over the translation e0cb0ce129ef74b6… (all of the seat's roots in one cut). By AI agents, Wed Nov 11 2026. No macro, syntax, notation, axiom, sorry.
-/
import Derived.Test.YtonalkamfgpokaaGreatChecked
import GoSem.Claim
import GoSem.ClaimJoined
import GoSem.ClaimMapViews
import Derived.JoinedTies
import Derived.KernelRfl
namespace Go.Proofs.YtonalkamfgpokaaGreat
/- THE CELL 'sum', in the pinned program and in every row, IS THE sha256 OF THE DUMP (.gsa) THAT YtonalkamfgpokaaGreatProg.lean LOADS. Nothing in Lean hashes anything: it is a label: what it is worth is what the hold of that sum in a sandbox is worth. -/
noncomputable def Tryz.pinned : Pinned := { name := "ytonalkamfgpokaagreat", sum := "e0cb0ce129ef74b6938884fbbdb2a89a9f6175d1fbab27e0f79a275c7e056845", checked := Tryz.checked }
namespace Rows
def none {H : Type} : Left H := { results := [], args := [] }

/-- 'laws.FnExactCanReturnNow': WHATEVER THE INPUT: true; the input reads as it did. -/
def fnExactCanReturnNowSpec : ChangeSpec := { name := "fnExactCanReturnNow", fn := fun _ => fun
  | [d] => { results := [.lit (.bool true)], args := [d] }
  | _ => none }
def fnExactCanReturnNowRow : OpenClaim := { program := "ytonalkamfgpokaagreat", sum := "e0cb0ce129ef74b6938884fbbdb2a89a9f6175d1fbab27e0f79a275c7e056845", func := "loop.example/g03008/laws.FnExactCanReturnNow", spec := "fnExactCanReturnNow", inPlace := ["internal/abi.NoEscape"], unfollowed := true, recurses := true, apart := false }
def FnExactCanReturnNowSaid : Prop := fnExactCanReturnNowRow.holds Tryz.pinned (OpenSpec.ofChange fnExactCanReturnNowSpec)

/-- ITS FALSE NEIGHBOUR: 'it returns false'. Refute it at one input. -/
def fnExactCanReturnNowWrong : ChangeSpec := { name := "fnExactCanReturnNow", fn := fun _ => fun
  | [d] => { results := [.lit (.bool false)], args := [d] }
  | _ => none }
def FnExactCanReturnNowWrongFalsely : Prop := fnExactCanReturnNowRow.holds Tryz.pinned (OpenSpec.ofChange fnExactCanReturnNowWrong)

/-- 'laws.FnExactMustTurn': WHATEVER THE INPUT: true; the input reads as it did. -/
def fnExactMustTurnSpec : ChangeSpec := { name := "fnExactMustTurn", fn := fun _ => fun
  | [d1, d2, d3, d4, d5] => { results := [.lit (.bool true)], args := [d1, d2, d3, d4, d5] }
  | _ => none }
def fnExactMustTurnRow : OpenClaim := { program := "ytonalkamfgpokaagreat", sum := "e0cb0ce129ef74b6938884fbbdb2a89a9f6175d1fbab27e0f79a275c7e056845", func := "loop.example/g03008/laws.FnExactMustTurn", spec := "fnExactMustTurn", inPlace := ["internal/abi.NoEscape"], unfollowed := true, recurses := true, apart := false }
def FnExactMustTurnSaid : Prop := fnExactMustTurnRow.holds Tryz.pinned (OpenSpec.ofChange fnExactMustTurnSpec)

/-- ITS FALSE NEIGHBOUR: 'it returns false'. Refute it at one input. -/
def fnExactMustTurnWrong : ChangeSpec := { name := "fnExactMustTurn", fn := fun _ => fun
  | [d1, d2, d3, d4, d5] => { results := [.lit (.bool false)], args := [d1, d2, d3, d4, d5] }
  | _ => none }
def FnExactMustTurnWrongFalsely : Prop := fnExactMustTurnRow.holds Tryz.pinned (OpenSpec.ofChange fnExactMustTurnWrong)

/-- 'laws.FnExactSafeTargets': WHATEVER THE INPUT: true; the input reads as it did. -/
def fnExactSafeTargetsSpec : ChangeSpec := { name := "fnExactSafeTargets", fn := fun _ => fun
  | [d1, d2, d3, d4, d5] => { results := [.lit (.bool true)], args := [d1, d2, d3, d4, d5] }
  | _ => none }
def fnExactSafeTargetsRow : OpenClaim := { program := "ytonalkamfgpokaagreat", sum := "e0cb0ce129ef74b6938884fbbdb2a89a9f6175d1fbab27e0f79a275c7e056845", func := "loop.example/g03008/laws.FnExactSafeTargets", spec := "fnExactSafeTargets", inPlace := ["internal/abi.NoEscape"], unfollowed := true, recurses := true, apart := false }
def FnExactSafeTargetsSaid : Prop := fnExactSafeTargetsRow.holds Tryz.pinned (OpenSpec.ofChange fnExactSafeTargetsSpec)

/-- ITS FALSE NEIGHBOUR: 'it returns false'. Refute it at one input. -/
def fnExactSafeTargetsWrong : ChangeSpec := { name := "fnExactSafeTargets", fn := fun _ => fun
  | [d1, d2, d3, d4, d5] => { results := [.lit (.bool false)], args := [d1, d2, d3, d4, d5] }
  | _ => none }
def FnExactSafeTargetsWrongFalsely : Prop := fnExactSafeTargetsRow.holds Tryz.pinned (OpenSpec.ofChange fnExactSafeTargetsWrong)

/-- 'laws.FnExactGoStep': WHATEVER THE INPUT: true; the input reads as it did. -/
def fnExactGoStepSpec : ChangeSpec := { name := "fnExactGoStep", fn := fun _ => fun
  | [d1, d2, d3, d4, d5, d6, d7] => { results := [.lit (.bool true)], args := [d1, d2, d3, d4, d5, d6, d7] }
  | _ => none }
def fnExactGoStepRow : OpenClaim := { program := "ytonalkamfgpokaagreat", sum := "e0cb0ce129ef74b6938884fbbdb2a89a9f6175d1fbab27e0f79a275c7e056845", func := "loop.example/g03008/laws.FnExactGoStep", spec := "fnExactGoStep", inPlace := ["internal/abi.NoEscape"], unfollowed := true, recurses := true, apart := false }
def FnExactGoStepSaid : Prop := fnExactGoStepRow.holds Tryz.pinned (OpenSpec.ofChange fnExactGoStepSpec)

/-- ITS FALSE NEIGHBOUR: 'it returns false'. Refute it at one input. -/
def fnExactGoStepWrong : ChangeSpec := { name := "fnExactGoStep", fn := fun _ => fun
  | [d1, d2, d3, d4, d5, d6, d7] => { results := [.lit (.bool false)], args := [d1, d2, d3, d4, d5, d6, d7] }
  | _ => none }
def FnExactGoStepWrongFalsely : Prop := fnExactGoStepRow.holds Tryz.pinned (OpenSpec.ofChange fnExactGoStepWrong)

/-- 'laws.FnExactWaitStep': WHATEVER THE INPUT: true; the input reads as it did. -/
def fnExactWaitStepSpec : ChangeSpec := { name := "fnExactWaitStep", fn := fun _ => fun
  | [d1, d2, d3, d4, d5, d6] => { results := [.lit (.bool true)], args := [d1, d2, d3, d4, d5, d6] }
  | _ => none }
def fnExactWaitStepRow : OpenClaim := { program := "ytonalkamfgpokaagreat", sum := "e0cb0ce129ef74b6938884fbbdb2a89a9f6175d1fbab27e0f79a275c7e056845", func := "loop.example/g03008/laws.FnExactWaitStep", spec := "fnExactWaitStep", inPlace := ["internal/abi.NoEscape"], unfollowed := true, recurses := true, apart := false }
def FnExactWaitStepSaid : Prop := fnExactWaitStepRow.holds Tryz.pinned (OpenSpec.ofChange fnExactWaitStepSpec)

/-- ITS FALSE NEIGHBOUR: 'it returns false'. Refute it at one input. -/
def fnExactWaitStepWrong : ChangeSpec := { name := "fnExactWaitStep", fn := fun _ => fun
  | [d1, d2, d3, d4, d5, d6] => { results := [.lit (.bool false)], args := [d1, d2, d3, d4, d5, d6] }
  | _ => none }
def FnExactWaitStepWrongFalsely : Prop := fnExactWaitStepRow.holds Tryz.pinned (OpenSpec.ofChange fnExactWaitStepWrong)

/-- 'laws.FnExactReturnStep': WHATEVER THE INPUT: true; the input reads as it did. -/
def fnExactReturnStepSpec : ChangeSpec := { name := "fnExactReturnStep", fn := fun _ => fun
  | [d1, d2, d3, d4, d5, d6] => { results := [.lit (.bool true)], args := [d1, d2, d3, d4, d5, d6] }
  | _ => none }
def fnExactReturnStepRow : OpenClaim := { program := "ytonalkamfgpokaagreat", sum := "e0cb0ce129ef74b6938884fbbdb2a89a9f6175d1fbab27e0f79a275c7e056845", func := "loop.example/g03008/laws.FnExactReturnStep", spec := "fnExactReturnStep", inPlace := ["internal/abi.NoEscape"], unfollowed := true, recurses := true, apart := false }
def FnExactReturnStepSaid : Prop := fnExactReturnStepRow.holds Tryz.pinned (OpenSpec.ofChange fnExactReturnStepSpec)

/-- ITS FALSE NEIGHBOUR: 'it returns false'. Refute it at one input. -/
def fnExactReturnStepWrong : ChangeSpec := { name := "fnExactReturnStep", fn := fun _ => fun
  | [d1, d2, d3, d4, d5, d6] => { results := [.lit (.bool false)], args := [d1, d2, d3, d4, d5, d6] }
  | _ => none }
def FnExactReturnStepWrongFalsely : Prop := fnExactReturnStepRow.holds Tryz.pinned (OpenSpec.ofChange fnExactReturnStepWrong)

/-- 'laws.FnExactLayStep': WHATEVER THE INPUT: true; the input reads as it did. -/
def fnExactLayStepSpec : ChangeSpec := { name := "fnExactLayStep", fn := fun _ => fun
  | [d1, d2, d3, d4, d5, d6] => { results := [.lit (.bool true)], args := [d1, d2, d3, d4, d5, d6] }
  | _ => none }
def fnExactLayStepRow : OpenClaim := { program := "ytonalkamfgpokaagreat", sum := "e0cb0ce129ef74b6938884fbbdb2a89a9f6175d1fbab27e0f79a275c7e056845", func := "loop.example/g03008/laws.FnExactLayStep", spec := "fnExactLayStep", inPlace := ["internal/abi.NoEscape"], unfollowed := true, recurses := true, apart := false }
def FnExactLayStepSaid : Prop := fnExactLayStepRow.holds Tryz.pinned (OpenSpec.ofChange fnExactLayStepSpec)

/-- ITS FALSE NEIGHBOUR: 'it returns false'. Refute it at one input. -/
def fnExactLayStepWrong : ChangeSpec := { name := "fnExactLayStep", fn := fun _ => fun
  | [d1, d2, d3, d4, d5, d6] => { results := [.lit (.bool false)], args := [d1, d2, d3, d4, d5, d6] }
  | _ => none }
def FnExactLayStepWrongFalsely : Prop := fnExactLayStepRow.holds Tryz.pinned (OpenSpec.ofChange fnExactLayStepWrong)

/-- 'laws.FnExactTakeStep': WHATEVER THE INPUT: true; the input reads as it did. -/
def fnExactTakeStepSpec : ChangeSpec := { name := "fnExactTakeStep", fn := fun _ => fun
  | [d1, d2, d3, d4, d5, d6] => { results := [.lit (.bool true)], args := [d1, d2, d3, d4, d5, d6] }
  | _ => none }
def fnExactTakeStepRow : OpenClaim := { program := "ytonalkamfgpokaagreat", sum := "e0cb0ce129ef74b6938884fbbdb2a89a9f6175d1fbab27e0f79a275c7e056845", func := "loop.example/g03008/laws.FnExactTakeStep", spec := "fnExactTakeStep", inPlace := ["internal/abi.NoEscape"], unfollowed := true, recurses := true, apart := false }
def FnExactTakeStepSaid : Prop := fnExactTakeStepRow.holds Tryz.pinned (OpenSpec.ofChange fnExactTakeStepSpec)

/-- ITS FALSE NEIGHBOUR: 'it returns false'. Refute it at one input. -/
def fnExactTakeStepWrong : ChangeSpec := { name := "fnExactTakeStep", fn := fun _ => fun
  | [d1, d2, d3, d4, d5, d6] => { results := [.lit (.bool false)], args := [d1, d2, d3, d4, d5, d6] }
  | _ => none }
def FnExactTakeStepWrongFalsely : Prop := fnExactTakeStepRow.holds Tryz.pinned (OpenSpec.ofChange fnExactTakeStepWrong)

/-- 'laws.FnExactMayLay': WHATEVER THE INPUT: true; the input reads as it did. -/
def fnExactMayLaySpec : ChangeSpec := { name := "fnExactMayLay", fn := fun _ => fun
  | [d1, d2, d3, d4, d5, d6] => { results := [.lit (.bool true)], args := [d1, d2, d3, d4, d5, d6] }
  | _ => none }
def fnExactMayLayRow : OpenClaim := { program := "ytonalkamfgpokaagreat", sum := "e0cb0ce129ef74b6938884fbbdb2a89a9f6175d1fbab27e0f79a275c7e056845", func := "loop.example/g03008/laws.FnExactMayLay", spec := "fnExactMayLay", inPlace := ["internal/abi.NoEscape"], unfollowed := true, recurses := true, apart := false }
def FnExactMayLaySaid : Prop := fnExactMayLayRow.holds Tryz.pinned (OpenSpec.ofChange fnExactMayLaySpec)

/-- ITS FALSE NEIGHBOUR: 'it returns false'. Refute it at one input. -/
def fnExactMayLayWrong : ChangeSpec := { name := "fnExactMayLay", fn := fun _ => fun
  | [d1, d2, d3, d4, d5, d6] => { results := [.lit (.bool false)], args := [d1, d2, d3, d4, d5, d6] }
  | _ => none }
def FnExactMayLayWrongFalsely : Prop := fnExactMayLayRow.holds Tryz.pinned (OpenSpec.ofChange fnExactMayLayWrong)

/-- 'laws.FnExactReturnAll': WHATEVER THE INPUT: true; the input reads as it did. -/
def fnExactReturnAllSpec : ChangeSpec := { name := "fnExactReturnAll", fn := fun _ => fun
  | [d1, d2, d3, d4, d5, d6] => { results := [.lit (.bool true)], args := [d1, d2, d3, d4, d5, d6] }
  | _ => none }
def fnExactReturnAllRow : OpenClaim := { program := "ytonalkamfgpokaagreat", sum := "e0cb0ce129ef74b6938884fbbdb2a89a9f6175d1fbab27e0f79a275c7e056845", func := "loop.example/g03008/laws.FnExactReturnAll", spec := "fnExactReturnAll", inPlace := ["internal/abi.NoEscape"], unfollowed := true, recurses := true, apart := false }
def FnExactReturnAllSaid : Prop := fnExactReturnAllRow.holds Tryz.pinned (OpenSpec.ofChange fnExactReturnAllSpec)

/-- ITS FALSE NEIGHBOUR: 'it returns false'. Refute it at one input. -/
def fnExactReturnAllWrong : ChangeSpec := { name := "fnExactReturnAll", fn := fun _ => fun
  | [d1, d2, d3, d4, d5, d6] => { results := [.lit (.bool false)], args := [d1, d2, d3, d4, d5, d6] }
  | _ => none }
def FnExactReturnAllWrongFalsely : Prop := fnExactReturnAllRow.holds Tryz.pinned (OpenSpec.ofChange fnExactReturnAllWrong)

/-- 'laws.FnExactIsSafeWay': WHATEVER THE INPUT: true; the input reads as it did. -/
def fnExactIsSafeWaySpec : ChangeSpec := { name := "fnExactIsSafeWay", fn := fun _ => fun
  | [d1, d2, d3, d4, d5, d6] => { results := [.lit (.bool true)], args := [d1, d2, d3, d4, d5, d6] }
  | _ => none }
def fnExactIsSafeWayRow : OpenClaim := { program := "ytonalkamfgpokaagreat", sum := "e0cb0ce129ef74b6938884fbbdb2a89a9f6175d1fbab27e0f79a275c7e056845", func := "loop.example/g03008/laws.FnExactIsSafeWay", spec := "fnExactIsSafeWay", inPlace := ["internal/abi.NoEscape"], unfollowed := true, recurses := true, apart := false }
def FnExactIsSafeWaySaid : Prop := fnExactIsSafeWayRow.holds Tryz.pinned (OpenSpec.ofChange fnExactIsSafeWaySpec)

/-- ITS FALSE NEIGHBOUR: 'it returns false'. Refute it at one input. -/
def fnExactIsSafeWayWrong : ChangeSpec := { name := "fnExactIsSafeWay", fn := fun _ => fun
  | [d1, d2, d3, d4, d5, d6] => { results := [.lit (.bool false)], args := [d1, d2, d3, d4, d5, d6] }
  | _ => none }
def FnExactIsSafeWayWrongFalsely : Prop := fnExactIsSafeWayRow.holds Tryz.pinned (OpenSpec.ofChange fnExactIsSafeWayWrong)

/-- 'laws.FnExactLatestTurn': WHATEVER THE INPUT: true; the input reads as it did. -/
def fnExactLatestTurnSpec : ChangeSpec := { name := "fnExactLatestTurn", fn := fun _ => fun
  | [d1, d2, d3, d4, d5] => { results := [.lit (.bool true)], args := [d1, d2, d3, d4, d5] }
  | _ => none }
def fnExactLatestTurnRow : OpenClaim := { program := "ytonalkamfgpokaagreat", sum := "e0cb0ce129ef74b6938884fbbdb2a89a9f6175d1fbab27e0f79a275c7e056845", func := "loop.example/g03008/laws.FnExactLatestTurn", spec := "fnExactLatestTurn", inPlace := ["internal/abi.NoEscape"], unfollowed := true, recurses := true, apart := false }
def FnExactLatestTurnSaid : Prop := fnExactLatestTurnRow.holds Tryz.pinned (OpenSpec.ofChange fnExactLatestTurnSpec)

/-- ITS FALSE NEIGHBOUR: 'it returns false'. Refute it at one input. -/
def fnExactLatestTurnWrong : ChangeSpec := { name := "fnExactLatestTurn", fn := fun _ => fun
  | [d1, d2, d3, d4, d5] => { results := [.lit (.bool false)], args := [d1, d2, d3, d4, d5] }
  | _ => none }
def FnExactLatestTurnWrongFalsely : Prop := fnExactLatestTurnRow.holds Tryz.pinned (OpenSpec.ofChange fnExactLatestTurnWrong)

/- THE SECOND FORM. 'bulk': how many values and letters a reading holds, each counted each time it is reached (what is shared counts as often as it is met; a slice's spare places count too). A statement '..UptoSaid' is the law's where the arguments, and the package variables that the reading takes, are together of bulk at most 1048576: NARROWER than '..Said'. Prove '..Said' where nothing that the law and all that it calls make is longer than what came in: it says more and counts as full. Else prove '..UptoSaid'. A law counts once. -/
mutual
def uptoBulk {H : Type} : DataW H → Nat
  | .lit (.string bytes) => bytes.length + 1
  | .lit _ => 1
  | .nil => 1
  | .ptr d => uptoBulk d + 1
  | .slice elems spare => uptoBulkAll elems + uptoBulkAll spare + 1
  | .agg parts => uptoBulkAll parts + 1
  | .iface _ d => uptoBulk d + 1
  | .map entries => uptoBulkEntries entries + 1
  | .held _ => 1
def uptoBulkAll {H : Type} : List (DataW H) → Nat
  | [] => 0
  | d :: r => uptoBulk d + uptoBulkAll r
def uptoBulkEntries {H : Type} : List (Lit × DataW H) → Nat
  | [] => 0
  | x :: r => uptoBulkEntry x + uptoBulkEntries r
def uptoBulkEntry {H : Type} : Lit × DataW H → Nat
  | (.string bytes, d) => bytes.length + uptoBulk d + 1
  | (_, d) => uptoBulk d + 1
 end
def uptoSmall : (H : Type) → List (DataW H) → Bool := fun _ ds => decide (uptoBulkAll ds ≤ 1048576)
def OpenSpec.upto (s : _root_.Go.ChangeSpec) : _root_.Go.OpenSpec := { _root_.Go.OpenSpec.ofChange s with cond := some uptoSmall }

/-- 'laws.FnExactCanReturnNow', WHERE WHAT IT READS IS OF BULK AT MOST 1048576: true; the input reads as it did. -/
def fnExactCanReturnNowUptoRow : OpenClaim := { program := "ytonalkamfgpokaagreat", sum := "e0cb0ce129ef74b6938884fbbdb2a89a9f6175d1fbab27e0f79a275c7e056845", func := "loop.example/g03008/laws.FnExactCanReturnNow", spec := "fnExactCanReturnNow", inPlace := ["internal/abi.NoEscape"], unfollowed := true, recurses := true, apart := false, narrowed := true }
def FnExactCanReturnNowUptoSaid : Prop := fnExactCanReturnNowUptoRow.holds Tryz.pinned (OpenSpec.upto fnExactCanReturnNowSpec)

/-- 'laws.FnExactMustTurn', WHERE WHAT IT READS IS OF BULK AT MOST 1048576: true; the input reads as it did. -/
def fnExactMustTurnUptoRow : OpenClaim := { program := "ytonalkamfgpokaagreat", sum := "e0cb0ce129ef74b6938884fbbdb2a89a9f6175d1fbab27e0f79a275c7e056845", func := "loop.example/g03008/laws.FnExactMustTurn", spec := "fnExactMustTurn", inPlace := ["internal/abi.NoEscape"], unfollowed := true, recurses := true, apart := false, narrowed := true }
def FnExactMustTurnUptoSaid : Prop := fnExactMustTurnUptoRow.holds Tryz.pinned (OpenSpec.upto fnExactMustTurnSpec)

/-- 'laws.FnExactSafeTargets', WHERE WHAT IT READS IS OF BULK AT MOST 1048576: true; the input reads as it did. -/
def fnExactSafeTargetsUptoRow : OpenClaim := { program := "ytonalkamfgpokaagreat", sum := "e0cb0ce129ef74b6938884fbbdb2a89a9f6175d1fbab27e0f79a275c7e056845", func := "loop.example/g03008/laws.FnExactSafeTargets", spec := "fnExactSafeTargets", inPlace := ["internal/abi.NoEscape"], unfollowed := true, recurses := true, apart := false, narrowed := true }
def FnExactSafeTargetsUptoSaid : Prop := fnExactSafeTargetsUptoRow.holds Tryz.pinned (OpenSpec.upto fnExactSafeTargetsSpec)

/-- 'laws.FnExactGoStep', WHERE WHAT IT READS IS OF BULK AT MOST 1048576: true; the input reads as it did. -/
def fnExactGoStepUptoRow : OpenClaim := { program := "ytonalkamfgpokaagreat", sum := "e0cb0ce129ef74b6938884fbbdb2a89a9f6175d1fbab27e0f79a275c7e056845", func := "loop.example/g03008/laws.FnExactGoStep", spec := "fnExactGoStep", inPlace := ["internal/abi.NoEscape"], unfollowed := true, recurses := true, apart := false, narrowed := true }
def FnExactGoStepUptoSaid : Prop := fnExactGoStepUptoRow.holds Tryz.pinned (OpenSpec.upto fnExactGoStepSpec)

/-- 'laws.FnExactWaitStep', WHERE WHAT IT READS IS OF BULK AT MOST 1048576: true; the input reads as it did. -/
def fnExactWaitStepUptoRow : OpenClaim := { program := "ytonalkamfgpokaagreat", sum := "e0cb0ce129ef74b6938884fbbdb2a89a9f6175d1fbab27e0f79a275c7e056845", func := "loop.example/g03008/laws.FnExactWaitStep", spec := "fnExactWaitStep", inPlace := ["internal/abi.NoEscape"], unfollowed := true, recurses := true, apart := false, narrowed := true }
def FnExactWaitStepUptoSaid : Prop := fnExactWaitStepUptoRow.holds Tryz.pinned (OpenSpec.upto fnExactWaitStepSpec)

/-- 'laws.FnExactReturnStep', WHERE WHAT IT READS IS OF BULK AT MOST 1048576: true; the input reads as it did. -/
def fnExactReturnStepUptoRow : OpenClaim := { program := "ytonalkamfgpokaagreat", sum := "e0cb0ce129ef74b6938884fbbdb2a89a9f6175d1fbab27e0f79a275c7e056845", func := "loop.example/g03008/laws.FnExactReturnStep", spec := "fnExactReturnStep", inPlace := ["internal/abi.NoEscape"], unfollowed := true, recurses := true, apart := false, narrowed := true }
def FnExactReturnStepUptoSaid : Prop := fnExactReturnStepUptoRow.holds Tryz.pinned (OpenSpec.upto fnExactReturnStepSpec)

/-- 'laws.FnExactLayStep', WHERE WHAT IT READS IS OF BULK AT MOST 1048576: true; the input reads as it did. -/
def fnExactLayStepUptoRow : OpenClaim := { program := "ytonalkamfgpokaagreat", sum := "e0cb0ce129ef74b6938884fbbdb2a89a9f6175d1fbab27e0f79a275c7e056845", func := "loop.example/g03008/laws.FnExactLayStep", spec := "fnExactLayStep", inPlace := ["internal/abi.NoEscape"], unfollowed := true, recurses := true, apart := false, narrowed := true }
def FnExactLayStepUptoSaid : Prop := fnExactLayStepUptoRow.holds Tryz.pinned (OpenSpec.upto fnExactLayStepSpec)

/-- 'laws.FnExactTakeStep', WHERE WHAT IT READS IS OF BULK AT MOST 1048576: true; the input reads as it did. -/
def fnExactTakeStepUptoRow : OpenClaim := { program := "ytonalkamfgpokaagreat", sum := "e0cb0ce129ef74b6938884fbbdb2a89a9f6175d1fbab27e0f79a275c7e056845", func := "loop.example/g03008/laws.FnExactTakeStep", spec := "fnExactTakeStep", inPlace := ["internal/abi.NoEscape"], unfollowed := true, recurses := true, apart := false, narrowed := true }
def FnExactTakeStepUptoSaid : Prop := fnExactTakeStepUptoRow.holds Tryz.pinned (OpenSpec.upto fnExactTakeStepSpec)

/-- 'laws.FnExactMayLay', WHERE WHAT IT READS IS OF BULK AT MOST 1048576: true; the input reads as it did. -/
def fnExactMayLayUptoRow : OpenClaim := { program := "ytonalkamfgpokaagreat", sum := "e0cb0ce129ef74b6938884fbbdb2a89a9f6175d1fbab27e0f79a275c7e056845", func := "loop.example/g03008/laws.FnExactMayLay", spec := "fnExactMayLay", inPlace := ["internal/abi.NoEscape"], unfollowed := true, recurses := true, apart := false, narrowed := true }
def FnExactMayLayUptoSaid : Prop := fnExactMayLayUptoRow.holds Tryz.pinned (OpenSpec.upto fnExactMayLaySpec)

/-- 'laws.FnExactReturnAll', WHERE WHAT IT READS IS OF BULK AT MOST 1048576: true; the input reads as it did. -/
def fnExactReturnAllUptoRow : OpenClaim := { program := "ytonalkamfgpokaagreat", sum := "e0cb0ce129ef74b6938884fbbdb2a89a9f6175d1fbab27e0f79a275c7e056845", func := "loop.example/g03008/laws.FnExactReturnAll", spec := "fnExactReturnAll", inPlace := ["internal/abi.NoEscape"], unfollowed := true, recurses := true, apart := false, narrowed := true }
def FnExactReturnAllUptoSaid : Prop := fnExactReturnAllUptoRow.holds Tryz.pinned (OpenSpec.upto fnExactReturnAllSpec)

/-- 'laws.FnExactIsSafeWay', WHERE WHAT IT READS IS OF BULK AT MOST 1048576: true; the input reads as it did. -/
def fnExactIsSafeWayUptoRow : OpenClaim := { program := "ytonalkamfgpokaagreat", sum := "e0cb0ce129ef74b6938884fbbdb2a89a9f6175d1fbab27e0f79a275c7e056845", func := "loop.example/g03008/laws.FnExactIsSafeWay", spec := "fnExactIsSafeWay", inPlace := ["internal/abi.NoEscape"], unfollowed := true, recurses := true, apart := false, narrowed := true }
def FnExactIsSafeWayUptoSaid : Prop := fnExactIsSafeWayUptoRow.holds Tryz.pinned (OpenSpec.upto fnExactIsSafeWaySpec)

/-- 'laws.FnExactLatestTurn', WHERE WHAT IT READS IS OF BULK AT MOST 1048576: true; the input reads as it did. -/
def fnExactLatestTurnUptoRow : OpenClaim := { program := "ytonalkamfgpokaagreat", sum := "e0cb0ce129ef74b6938884fbbdb2a89a9f6175d1fbab27e0f79a275c7e056845", func := "loop.example/g03008/laws.FnExactLatestTurn", spec := "fnExactLatestTurn", inPlace := ["internal/abi.NoEscape"], unfollowed := true, recurses := true, apart := false, narrowed := true }
def FnExactLatestTurnUptoSaid : Prop := fnExactLatestTurnUptoRow.holds Tryz.pinned (OpenSpec.upto fnExactLatestTurnSpec)

end Rows
end Go.Proofs.YtonalkamfgpokaaGreat

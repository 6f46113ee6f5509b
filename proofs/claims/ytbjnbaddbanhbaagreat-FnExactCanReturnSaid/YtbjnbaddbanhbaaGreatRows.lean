/-
  No cell of these rows narrows 'for every input' (looked for: loops, veiled, ifaces, maps, wideKeys, modest, calm, conditions, laid).
  DERIVED. THE GIVEN ROWS OF THIS SEAT. 12 by the template 'for every input the law returns true; each argument reads behind the call as it read before'; 0 by the template 'total and deterministic' (their statements: YtbjnbaddbanhbaaGreatTotals.lean).
  GIVEN WITH THE SEED: the statements are not yours to turn. If you find one false, say at which input.
  Laid BY PROGRAM, IN A SANDBOX (cutbox-rows.mjs): the forced cells as the released guide's own fill.sh prints them over the translation a120bd816c1868a1… (all of the seat's roots in one cut). By AI agents, Wed Nov 11 2026. No macro, syntax, notation, axiom, sorry.
-/
import Derived.Test.YtbjnbaddbanhbaaGreatChecked
import GoSem.Claim
import GoSem.ClaimJoined
import GoSem.ClaimMapViews
import Derived.JoinedTies
import Derived.KernelRfl
namespace Go.Proofs.YtbjnbaddbanhbaaGreat
/- THE CELL 'sum', in the pinned program and in every row, IS THE sha256 OF THE DUMP (.gsa) THAT YtbjnbaddbanhbaaGreatProg.lean LOADS. Nothing in Lean hashes anything: it is a label: what it is worth is what the hold of that sum in a sandbox is worth. -/
noncomputable def Tryz.pinned : Pinned := { name := "ytbjnbaddbanhbaagreat", sum := "a120bd816c1868a132000f615640e62982bd481726054bd08bbebe19d8c61588", checked := Tryz.checked }
namespace Rows
def none {H : Type} : Left H := { results := [], args := [] }

/-- 'laws.FnExactCanReturn': WHATEVER THE INPUT: true; the input reads as it did. -/
def fnExactCanReturnSpec : ChangeSpec := { name := "fnExactCanReturn", fn := fun _ => fun
  | [d1, d2, d3, d4, d5] => { results := [.lit (.bool true)], args := [d1, d2, d3, d4, d5] }
  | _ => none }
def fnExactCanReturnRow : OpenClaim := { program := "ytbjnbaddbanhbaagreat", sum := "a120bd816c1868a132000f615640e62982bd481726054bd08bbebe19d8c61588", func := "loop.example/g03008/laws.FnExactCanReturn", spec := "fnExactCanReturn", inPlace := ["internal/abi.NoEscape"], unfollowed := true, recurses := true, apart := false }
def FnExactCanReturnSaid : Prop := fnExactCanReturnRow.holds Tryz.pinned (OpenSpec.ofChange fnExactCanReturnSpec)

/-- ITS FALSE NEIGHBOUR: 'it returns false'. Refute it at one input. -/
def fnExactCanReturnWrong : ChangeSpec := { name := "fnExactCanReturn", fn := fun _ => fun
  | [d1, d2, d3, d4, d5] => { results := [.lit (.bool false)], args := [d1, d2, d3, d4, d5] }
  | _ => none }
def FnExactCanReturnWrongFalsely : Prop := fnExactCanReturnRow.holds Tryz.pinned (OpenSpec.ofChange fnExactCanReturnWrong)

/-- 'laws.FnExactLeftAtHome': WHATEVER THE INPUT: true; the input reads as it did. -/
def fnExactLeftAtHomeSpec : ChangeSpec := { name := "fnExactLeftAtHome", fn := fun _ => fun
  | [d1, d2, d3, d4, d5] => { results := [.lit (.bool true)], args := [d1, d2, d3, d4, d5] }
  | _ => none }
def fnExactLeftAtHomeRow : OpenClaim := { program := "ytbjnbaddbanhbaagreat", sum := "a120bd816c1868a132000f615640e62982bd481726054bd08bbebe19d8c61588", func := "loop.example/g03008/laws.FnExactLeftAtHome", spec := "fnExactLeftAtHome", inPlace := ["internal/abi.NoEscape"], unfollowed := true, recurses := true, apart := false }
def FnExactLeftAtHomeSaid : Prop := fnExactLeftAtHomeRow.holds Tryz.pinned (OpenSpec.ofChange fnExactLeftAtHomeSpec)

/-- ITS FALSE NEIGHBOUR: 'it returns false'. Refute it at one input. -/
def fnExactLeftAtHomeWrong : ChangeSpec := { name := "fnExactLeftAtHome", fn := fun _ => fun
  | [d1, d2, d3, d4, d5] => { results := [.lit (.bool false)], args := [d1, d2, d3, d4, d5] }
  | _ => none }
def FnExactLeftAtHomeWrongFalsely : Prop := fnExactLeftAtHomeRow.holds Tryz.pinned (OpenSpec.ofChange fnExactLeftAtHomeWrong)

/-- 'laws.FnExactReturnStep': WHATEVER THE INPUT: true; the input reads as it did. -/
def fnExactReturnStepSpec : ChangeSpec := { name := "fnExactReturnStep", fn := fun _ => fun
  | [d1, d2, d3, d4, d5, d6] => { results := [.lit (.bool true)], args := [d1, d2, d3, d4, d5, d6] }
  | _ => none }
def fnExactReturnStepRow : OpenClaim := { program := "ytbjnbaddbanhbaagreat", sum := "a120bd816c1868a132000f615640e62982bd481726054bd08bbebe19d8c61588", func := "loop.example/g03008/laws.FnExactReturnStep", spec := "fnExactReturnStep", inPlace := ["internal/abi.NoEscape"], unfollowed := true, recurses := true, apart := false }
def FnExactReturnStepSaid : Prop := fnExactReturnStepRow.holds Tryz.pinned (OpenSpec.ofChange fnExactReturnStepSpec)

/-- ITS FALSE NEIGHBOUR: 'it returns false'. Refute it at one input. -/
def fnExactReturnStepWrong : ChangeSpec := { name := "fnExactReturnStep", fn := fun _ => fun
  | [d1, d2, d3, d4, d5, d6] => { results := [.lit (.bool false)], args := [d1, d2, d3, d4, d5, d6] }
  | _ => none }
def FnExactReturnStepWrongFalsely : Prop := fnExactReturnStepRow.holds Tryz.pinned (OpenSpec.ofChange fnExactReturnStepWrong)

/-- 'laws.FnExactReturnAll': WHATEVER THE INPUT: true; the input reads as it did. -/
def fnExactReturnAllSpec : ChangeSpec := { name := "fnExactReturnAll", fn := fun _ => fun
  | [d1, d2, d3, d4, d5, d6] => { results := [.lit (.bool true)], args := [d1, d2, d3, d4, d5, d6] }
  | _ => none }
def fnExactReturnAllRow : OpenClaim := { program := "ytbjnbaddbanhbaagreat", sum := "a120bd816c1868a132000f615640e62982bd481726054bd08bbebe19d8c61588", func := "loop.example/g03008/laws.FnExactReturnAll", spec := "fnExactReturnAll", inPlace := ["internal/abi.NoEscape"], unfollowed := true, recurses := true, apart := false }
def FnExactReturnAllSaid : Prop := fnExactReturnAllRow.holds Tryz.pinned (OpenSpec.ofChange fnExactReturnAllSpec)

/-- ITS FALSE NEIGHBOUR: 'it returns false'. Refute it at one input. -/
def fnExactReturnAllWrong : ChangeSpec := { name := "fnExactReturnAll", fn := fun _ => fun
  | [d1, d2, d3, d4, d5, d6] => { results := [.lit (.bool false)], args := [d1, d2, d3, d4, d5, d6] }
  | _ => none }
def FnExactReturnAllWrongFalsely : Prop := fnExactReturnAllRow.holds Tryz.pinned (OpenSpec.ofChange fnExactReturnAllWrong)

/-- 'laws.FnExactMayGo': WHATEVER THE INPUT: true; the input reads as it did. -/
def fnExactMayGoSpec : ChangeSpec := { name := "fnExactMayGo", fn := fun _ => fun
  | [d1, d2, d3, d4, d5, d6] => { results := [.lit (.bool true)], args := [d1, d2, d3, d4, d5, d6] }
  | _ => none }
def fnExactMayGoRow : OpenClaim := { program := "ytbjnbaddbanhbaagreat", sum := "a120bd816c1868a132000f615640e62982bd481726054bd08bbebe19d8c61588", func := "loop.example/g03008/laws.FnExactMayGo", spec := "fnExactMayGo", inPlace := ["internal/abi.NoEscape"], unfollowed := true, recurses := true, apart := false }
def FnExactMayGoSaid : Prop := fnExactMayGoRow.holds Tryz.pinned (OpenSpec.ofChange fnExactMayGoSpec)

/-- ITS FALSE NEIGHBOUR: 'it returns false'. Refute it at one input. -/
def fnExactMayGoWrong : ChangeSpec := { name := "fnExactMayGo", fn := fun _ => fun
  | [d1, d2, d3, d4, d5, d6] => { results := [.lit (.bool false)], args := [d1, d2, d3, d4, d5, d6] }
  | _ => none }
def FnExactMayGoWrongFalsely : Prop := fnExactMayGoRow.holds Tryz.pinned (OpenSpec.ofChange fnExactMayGoWrong)

/-- 'laws.FnExactMayWait': WHATEVER THE INPUT: true; the input reads as it did. -/
def fnExactMayWaitSpec : ChangeSpec := { name := "fnExactMayWait", fn := fun _ => fun
  | [d1, d2, d3, d4, d5] => { results := [.lit (.bool true)], args := [d1, d2, d3, d4, d5] }
  | _ => none }
def fnExactMayWaitRow : OpenClaim := { program := "ytbjnbaddbanhbaagreat", sum := "a120bd816c1868a132000f615640e62982bd481726054bd08bbebe19d8c61588", func := "loop.example/g03008/laws.FnExactMayWait", spec := "fnExactMayWait", inPlace := ["internal/abi.NoEscape"], unfollowed := true, recurses := true, apart := false }
def FnExactMayWaitSaid : Prop := fnExactMayWaitRow.holds Tryz.pinned (OpenSpec.ofChange fnExactMayWaitSpec)

/-- ITS FALSE NEIGHBOUR: 'it returns false'. Refute it at one input. -/
def fnExactMayWaitWrong : ChangeSpec := { name := "fnExactMayWait", fn := fun _ => fun
  | [d1, d2, d3, d4, d5] => { results := [.lit (.bool false)], args := [d1, d2, d3, d4, d5] }
  | _ => none }
def FnExactMayWaitWrongFalsely : Prop := fnExactMayWaitRow.holds Tryz.pinned (OpenSpec.ofChange fnExactMayWaitWrong)

/-- 'laws.FnExactChoicesOf': WHATEVER THE INPUT: true; the input reads as it did. -/
def fnExactChoicesOfSpec : ChangeSpec := { name := "fnExactChoicesOf", fn := fun _ => fun
  | [d1, d2, d3, d4, d5] => { results := [.lit (.bool true)], args := [d1, d2, d3, d4, d5] }
  | _ => none }
def fnExactChoicesOfRow : OpenClaim := { program := "ytbjnbaddbanhbaagreat", sum := "a120bd816c1868a132000f615640e62982bd481726054bd08bbebe19d8c61588", func := "loop.example/g03008/laws.FnExactChoicesOf", spec := "fnExactChoicesOf", inPlace := ["internal/abi.NoEscape"], unfollowed := true, recurses := true, apart := false }
def FnExactChoicesOfSaid : Prop := fnExactChoicesOfRow.holds Tryz.pinned (OpenSpec.ofChange fnExactChoicesOfSpec)

/-- ITS FALSE NEIGHBOUR: 'it returns false'. Refute it at one input. -/
def fnExactChoicesOfWrong : ChangeSpec := { name := "fnExactChoicesOf", fn := fun _ => fun
  | [d1, d2, d3, d4, d5] => { results := [.lit (.bool false)], args := [d1, d2, d3, d4, d5] }
  | _ => none }
def FnExactChoicesOfWrongFalsely : Prop := fnExactChoicesOfRow.holds Tryz.pinned (OpenSpec.ofChange fnExactChoicesOfWrong)

/-- 'laws.FnExactGoStep': WHATEVER THE INPUT: true; the input reads as it did. -/
def fnExactGoStepSpec : ChangeSpec := { name := "fnExactGoStep", fn := fun _ => fun
  | [d1, d2, d3, d4, d5, d6, d7] => { results := [.lit (.bool true)], args := [d1, d2, d3, d4, d5, d6, d7] }
  | _ => none }
def fnExactGoStepRow : OpenClaim := { program := "ytbjnbaddbanhbaagreat", sum := "a120bd816c1868a132000f615640e62982bd481726054bd08bbebe19d8c61588", func := "loop.example/g03008/laws.FnExactGoStep", spec := "fnExactGoStep", inPlace := ["internal/abi.NoEscape"], unfollowed := true, recurses := true, apart := false }
def FnExactGoStepSaid : Prop := fnExactGoStepRow.holds Tryz.pinned (OpenSpec.ofChange fnExactGoStepSpec)

/-- ITS FALSE NEIGHBOUR: 'it returns false'. Refute it at one input. -/
def fnExactGoStepWrong : ChangeSpec := { name := "fnExactGoStep", fn := fun _ => fun
  | [d1, d2, d3, d4, d5, d6, d7] => { results := [.lit (.bool false)], args := [d1, d2, d3, d4, d5, d6, d7] }
  | _ => none }
def FnExactGoStepWrongFalsely : Prop := fnExactGoStepRow.holds Tryz.pinned (OpenSpec.ofChange fnExactGoStepWrong)

/-- 'laws.FnExactWaitStep': WHATEVER THE INPUT: true; the input reads as it did. -/
def fnExactWaitStepSpec : ChangeSpec := { name := "fnExactWaitStep", fn := fun _ => fun
  | [d1, d2, d3, d4, d5, d6] => { results := [.lit (.bool true)], args := [d1, d2, d3, d4, d5, d6] }
  | _ => none }
def fnExactWaitStepRow : OpenClaim := { program := "ytbjnbaddbanhbaagreat", sum := "a120bd816c1868a132000f615640e62982bd481726054bd08bbebe19d8c61588", func := "loop.example/g03008/laws.FnExactWaitStep", spec := "fnExactWaitStep", inPlace := ["internal/abi.NoEscape"], unfollowed := true, recurses := true, apart := false }
def FnExactWaitStepSaid : Prop := fnExactWaitStepRow.holds Tryz.pinned (OpenSpec.ofChange fnExactWaitStepSpec)

/-- ITS FALSE NEIGHBOUR: 'it returns false'. Refute it at one input. -/
def fnExactWaitStepWrong : ChangeSpec := { name := "fnExactWaitStep", fn := fun _ => fun
  | [d1, d2, d3, d4, d5, d6] => { results := [.lit (.bool false)], args := [d1, d2, d3, d4, d5, d6] }
  | _ => none }
def FnExactWaitStepWrongFalsely : Prop := fnExactWaitStepRow.holds Tryz.pinned (OpenSpec.ofChange fnExactWaitStepWrong)

/-- 'laws.FnExactStepsOn': WHATEVER THE INPUT: true; the input reads as it did. -/
def fnExactStepsOnSpec : ChangeSpec := { name := "fnExactStepsOn", fn := fun _ => fun
  | [d1, d2, d3, d4, d5, d6] => { results := [.lit (.bool true)], args := [d1, d2, d3, d4, d5, d6] }
  | _ => none }
def fnExactStepsOnRow : OpenClaim := { program := "ytbjnbaddbanhbaagreat", sum := "a120bd816c1868a132000f615640e62982bd481726054bd08bbebe19d8c61588", func := "loop.example/g03008/laws.FnExactStepsOn", spec := "fnExactStepsOn", inPlace := ["internal/abi.NoEscape"], unfollowed := true, recurses := true, apart := false }
def FnExactStepsOnSaid : Prop := fnExactStepsOnRow.holds Tryz.pinned (OpenSpec.ofChange fnExactStepsOnSpec)

/-- ITS FALSE NEIGHBOUR: 'it returns false'. Refute it at one input. -/
def fnExactStepsOnWrong : ChangeSpec := { name := "fnExactStepsOn", fn := fun _ => fun
  | [d1, d2, d3, d4, d5, d6] => { results := [.lit (.bool false)], args := [d1, d2, d3, d4, d5, d6] }
  | _ => none }
def FnExactStepsOnWrongFalsely : Prop := fnExactStepsOnRow.holds Tryz.pinned (OpenSpec.ofChange fnExactStepsOnWrong)

/-- 'laws.FnExactMayLay': WHATEVER THE INPUT: true; the input reads as it did. -/
def fnExactMayLaySpec : ChangeSpec := { name := "fnExactMayLay", fn := fun _ => fun
  | [d1, d2, d3, d4, d5, d6] => { results := [.lit (.bool true)], args := [d1, d2, d3, d4, d5, d6] }
  | _ => none }
def fnExactMayLayRow : OpenClaim := { program := "ytbjnbaddbanhbaagreat", sum := "a120bd816c1868a132000f615640e62982bd481726054bd08bbebe19d8c61588", func := "loop.example/g03008/laws.FnExactMayLay", spec := "fnExactMayLay", inPlace := ["internal/abi.NoEscape"], unfollowed := true, recurses := true, apart := false }
def FnExactMayLaySaid : Prop := fnExactMayLayRow.holds Tryz.pinned (OpenSpec.ofChange fnExactMayLaySpec)

/-- ITS FALSE NEIGHBOUR: 'it returns false'. Refute it at one input. -/
def fnExactMayLayWrong : ChangeSpec := { name := "fnExactMayLay", fn := fun _ => fun
  | [d1, d2, d3, d4, d5, d6] => { results := [.lit (.bool false)], args := [d1, d2, d3, d4, d5, d6] }
  | _ => none }
def FnExactMayLayWrongFalsely : Prop := fnExactMayLayRow.holds Tryz.pinned (OpenSpec.ofChange fnExactMayLayWrong)

/-- 'laws.FnExactLayStep': WHATEVER THE INPUT: true; the input reads as it did. -/
def fnExactLayStepSpec : ChangeSpec := { name := "fnExactLayStep", fn := fun _ => fun
  | [d1, d2, d3, d4, d5, d6] => { results := [.lit (.bool true)], args := [d1, d2, d3, d4, d5, d6] }
  | _ => none }
def fnExactLayStepRow : OpenClaim := { program := "ytbjnbaddbanhbaagreat", sum := "a120bd816c1868a132000f615640e62982bd481726054bd08bbebe19d8c61588", func := "loop.example/g03008/laws.FnExactLayStep", spec := "fnExactLayStep", inPlace := ["internal/abi.NoEscape"], unfollowed := true, recurses := true, apart := false }
def FnExactLayStepSaid : Prop := fnExactLayStepRow.holds Tryz.pinned (OpenSpec.ofChange fnExactLayStepSpec)

/-- ITS FALSE NEIGHBOUR: 'it returns false'. Refute it at one input. -/
def fnExactLayStepWrong : ChangeSpec := { name := "fnExactLayStep", fn := fun _ => fun
  | [d1, d2, d3, d4, d5, d6] => { results := [.lit (.bool false)], args := [d1, d2, d3, d4, d5, d6] }
  | _ => none }
def FnExactLayStepWrongFalsely : Prop := fnExactLayStepRow.holds Tryz.pinned (OpenSpec.ofChange fnExactLayStepWrong)

/- THE SECOND FORM. 'bulk': how many values and letters a reading holds, each counted each time it is reached (what is shared counts as often as it is met; a slice's spare places count too). A statement '..UptoSaid' is the law's where the arguments, and the package variables that the reading takes, are together of bulk at most 1048576: NARROWER than '..Said'. Prove '..Said' where nothing that the law and all that it calls make is longer than what came in: it says more and counts as full. Else prove '..UptoSaid'. A law counts once. -/
mutual
def uptoBulk {H : Type} : DataW H → Nat
  | .lit (.string bytes) => bytes.length + 1
  | .lit _ => 1
  | .nil => 1
  | .ptr d => uptoBulk d + 1
  | .slice elems spare => uptoBulkAll elems + uptoBulkAll spare + 1
  | .agg parts => uptoBulkAll parts + 1
  | .iface _ d => uptoBulk d + 1
  | .map entries => uptoBulkEntries entries + 1
  | .held _ => 1
def uptoBulkAll {H : Type} : List (DataW H) → Nat
  | [] => 0
  | d :: r => uptoBulk d + uptoBulkAll r
def uptoBulkEntries {H : Type} : List (Lit × DataW H) → Nat
  | [] => 0
  | x :: r => uptoBulkEntry x + uptoBulkEntries r
def uptoBulkEntry {H : Type} : Lit × DataW H → Nat
  | (.string bytes, d) => bytes.length + uptoBulk d + 1
  | (_, d) => uptoBulk d + 1
 end
def uptoSmall : (H : Type) → List (DataW H) → Bool := fun _ ds => decide (uptoBulkAll ds ≤ 1048576)
def OpenSpec.upto (s : _root_.Go.ChangeSpec) : _root_.Go.OpenSpec := { _root_.Go.OpenSpec.ofChange s with cond := some uptoSmall }

/-- 'laws.FnExactCanReturn', WHERE WHAT IT READS IS OF BULK AT MOST 1048576: true; the input reads as it did. -/
def fnExactCanReturnUptoRow : OpenClaim := { program := "ytbjnbaddbanhbaagreat", sum := "a120bd816c1868a132000f615640e62982bd481726054bd08bbebe19d8c61588", func := "loop.example/g03008/laws.FnExactCanReturn", spec := "fnExactCanReturn", inPlace := ["internal/abi.NoEscape"], unfollowed := true, recurses := true, apart := false, narrowed := true }
def FnExactCanReturnUptoSaid : Prop := fnExactCanReturnUptoRow.holds Tryz.pinned (OpenSpec.upto fnExactCanReturnSpec)

/-- 'laws.FnExactLeftAtHome', WHERE WHAT IT READS IS OF BULK AT MOST 1048576: true; the input reads as it did. -/
def fnExactLeftAtHomeUptoRow : OpenClaim := { program := "ytbjnbaddbanhbaagreat", sum := "a120bd816c1868a132000f615640e62982bd481726054bd08bbebe19d8c61588", func := "loop.example/g03008/laws.FnExactLeftAtHome", spec := "fnExactLeftAtHome", inPlace := ["internal/abi.NoEscape"], unfollowed := true, recurses := true, apart := false, narrowed := true }
def FnExactLeftAtHomeUptoSaid : Prop := fnExactLeftAtHomeUptoRow.holds Tryz.pinned (OpenSpec.upto fnExactLeftAtHomeSpec)

/-- 'laws.FnExactReturnStep', WHERE WHAT IT READS IS OF BULK AT MOST 1048576: true; the input reads as it did. -/
def fnExactReturnStepUptoRow : OpenClaim := { program := "ytbjnbaddbanhbaagreat", sum := "a120bd816c1868a132000f615640e62982bd481726054bd08bbebe19d8c61588", func := "loop.example/g03008/laws.FnExactReturnStep", spec := "fnExactReturnStep", inPlace := ["internal/abi.NoEscape"], unfollowed := true, recurses := true, apart := false, narrowed := true }
def FnExactReturnStepUptoSaid : Prop := fnExactReturnStepUptoRow.holds Tryz.pinned (OpenSpec.upto fnExactReturnStepSpec)

/-- 'laws.FnExactReturnAll', WHERE WHAT IT READS IS OF BULK AT MOST 1048576: true; the input reads as it did. -/
def fnExactReturnAllUptoRow : OpenClaim := { program := "ytbjnbaddbanhbaagreat", sum := "a120bd816c1868a132000f615640e62982bd481726054bd08bbebe19d8c61588", func := "loop.example/g03008/laws.FnExactReturnAll", spec := "fnExactReturnAll", inPlace := ["internal/abi.NoEscape"], unfollowed := true, recurses := true, apart := false, narrowed := true }
def FnExactReturnAllUptoSaid : Prop := fnExactReturnAllUptoRow.holds Tryz.pinned (OpenSpec.upto fnExactReturnAllSpec)

/-- 'laws.FnExactMayGo', WHERE WHAT IT READS IS OF BULK AT MOST 1048576: true; the input reads as it did. -/
def fnExactMayGoUptoRow : OpenClaim := { program := "ytbjnbaddbanhbaagreat", sum := "a120bd816c1868a132000f615640e62982bd481726054bd08bbebe19d8c61588", func := "loop.example/g03008/laws.FnExactMayGo", spec := "fnExactMayGo", inPlace := ["internal/abi.NoEscape"], unfollowed := true, recurses := true, apart := false, narrowed := true }
def FnExactMayGoUptoSaid : Prop := fnExactMayGoUptoRow.holds Tryz.pinned (OpenSpec.upto fnExactMayGoSpec)

/-- 'laws.FnExactMayWait', WHERE WHAT IT READS IS OF BULK AT MOST 1048576: true; the input reads as it did. -/
def fnExactMayWaitUptoRow : OpenClaim := { program := "ytbjnbaddbanhbaagreat", sum := "a120bd816c1868a132000f615640e62982bd481726054bd08bbebe19d8c61588", func := "loop.example/g03008/laws.FnExactMayWait", spec := "fnExactMayWait", inPlace := ["internal/abi.NoEscape"], unfollowed := true, recurses := true, apart := false, narrowed := true }
def FnExactMayWaitUptoSaid : Prop := fnExactMayWaitUptoRow.holds Tryz.pinned (OpenSpec.upto fnExactMayWaitSpec)

/-- 'laws.FnExactChoicesOf', WHERE WHAT IT READS IS OF BULK AT MOST 1048576: true; the input reads as it did. -/
def fnExactChoicesOfUptoRow : OpenClaim := { program := "ytbjnbaddbanhbaagreat", sum := "a120bd816c1868a132000f615640e62982bd481726054bd08bbebe19d8c61588", func := "loop.example/g03008/laws.FnExactChoicesOf", spec := "fnExactChoicesOf", inPlace := ["internal/abi.NoEscape"], unfollowed := true, recurses := true, apart := false, narrowed := true }
def FnExactChoicesOfUptoSaid : Prop := fnExactChoicesOfUptoRow.holds Tryz.pinned (OpenSpec.upto fnExactChoicesOfSpec)

/-- 'laws.FnExactGoStep', WHERE WHAT IT READS IS OF BULK AT MOST 1048576: true; the input reads as it did. -/
def fnExactGoStepUptoRow : OpenClaim := { program := "ytbjnbaddbanhbaagreat", sum := "a120bd816c1868a132000f615640e62982bd481726054bd08bbebe19d8c61588", func := "loop.example/g03008/laws.FnExactGoStep", spec := "fnExactGoStep", inPlace := ["internal/abi.NoEscape"], unfollowed := true, recurses := true, apart := false, narrowed := true }
def FnExactGoStepUptoSaid : Prop := fnExactGoStepUptoRow.holds Tryz.pinned (OpenSpec.upto fnExactGoStepSpec)

/-- 'laws.FnExactWaitStep', WHERE WHAT IT READS IS OF BULK AT MOST 1048576: true; the input reads as it did. -/
def fnExactWaitStepUptoRow : OpenClaim := { program := "ytbjnbaddbanhbaagreat", sum := "a120bd816c1868a132000f615640e62982bd481726054bd08bbebe19d8c61588", func := "loop.example/g03008/laws.FnExactWaitStep", spec := "fnExactWaitStep", inPlace := ["internal/abi.NoEscape"], unfollowed := true, recurses := true, apart := false, narrowed := true }
def FnExactWaitStepUptoSaid : Prop := fnExactWaitStepUptoRow.holds Tryz.pinned (OpenSpec.upto fnExactWaitStepSpec)

/-- 'laws.FnExactStepsOn', WHERE WHAT IT READS IS OF BULK AT MOST 1048576: true; the input reads as it did. -/
def fnExactStepsOnUptoRow : OpenClaim := { program := "ytbjnbaddbanhbaagreat", sum := "a120bd816c1868a132000f615640e62982bd481726054bd08bbebe19d8c61588", func := "loop.example/g03008/laws.FnExactStepsOn", spec := "fnExactStepsOn", inPlace := ["internal/abi.NoEscape"], unfollowed := true, recurses := true, apart := false, narrowed := true }
def FnExactStepsOnUptoSaid : Prop := fnExactStepsOnUptoRow.holds Tryz.pinned (OpenSpec.upto fnExactStepsOnSpec)

/-- 'laws.FnExactMayLay', WHERE WHAT IT READS IS OF BULK AT MOST 1048576: true; the input reads as it did. -/
def fnExactMayLayUptoRow : OpenClaim := { program := "ytbjnbaddbanhbaagreat", sum := "a120bd816c1868a132000f615640e62982bd481726054bd08bbebe19d8c61588", func := "loop.example/g03008/laws.FnExactMayLay", spec := "fnExactMayLay", inPlace := ["internal/abi.NoEscape"], unfollowed := true, recurses := true, apart := false, narrowed := true }
def FnExactMayLayUptoSaid : Prop := fnExactMayLayUptoRow.holds Tryz.pinned (OpenSpec.upto fnExactMayLaySpec)

/-- 'laws.FnExactLayStep', WHERE WHAT IT READS IS OF BULK AT MOST 1048576: true; the input reads as it did. -/
def fnExactLayStepUptoRow : OpenClaim := { program := "ytbjnbaddbanhbaagreat", sum := "a120bd816c1868a132000f615640e62982bd481726054bd08bbebe19d8c61588", func := "loop.example/g03008/laws.FnExactLayStep", spec := "fnExactLayStep", inPlace := ["internal/abi.NoEscape"], unfollowed := true, recurses := true, apart := false, narrowed := true }
def FnExactLayStepUptoSaid : Prop := fnExactLayStepUptoRow.holds Tryz.pinned (OpenSpec.upto fnExactLayStepSpec)

end Rows
end Go.Proofs.YtbjnbaddbanhbaaGreat

/-
  No cell of these rows narrows 'for every input' (looked for: loops, veiled, ifaces, maps, wideKeys, modest, calm, conditions, laid).
  DERIVED. THE GIVEN ROWS OF THIS SEAT. 9 by the template 'for every input the law returns true; each argument reads behind the call as it read before'; 0 by the template 'total and deterministic' (their statements: YtkbgbllcekmfcaaTotals.lean).
  GIVEN WITH THE SEED: the statements are not yours to turn. If you find one false, say at which input.
  Laid BY PROGRAM, IN A SANDBOX (cutbox-rows.mjs): the forced cells as the released guide's own fill.sh prints them over the translation 46c454da5e42cc35… (all of the seat's roots in one cut). By AI agents, Wed Nov 11 2026. No macro, syntax, notation, axiom, sorry.
-/
import Derived.Test.YtkbgbllcekmfcaaChecked
import GoSem.Claim
import GoSem.ClaimJoined
import GoSem.ClaimMapViews
import Derived.JoinedTies
import Derived.KernelRfl
namespace Go.Proofs.Ytkbgbllcekmfcaa
/- THE CELL 'sum', in the pinned program and in every row, IS THE sha256 OF THE DUMP (.gsa) THAT YtkbgbllcekmfcaaProg.lean LOADS. Nothing in Lean hashes anything: it is a label: what it is worth is what the hold of that sum in a sandbox is worth. -/
noncomputable def Try.pinned : Pinned := { name := "ytkbgbllcekmfcaa", sum := "46c454da5e42cc359217b849e2036a8b58bd610a078824247a9505336d507971", checked := Try.checked }
namespace Rows
def none {H : Type} : Left H := { results := [], args := [] }

/-- 'laws.FnExactIsTide': WHATEVER THE INPUT: true; the input reads as it did. -/
def fnExactIsTideSpec : ChangeSpec := { name := "fnExactIsTide", fn := fun _ => fun
  | [d] => { results := [.lit (.bool true)], args := [d] }
  | _ => none }
def fnExactIsTideRow : OpenClaim := { program := "ytkbgbllcekmfcaa", sum := "46c454da5e42cc359217b849e2036a8b58bd610a078824247a9505336d507971", func := "loop.example/g03008/laws.FnExactIsTide", spec := "fnExactIsTide", apart := false }
def FnExactIsTideSaid : Prop := fnExactIsTideRow.holds Try.pinned (OpenSpec.ofChange fnExactIsTideSpec)

/-- ITS FALSE NEIGHBOUR: 'it returns false'. Refute it at one input. -/
def fnExactIsTideWrong : ChangeSpec := { name := "fnExactIsTide", fn := fun _ => fun
  | [d] => { results := [.lit (.bool false)], args := [d] }
  | _ => none }
def FnExactIsTideWrongFalsely : Prop := fnExactIsTideRow.holds Try.pinned (OpenSpec.ofChange fnExactIsTideWrong)

/-- 'laws.FnExactIsDry': WHATEVER THE INPUT: true; the input reads as it did. -/
def fnExactIsDrySpec : ChangeSpec := { name := "fnExactIsDry", fn := fun _ => fun
  | [d1, d2] => { results := [.lit (.bool true)], args := [d1, d2] }
  | _ => none }
def fnExactIsDryRow : OpenClaim := { program := "ytkbgbllcekmfcaa", sum := "46c454da5e42cc359217b849e2036a8b58bd610a078824247a9505336d507971", func := "loop.example/g03008/laws.FnExactIsDry", spec := "fnExactIsDry", apart := false }
def FnExactIsDrySaid : Prop := fnExactIsDryRow.holds Try.pinned (OpenSpec.ofChange fnExactIsDrySpec)

/-- ITS FALSE NEIGHBOUR: 'it returns false'. Refute it at one input. -/
def fnExactIsDryWrong : ChangeSpec := { name := "fnExactIsDry", fn := fun _ => fun
  | [d1, d2] => { results := [.lit (.bool false)], args := [d1, d2] }
  | _ => none }
def FnExactIsDryWrongFalsely : Prop := fnExactIsDryRow.holds Try.pinned (OpenSpec.ofChange fnExactIsDryWrong)

/-- 'laws.FnExactNextDry': WHATEVER THE INPUT: true; the input reads as it did. -/
def fnExactNextDrySpec : ChangeSpec := { name := "fnExactNextDry", fn := fun _ => fun
  | [d1, d2] => { results := [.lit (.bool true)], args := [d1, d2] }
  | _ => none }
def fnExactNextDryRow : OpenClaim := { program := "ytkbgbllcekmfcaa", sum := "46c454da5e42cc359217b849e2036a8b58bd610a078824247a9505336d507971", func := "loop.example/g03008/laws.FnExactNextDry", spec := "fnExactNextDry", unfollowed := true, recurses := true, apart := false }
def FnExactNextDrySaid : Prop := fnExactNextDryRow.holds Try.pinned (OpenSpec.ofChange fnExactNextDrySpec)

/-- ITS FALSE NEIGHBOUR: 'it returns false'. Refute it at one input. -/
def fnExactNextDryWrong : ChangeSpec := { name := "fnExactNextDry", fn := fun _ => fun
  | [d1, d2] => { results := [.lit (.bool false)], args := [d1, d2] }
  | _ => none }
def FnExactNextDryWrongFalsely : Prop := fnExactNextDryRow.holds Try.pinned (OpenSpec.ofChange fnExactNextDryWrong)

/-- 'laws.FnExactCanCross': WHATEVER THE INPUT: true; the input reads as it did. -/
def fnExactCanCrossSpec : ChangeSpec := { name := "fnExactCanCross", fn := fun _ => fun
  | [d1, d2, d3] => { results := [.lit (.bool true)], args := [d1, d2, d3] }
  | _ => none }
def fnExactCanCrossRow : OpenClaim := { program := "ytkbgbllcekmfcaa", sum := "46c454da5e42cc359217b849e2036a8b58bd610a078824247a9505336d507971", func := "loop.example/g03008/laws.FnExactCanCross", spec := "fnExactCanCross", apart := false }
def FnExactCanCrossSaid : Prop := fnExactCanCrossRow.holds Try.pinned (OpenSpec.ofChange fnExactCanCrossSpec)

/-- ITS FALSE NEIGHBOUR: 'it returns false'. Refute it at one input. -/
def fnExactCanCrossWrong : ChangeSpec := { name := "fnExactCanCross", fn := fun _ => fun
  | [d1, d2, d3] => { results := [.lit (.bool false)], args := [d1, d2, d3] }
  | _ => none }
def FnExactCanCrossWrongFalsely : Prop := fnExactCanCrossRow.holds Try.pinned (OpenSpec.ofChange fnExactCanCrossWrong)

/-- 'laws.FnExactNextCrossing': WHATEVER THE INPUT: true; the input reads as it did. -/
def fnExactNextCrossingSpec : ChangeSpec := { name := "fnExactNextCrossing", fn := fun _ => fun
  | [d1, d2, d3] => { results := [.lit (.bool true)], args := [d1, d2, d3] }
  | _ => none }
def fnExactNextCrossingRow : OpenClaim := { program := "ytkbgbllcekmfcaa", sum := "46c454da5e42cc359217b849e2036a8b58bd610a078824247a9505336d507971", func := "loop.example/g03008/laws.FnExactNextCrossing", spec := "fnExactNextCrossing", unfollowed := true, recurses := true, apart := false }
def FnExactNextCrossingSaid : Prop := fnExactNextCrossingRow.holds Try.pinned (OpenSpec.ofChange fnExactNextCrossingSpec)

/-- ITS FALSE NEIGHBOUR: 'it returns false'. Refute it at one input. -/
def fnExactNextCrossingWrong : ChangeSpec := { name := "fnExactNextCrossing", fn := fun _ => fun
  | [d1, d2, d3] => { results := [.lit (.bool false)], args := [d1, d2, d3] }
  | _ => none }
def FnExactNextCrossingWrongFalsely : Prop := fnExactNextCrossingRow.holds Try.pinned (OpenSpec.ofChange fnExactNextCrossingWrong)

/-- 'laws.FnExactDryHours': WHATEVER THE INPUT: true; the input reads as it did. -/
def fnExactDryHoursSpec : ChangeSpec := { name := "fnExactDryHours", fn := fun _ => fun
  | [d] => { results := [.lit (.bool true)], args := [d] }
  | _ => none }
def fnExactDryHoursRow : OpenClaim := { program := "ytkbgbllcekmfcaa", sum := "46c454da5e42cc359217b849e2036a8b58bd610a078824247a9505336d507971", func := "loop.example/g03008/laws.FnExactDryHours", spec := "fnExactDryHours", apart := false }
def FnExactDryHoursSaid : Prop := fnExactDryHoursRow.holds Try.pinned (OpenSpec.ofChange fnExactDryHoursSpec)

/-- ITS FALSE NEIGHBOUR: 'it returns false'. Refute it at one input. -/
def fnExactDryHoursWrong : ChangeSpec := { name := "fnExactDryHours", fn := fun _ => fun
  | [d] => { results := [.lit (.bool false)], args := [d] }
  | _ => none }
def FnExactDryHoursWrongFalsely : Prop := fnExactDryHoursRow.holds Try.pinned (OpenSpec.ofChange fnExactDryHoursWrong)

/-- 'laws.FnTides': WHATEVER THE INPUT: true; the input reads as it did. -/
def fnTidesSpec : ChangeSpec := { name := "fnTides", fn := fun _ => fun
  | [d] => { results := [.lit (.bool true)], args := [d] }
  | _ => none }
def fnTidesRow : OpenClaim := { program := "ytkbgbllcekmfcaa", sum := "46c454da5e42cc359217b849e2036a8b58bd610a078824247a9505336d507971", func := "loop.example/g03008/laws.FnTides", spec := "fnTides", unfollowed := true, recurses := true, apart := false }
def FnTidesSaid : Prop := fnTidesRow.holds Try.pinned (OpenSpec.ofChange fnTidesSpec)

/-- ITS FALSE NEIGHBOUR: 'it returns false'. Refute it at one input. -/
def fnTidesWrong : ChangeSpec := { name := "fnTides", fn := fun _ => fun
  | [d] => { results := [.lit (.bool false)], args := [d] }
  | _ => none }
def FnTidesWrongFalsely : Prop := fnTidesRow.holds Try.pinned (OpenSpec.ofChange fnTidesWrong)

/-- 'laws.FnExactCross': WHATEVER THE INPUT: true; the input reads as it did. -/
def fnExactCrossSpec : ChangeSpec := { name := "fnExactCross", fn := fun _ => fun
  | [d1, d2] => { results := [.lit (.bool true)], args := [d1, d2] }
  | _ => none }
def fnExactCrossRow : OpenClaim := { program := "ytkbgbllcekmfcaa", sum := "46c454da5e42cc359217b849e2036a8b58bd610a078824247a9505336d507971", func := "loop.example/g03008/laws.FnExactCross", spec := "fnExactCross", apart := false }
def FnExactCrossSaid : Prop := fnExactCrossRow.holds Try.pinned (OpenSpec.ofChange fnExactCrossSpec)

/-- ITS FALSE NEIGHBOUR: 'it returns false'. Refute it at one input. -/
def fnExactCrossWrong : ChangeSpec := { name := "fnExactCross", fn := fun _ => fun
  | [d1, d2] => { results := [.lit (.bool false)], args := [d1, d2] }
  | _ => none }
def FnExactCrossWrongFalsely : Prop := fnExactCrossRow.holds Try.pinned (OpenSpec.ofChange fnExactCrossWrong)

/-- 'laws.FnExactIsLost': WHATEVER THE INPUT: true; the input reads as it did. -/
def fnExactIsLostSpec : ChangeSpec := { name := "fnExactIsLost", fn := fun _ => fun
  | [d] => { results := [.lit (.bool true)], args := [d] }
  | _ => none }
def fnExactIsLostRow : OpenClaim := { program := "ytkbgbllcekmfcaa", sum := "46c454da5e42cc359217b849e2036a8b58bd610a078824247a9505336d507971", func := "loop.example/g03008/laws.FnExactIsLost", spec := "fnExactIsLost", apart := false }
def FnExactIsLostSaid : Prop := fnExactIsLostRow.holds Try.pinned (OpenSpec.ofChange fnExactIsLostSpec)

/-- ITS FALSE NEIGHBOUR: 'it returns false'. Refute it at one input. -/
def fnExactIsLostWrong : ChangeSpec := { name := "fnExactIsLost", fn := fun _ => fun
  | [d] => { results := [.lit (.bool false)], args := [d] }
  | _ => none }
def FnExactIsLostWrongFalsely : Prop := fnExactIsLostRow.holds Try.pinned (OpenSpec.ofChange fnExactIsLostWrong)

/- THE SECOND FORM. 'bulk': how many values and letters a reading holds, each counted each time it is reached (what is shared counts as often as it is met; a slice's spare places count too). A statement '..UptoSaid' is the law's where the arguments, and the package variables that the reading takes, are together of bulk at most 1048576: NARROWER than '..Said'. Prove '..Said' where nothing that the law and all that it calls make is longer than what came in: it says more and counts as full. Else prove '..UptoSaid'. A law counts once. -/
mutual
def uptoBulk {H : Type} : DataW H → Nat
  | .lit (.string bytes) => bytes.length + 1
  | .lit _ => 1
  | .nil => 1
  | .ptr d => uptoBulk d + 1
  | .slice elems spare => uptoBulkAll elems + uptoBulkAll spare + 1
  | .agg parts => uptoBulkAll parts + 1
  | .iface _ d => uptoBulk d + 1
  | .map entries => uptoBulkEntries entries + 1
  | .held _ => 1
def uptoBulkAll {H : Type} : List (DataW H) → Nat
  | [] => 0
  | d :: r => uptoBulk d + uptoBulkAll r
def uptoBulkEntries {H : Type} : List (Lit × DataW H) → Nat
  | [] => 0
  | x :: r => uptoBulkEntry x + uptoBulkEntries r
def uptoBulkEntry {H : Type} : Lit × DataW H → Nat
  | (.string bytes, d) => bytes.length + uptoBulk d + 1
  | (_, d) => uptoBulk d + 1
 end
def uptoSmall : (H : Type) → List (DataW H) → Bool := fun _ ds => decide (uptoBulkAll ds ≤ 1048576)
def OpenSpec.upto (s : _root_.Go.ChangeSpec) : _root_.Go.OpenSpec := { _root_.Go.OpenSpec.ofChange s with cond := some uptoSmall }

/-- 'laws.FnExactIsTide', WHERE WHAT IT READS IS OF BULK AT MOST 1048576: true; the input reads as it did. -/
def fnExactIsTideUptoRow : OpenClaim := { program := "ytkbgbllcekmfcaa", sum := "46c454da5e42cc359217b849e2036a8b58bd610a078824247a9505336d507971", func := "loop.example/g03008/laws.FnExactIsTide", spec := "fnExactIsTide", apart := false, narrowed := true }
def FnExactIsTideUptoSaid : Prop := fnExactIsTideUptoRow.holds Try.pinned (OpenSpec.upto fnExactIsTideSpec)

/-- 'laws.FnExactIsDry', WHERE WHAT IT READS IS OF BULK AT MOST 1048576: true; the input reads as it did. -/
def fnExactIsDryUptoRow : OpenClaim := { program := "ytkbgbllcekmfcaa", sum := "46c454da5e42cc359217b849e2036a8b58bd610a078824247a9505336d507971", func := "loop.example/g03008/laws.FnExactIsDry", spec := "fnExactIsDry", apart := false, narrowed := true }
def FnExactIsDryUptoSaid : Prop := fnExactIsDryUptoRow.holds Try.pinned (OpenSpec.upto fnExactIsDrySpec)

/-- 'laws.FnExactNextDry', WHERE WHAT IT READS IS OF BULK AT MOST 1048576: true; the input reads as it did. -/
def fnExactNextDryUptoRow : OpenClaim := { program := "ytkbgbllcekmfcaa", sum := "46c454da5e42cc359217b849e2036a8b58bd610a078824247a9505336d507971", func := "loop.example/g03008/laws.FnExactNextDry", spec := "fnExactNextDry", unfollowed := true, recurses := true, apart := false, narrowed := true }
def FnExactNextDryUptoSaid : Prop := fnExactNextDryUptoRow.holds Try.pinned (OpenSpec.upto fnExactNextDrySpec)

/-- 'laws.FnExactCanCross', WHERE WHAT IT READS IS OF BULK AT MOST 1048576: true; the input reads as it did. -/
def fnExactCanCrossUptoRow : OpenClaim := { program := "ytkbgbllcekmfcaa", sum := "46c454da5e42cc359217b849e2036a8b58bd610a078824247a9505336d507971", func := "loop.example/g03008/laws.FnExactCanCross", spec := "fnExactCanCross", apart := false, narrowed := true }
def FnExactCanCrossUptoSaid : Prop := fnExactCanCrossUptoRow.holds Try.pinned (OpenSpec.upto fnExactCanCrossSpec)

/-- 'laws.FnExactNextCrossing', WHERE WHAT IT READS IS OF BULK AT MOST 1048576: true; the input reads as it did. -/
def fnExactNextCrossingUptoRow : OpenClaim := { program := "ytkbgbllcekmfcaa", sum := "46c454da5e42cc359217b849e2036a8b58bd610a078824247a9505336d507971", func := "loop.example/g03008/laws.FnExactNextCrossing", spec := "fnExactNextCrossing", unfollowed := true, recurses := true, apart := false, narrowed := true }
def FnExactNextCrossingUptoSaid : Prop := fnExactNextCrossingUptoRow.holds Try.pinned (OpenSpec.upto fnExactNextCrossingSpec)

/-- 'laws.FnExactDryHours', WHERE WHAT IT READS IS OF BULK AT MOST 1048576: true; the input reads as it did. -/
def fnExactDryHoursUptoRow : OpenClaim := { program := "ytkbgbllcekmfcaa", sum := "46c454da5e42cc359217b849e2036a8b58bd610a078824247a9505336d507971", func := "loop.example/g03008/laws.FnExactDryHours", spec := "fnExactDryHours", apart := false, narrowed := true }
def FnExactDryHoursUptoSaid : Prop := fnExactDryHoursUptoRow.holds Try.pinned (OpenSpec.upto fnExactDryHoursSpec)

/-- 'laws.FnTides', WHERE WHAT IT READS IS OF BULK AT MOST 1048576: true; the input reads as it did. -/
def fnTidesUptoRow : OpenClaim := { program := "ytkbgbllcekmfcaa", sum := "46c454da5e42cc359217b849e2036a8b58bd610a078824247a9505336d507971", func := "loop.example/g03008/laws.FnTides", spec := "fnTides", unfollowed := true, recurses := true, apart := false, narrowed := true }
def FnTidesUptoSaid : Prop := fnTidesUptoRow.holds Try.pinned (OpenSpec.upto fnTidesSpec)

/-- 'laws.FnExactCross', WHERE WHAT IT READS IS OF BULK AT MOST 1048576: true; the input reads as it did. -/
def fnExactCrossUptoRow : OpenClaim := { program := "ytkbgbllcekmfcaa", sum := "46c454da5e42cc359217b849e2036a8b58bd610a078824247a9505336d507971", func := "loop.example/g03008/laws.FnExactCross", spec := "fnExactCross", apart := false, narrowed := true }
def FnExactCrossUptoSaid : Prop := fnExactCrossUptoRow.holds Try.pinned (OpenSpec.upto fnExactCrossSpec)

/-- 'laws.FnExactIsLost', WHERE WHAT IT READS IS OF BULK AT MOST 1048576: true; the input reads as it did. -/
def fnExactIsLostUptoRow : OpenClaim := { program := "ytkbgbllcekmfcaa", sum := "46c454da5e42cc359217b849e2036a8b58bd610a078824247a9505336d507971", func := "loop.example/g03008/laws.FnExactIsLost", spec := "fnExactIsLost", apart := false, narrowed := true }
def FnExactIsLostUptoSaid : Prop := fnExactIsLostUptoRow.holds Try.pinned (OpenSpec.upto fnExactIsLostSpec)

end Rows
end Go.Proofs.Ytkbgbllcekmfcaa

/-
  No cell of these rows narrows 'for every input' (looked for: loops, veiled, ifaces, maps, wideKeys, modest, calm, conditions, laid).
  DERIVED. THE GIVEN ROWS OF THIS SEAT. 6 by the template 'for every input the law returns true; each argument reads behind the call as it read before'; 0 by the template 'total and deterministic' (their statements: YtconlnlbaimghaaTotals.lean).
  GIVEN WITH THE SEED: the statements are not yours to turn. If you find one false, say at which input.
  Laid BY PROGRAM, IN A SANDBOX (cutbox-rows.mjs): the forced cells as the released guide's own fill.sh prints them over the translation 3992b16143926f2e… (all of the seat's roots in one cut). By AI agents, Wed Nov 11 2026. No macro, syntax, notation, axiom, sorry.
-/
import Derived.Test.YtconlnlbaimghaaChecked
import GoSem.Claim
import GoSem.ClaimJoined
import GoSem.ClaimMapViews
import Derived.JoinedTies
import Derived.KernelRfl
namespace Go.Proofs.Ytconlnlbaimghaa
/- THE CELL 'sum', in the pinned program and in every row, IS THE sha256 OF THE DUMP (.gsa) THAT YtconlnlbaimghaaProg.lean LOADS. Nothing in Lean hashes anything: it is a label: what it is worth is what the hold of that sum in a sandbox is worth. -/
noncomputable def Try.pinned : Pinned := { name := "ytconlnlbaimghaa", sum := "3992b16143926f2e47ba42d4fbd3dd766289e3e17523c3b5c7b98137b1474bc3", checked := Try.checked }
namespace Rows
def none {H : Type} : Left H := { results := [], args := [] }

/-- 'laws.FnExactCountEvents': WHATEVER THE INPUT: true; the input reads as it did. -/
def fnExactCountEventsSpec : ChangeSpec := { name := "fnExactCountEvents", fn := fun _ => fun
  | [d1, d2] => { results := [.lit (.bool true)], args := [d1, d2] }
  | _ => none }
def fnExactCountEventsRow : OpenClaim := { program := "ytconlnlbaimghaa", sum := "3992b16143926f2e47ba42d4fbd3dd766289e3e17523c3b5c7b98137b1474bc3", func := "loop.example/g03008/laws.FnExactCountEvents", spec := "fnExactCountEvents", apart := false }
def FnExactCountEventsSaid : Prop := fnExactCountEventsRow.holds Try.pinned (OpenSpec.ofChange fnExactCountEventsSpec)

/-- ITS FALSE NEIGHBOUR: 'it returns false'. Refute it at one input. -/
def fnExactCountEventsWrong : ChangeSpec := { name := "fnExactCountEvents", fn := fun _ => fun
  | [d1, d2] => { results := [.lit (.bool false)], args := [d1, d2] }
  | _ => none }
def FnExactCountEventsWrongFalsely : Prop := fnExactCountEventsRow.holds Try.pinned (OpenSpec.ofChange fnExactCountEventsWrong)

/-- 'laws.FnExactStillDays': WHATEVER THE INPUT: true; the input reads as it did. -/
def fnExactStillDaysSpec : ChangeSpec := { name := "fnExactStillDays", fn := fun _ => fun
  | [d] => { results := [.lit (.bool true)], args := [d] }
  | _ => none }
def fnExactStillDaysRow : OpenClaim := { program := "ytconlnlbaimghaa", sum := "3992b16143926f2e47ba42d4fbd3dd766289e3e17523c3b5c7b98137b1474bc3", func := "loop.example/g03008/laws.FnExactStillDays", spec := "fnExactStillDays", unfollowed := true, recurses := true, apart := false }
def FnExactStillDaysSaid : Prop := fnExactStillDaysRow.holds Try.pinned (OpenSpec.ofChange fnExactStillDaysSpec)

/-- ITS FALSE NEIGHBOUR: 'it returns false'. Refute it at one input. -/
def fnExactStillDaysWrong : ChangeSpec := { name := "fnExactStillDays", fn := fun _ => fun
  | [d] => { results := [.lit (.bool false)], args := [d] }
  | _ => none }
def FnExactStillDaysWrongFalsely : Prop := fnExactStillDaysRow.holds Try.pinned (OpenSpec.ofChange fnExactStillDaysWrong)

/-- 'laws.FnExactExampleLand': WHATEVER THE INPUT: true; the input reads as it did. -/
def fnExactExampleLandSpec : ChangeSpec := { name := "fnExactExampleLand", fn := fun _ => fun
  | [] => { results := [.lit (.bool true)], args := [] }
  | _ => none }
def fnExactExampleLandRow : OpenClaim := { program := "ytconlnlbaimghaa", sum := "3992b16143926f2e47ba42d4fbd3dd766289e3e17523c3b5c7b98137b1474bc3", func := "loop.example/g03008/laws.FnExactExampleLand", spec := "fnExactExampleLand", inPlace := ["internal/bytealg.IndexByteString", "internal/bytealg.IndexString"], named := ["internal/bytealg.MaxLen"], apart := false }
def FnExactExampleLandSaid : Prop := fnExactExampleLandRow.holds Try.pinned (OpenSpec.ofChange fnExactExampleLandSpec)

/-- ITS FALSE NEIGHBOUR: 'it returns false'. Refute it at one input. -/
def fnExactExampleLandWrong : ChangeSpec := { name := "fnExactExampleLand", fn := fun _ => fun
  | [] => { results := [.lit (.bool false)], args := [] }
  | _ => none }
def FnExactExampleLandWrongFalsely : Prop := fnExactExampleLandRow.holds Try.pinned (OpenSpec.ofChange fnExactExampleLandWrong)

/-- 'laws.FnExactCanSee': WHATEVER THE INPUT: true; the input reads as it did. -/
def fnExactCanSeeSpec : ChangeSpec := { name := "fnExactCanSee", fn := fun _ => fun
  | [d1, d2, d3] => { results := [.lit (.bool true)], args := [d1, d2, d3] }
  | _ => none }
def fnExactCanSeeRow : OpenClaim := { program := "ytconlnlbaimghaa", sum := "3992b16143926f2e47ba42d4fbd3dd766289e3e17523c3b5c7b98137b1474bc3", func := "loop.example/g03008/laws.FnExactCanSee", spec := "fnExactCanSee", unfollowed := true, recurses := true, apart := false }
def FnExactCanSeeSaid : Prop := fnExactCanSeeRow.holds Try.pinned (OpenSpec.ofChange fnExactCanSeeSpec)

/-- ITS FALSE NEIGHBOUR: 'it returns false'. Refute it at one input. -/
def fnExactCanSeeWrong : ChangeSpec := { name := "fnExactCanSee", fn := fun _ => fun
  | [d1, d2, d3] => { results := [.lit (.bool false)], args := [d1, d2, d3] }
  | _ => none }
def FnExactCanSeeWrongFalsely : Prop := fnExactCanSeeRow.holds Try.pinned (OpenSpec.ofChange fnExactCanSeeWrong)

/-- 'laws.FnExactDaysNear': WHATEVER THE INPUT: true; the input reads as it did. -/
def fnExactDaysNearSpec : ChangeSpec := { name := "fnExactDaysNear", fn := fun _ => fun
  | [d1, d2, d3, d4] => { results := [.lit (.bool true)], args := [d1, d2, d3, d4] }
  | _ => none }
def fnExactDaysNearRow : OpenClaim := { program := "ytconlnlbaimghaa", sum := "3992b16143926f2e47ba42d4fbd3dd766289e3e17523c3b5c7b98137b1474bc3", func := "loop.example/g03008/laws.FnExactDaysNear", spec := "fnExactDaysNear", unfollowed := true, recurses := true, apart := false }
def FnExactDaysNearSaid : Prop := fnExactDaysNearRow.holds Try.pinned (OpenSpec.ofChange fnExactDaysNearSpec)

/-- ITS FALSE NEIGHBOUR: 'it returns false'. Refute it at one input. -/
def fnExactDaysNearWrong : ChangeSpec := { name := "fnExactDaysNear", fn := fun _ => fun
  | [d1, d2, d3, d4] => { results := [.lit (.bool false)], args := [d1, d2, d3, d4] }
  | _ => none }
def FnExactDaysNearWrongFalsely : Prop := fnExactDaysNearRow.holds Try.pinned (OpenSpec.ofChange fnExactDaysNearWrong)

/-- 'laws.FnExactPastText': WHATEVER THE INPUT: true; the input reads as it did. -/
def fnExactPastTextSpec : ChangeSpec := { name := "fnExactPastText", fn := fun _ => fun
  | [d] => { results := [.lit (.bool true)], args := [d] }
  | _ => none }
def fnExactPastTextRow : OpenClaim := { program := "ytconlnlbaimghaa", sum := "3992b16143926f2e47ba42d4fbd3dd766289e3e17523c3b5c7b98137b1474bc3", func := "loop.example/g03008/laws.FnExactPastText", spec := "fnExactPastText", inPlace := ["internal/abi.NoEscape"], apart := false }
def FnExactPastTextSaid : Prop := fnExactPastTextRow.holds Try.pinned (OpenSpec.ofChange fnExactPastTextSpec)

/-- ITS FALSE NEIGHBOUR: 'it returns false'. Refute it at one input. -/
def fnExactPastTextWrong : ChangeSpec := { name := "fnExactPastText", fn := fun _ => fun
  | [d] => { results := [.lit (.bool false)], args := [d] }
  | _ => none }
def FnExactPastTextWrongFalsely : Prop := fnExactPastTextRow.holds Try.pinned (OpenSpec.ofChange fnExactPastTextWrong)

/- THE SECOND FORM. 'bulk': how many values and letters a reading holds, each counted each time it is reached (what is shared counts as often as it is met; a slice's spare places count too). A statement '..UptoSaid' is the law's where the arguments, and the package variables that the reading takes, are together of bulk at most 1048576: NARROWER than '..Said'. Prove '..Said' where nothing that the law and all that it calls make is longer than what came in: it says more and counts as full. Else prove '..UptoSaid'. A law counts once. -/
mutual
def uptoBulk {H : Type} : DataW H → Nat
  | .lit (.string bytes) => bytes.length + 1
  | .lit _ => 1
  | .nil => 1
  | .ptr d => uptoBulk d + 1
  | .slice elems spare => uptoBulkAll elems + uptoBulkAll spare + 1
  | .agg parts => uptoBulkAll parts + 1
  | .iface _ d => uptoBulk d + 1
  | .map entries => uptoBulkEntries entries + 1
  | .held _ => 1
def uptoBulkAll {H : Type} : List (DataW H) → Nat
  | [] => 0
  | d :: r => uptoBulk d + uptoBulkAll r
def uptoBulkEntries {H : Type} : List (Lit × DataW H) → Nat
  | [] => 0
  | x :: r => uptoBulkEntry x + uptoBulkEntries r
def uptoBulkEntry {H : Type} : Lit × DataW H → Nat
  | (.string bytes, d) => bytes.length + uptoBulk d + 1
  | (_, d) => uptoBulk d + 1
 end
def uptoSmall : (H : Type) → List (DataW H) → Bool := fun _ ds => decide (uptoBulkAll ds ≤ 1048576)
def OpenSpec.upto (s : _root_.Go.ChangeSpec) : _root_.Go.OpenSpec := { _root_.Go.OpenSpec.ofChange s with cond := some uptoSmall }

/-- 'laws.FnExactCountEvents', WHERE WHAT IT READS IS OF BULK AT MOST 1048576: true; the input reads as it did. -/
def fnExactCountEventsUptoRow : OpenClaim := { program := "ytconlnlbaimghaa", sum := "3992b16143926f2e47ba42d4fbd3dd766289e3e17523c3b5c7b98137b1474bc3", func := "loop.example/g03008/laws.FnExactCountEvents", spec := "fnExactCountEvents", apart := false, narrowed := true }
def FnExactCountEventsUptoSaid : Prop := fnExactCountEventsUptoRow.holds Try.pinned (OpenSpec.upto fnExactCountEventsSpec)

/-- 'laws.FnExactStillDays', WHERE WHAT IT READS IS OF BULK AT MOST 1048576: true; the input reads as it did. -/
def fnExactStillDaysUptoRow : OpenClaim := { program := "ytconlnlbaimghaa", sum := "3992b16143926f2e47ba42d4fbd3dd766289e3e17523c3b5c7b98137b1474bc3", func := "loop.example/g03008/laws.FnExactStillDays", spec := "fnExactStillDays", unfollowed := true, recurses := true, apart := false, narrowed := true }
def FnExactStillDaysUptoSaid : Prop := fnExactStillDaysUptoRow.holds Try.pinned (OpenSpec.upto fnExactStillDaysSpec)

/-- 'laws.FnExactExampleLand', WHERE WHAT IT READS IS OF BULK AT MOST 1048576: true; the input reads as it did. -/
def fnExactExampleLandUptoRow : OpenClaim := { program := "ytconlnlbaimghaa", sum := "3992b16143926f2e47ba42d4fbd3dd766289e3e17523c3b5c7b98137b1474bc3", func := "loop.example/g03008/laws.FnExactExampleLand", spec := "fnExactExampleLand", inPlace := ["internal/bytealg.IndexByteString", "internal/bytealg.IndexString"], named := ["internal/bytealg.MaxLen"], apart := false, narrowed := true }
def FnExactExampleLandUptoSaid : Prop := fnExactExampleLandUptoRow.holds Try.pinned (OpenSpec.upto fnExactExampleLandSpec)

/-- 'laws.FnExactCanSee', WHERE WHAT IT READS IS OF BULK AT MOST 1048576: true; the input reads as it did. -/
def fnExactCanSeeUptoRow : OpenClaim := { program := "ytconlnlbaimghaa", sum := "3992b16143926f2e47ba42d4fbd3dd766289e3e17523c3b5c7b98137b1474bc3", func := "loop.example/g03008/laws.FnExactCanSee", spec := "fnExactCanSee", unfollowed := true, recurses := true, apart := false, narrowed := true }
def FnExactCanSeeUptoSaid : Prop := fnExactCanSeeUptoRow.holds Try.pinned (OpenSpec.upto fnExactCanSeeSpec)

/-- 'laws.FnExactDaysNear', WHERE WHAT IT READS IS OF BULK AT MOST 1048576: true; the input reads as it did. -/
def fnExactDaysNearUptoRow : OpenClaim := { program := "ytconlnlbaimghaa", sum := "3992b16143926f2e47ba42d4fbd3dd766289e3e17523c3b5c7b98137b1474bc3", func := "loop.example/g03008/laws.FnExactDaysNear", spec := "fnExactDaysNear", unfollowed := true, recurses := true, apart := false, narrowed := true }
def FnExactDaysNearUptoSaid : Prop := fnExactDaysNearUptoRow.holds Try.pinned (OpenSpec.upto fnExactDaysNearSpec)

/-- 'laws.FnExactPastText', WHERE WHAT IT READS IS OF BULK AT MOST 1048576: true; the input reads as it did. -/
def fnExactPastTextUptoRow : OpenClaim := { program := "ytconlnlbaimghaa", sum := "3992b16143926f2e47ba42d4fbd3dd766289e3e17523c3b5c7b98137b1474bc3", func := "loop.example/g03008/laws.FnExactPastText", spec := "fnExactPastText", inPlace := ["internal/abi.NoEscape"], apart := false, narrowed := true }
def FnExactPastTextUptoSaid : Prop := fnExactPastTextUptoRow.holds Try.pinned (OpenSpec.upto fnExactPastTextSpec)

end Rows
end Go.Proofs.Ytconlnlbaimghaa

/-
  No cell of these rows narrows 'for every input' (looked for: loops, veiled, ifaces, maps, wideKeys, modest, calm, conditions, laid).
  DERIVED. THE GIVEN ROWS OF THIS SEAT. 7 by the template 'for every input the law returns true; each argument reads behind the call as it read before'; 0 by the template 'total and deterministic' (their statements: YtbgbnbnfmlpemaaTotals.lean).
  GIVEN WITH THE SEED: the statements are not yours to turn. If you find one false, say at which input.
  Laid BY PROGRAM, IN A SANDBOX (cutbox-rows.mjs): the forced cells as the released guide's own fill.sh prints them over the translation 75db5f93836b472d… (all of the seat's roots in one cut). By AI agents, Wed Nov 11 2026. No macro, syntax, notation, axiom, sorry.
-/
import Derived.Test.YtbgbnbnfmlpemaaChecked
import GoSem.Claim
import GoSem.ClaimJoined
import GoSem.ClaimMapViews
import Derived.JoinedTies
import Derived.KernelRfl
namespace Go.Proofs.Ytbgbnbnfmlpemaa
/- THE CELL 'sum', in the pinned program and in every row, IS THE sha256 OF THE DUMP (.gsa) THAT YtbgbnbnfmlpemaaProg.lean LOADS. Nothing in Lean hashes anything: it is a label: what it is worth is what the hold of that sum in a sandbox is worth. -/
noncomputable def Try.pinned : Pinned := { name := "ytbgbnbnfmlpemaa", sum := "75db5f93836b472d8dbf8ecf527065525ce61eb7e98b750a196f9b07c0021e6d", checked := Try.checked }
namespace Rows
def none {H : Type} : Left H := { results := [], args := [] }

/-- 'laws.FnExactSearchArea': WHATEVER THE INPUT: true; the input reads as it did. -/
def fnExactSearchAreaSpec : ChangeSpec := { name := "fnExactSearchArea", fn := fun _ => fun
  | [d1, d2, d3] => { results := [.lit (.bool true)], args := [d1, d2, d3] }
  | _ => none }
def fnExactSearchAreaRow : OpenClaim := { program := "ytbgbnbnfmlpemaa", sum := "75db5f93836b472d8dbf8ecf527065525ce61eb7e98b750a196f9b07c0021e6d", func := "loop.example/g03008/laws.FnExactSearchArea", spec := "fnExactSearchArea", unfollowed := true, recurses := true, apart := false }
def FnExactSearchAreaSaid : Prop := fnExactSearchAreaRow.holds Try.pinned (OpenSpec.ofChange fnExactSearchAreaSpec)

/-- ITS FALSE NEIGHBOUR: 'it returns false'. Refute it at one input. -/
def fnExactSearchAreaWrong : ChangeSpec := { name := "fnExactSearchArea", fn := fun _ => fun
  | [d1, d2, d3] => { results := [.lit (.bool false)], args := [d1, d2, d3] }
  | _ => none }
def FnExactSearchAreaWrongFalsely : Prop := fnExactSearchAreaRow.holds Try.pinned (OpenSpec.ofChange fnExactSearchAreaWrong)

/-- 'laws.FnExactStillIn': WHATEVER THE INPUT: true; the input reads as it did. -/
def fnExactStillInSpec : ChangeSpec := { name := "fnExactStillIn", fn := fun _ => fun
  | [d1, d2] => { results := [.lit (.bool true)], args := [d1, d2] }
  | _ => none }
def fnExactStillInRow : OpenClaim := { program := "ytbgbnbnfmlpemaa", sum := "75db5f93836b472d8dbf8ecf527065525ce61eb7e98b750a196f9b07c0021e6d", func := "loop.example/g03008/laws.FnExactStillIn", spec := "fnExactStillIn", apart := false }
def FnExactStillInSaid : Prop := fnExactStillInRow.holds Try.pinned (OpenSpec.ofChange fnExactStillInSpec)

/-- ITS FALSE NEIGHBOUR: 'it returns false'. Refute it at one input. -/
def fnExactStillInWrong : ChangeSpec := { name := "fnExactStillIn", fn := fun _ => fun
  | [d1, d2] => { results := [.lit (.bool false)], args := [d1, d2] }
  | _ => none }
def FnExactStillInWrongFalsely : Prop := fnExactStillInRow.holds Try.pinned (OpenSpec.ofChange fnExactStillInWrong)

/-- 'laws.FnExactIsFound': WHATEVER THE INPUT: true; the input reads as it did. -/
def fnExactIsFoundSpec : ChangeSpec := { name := "fnExactIsFound", fn := fun _ => fun
  | [d1, d2, d3] => { results := [.lit (.bool true)], args := [d1, d2, d3] }
  | _ => none }
def fnExactIsFoundRow : OpenClaim := { program := "ytbgbnbnfmlpemaa", sum := "75db5f93836b472d8dbf8ecf527065525ce61eb7e98b750a196f9b07c0021e6d", func := "loop.example/g03008/laws.FnExactIsFound", spec := "fnExactIsFound", apart := false }
def FnExactIsFoundSaid : Prop := fnExactIsFoundRow.holds Try.pinned (OpenSpec.ofChange fnExactIsFoundSpec)

/-- ITS FALSE NEIGHBOUR: 'it returns false'. Refute it at one input. -/
def fnExactIsFoundWrong : ChangeSpec := { name := "fnExactIsFound", fn := fun _ => fun
  | [d1, d2, d3] => { results := [.lit (.bool false)], args := [d1, d2, d3] }
  | _ => none }
def FnExactIsFoundWrongFalsely : Prop := fnExactIsFoundRow.holds Try.pinned (OpenSpec.ofChange fnExactIsFoundWrong)

/-- 'laws.FnExactMeetDay': WHATEVER THE INPUT: true; the input reads as it did. -/
def fnExactMeetDaySpec : ChangeSpec := { name := "fnExactMeetDay", fn := fun _ => fun
  | [d1, d2, d3, d4] => { results := [.lit (.bool true)], args := [d1, d2, d3, d4] }
  | _ => none }
def fnExactMeetDayRow : OpenClaim := { program := "ytbgbnbnfmlpemaa", sum := "75db5f93836b472d8dbf8ecf527065525ce61eb7e98b750a196f9b07c0021e6d", func := "loop.example/g03008/laws.FnExactMeetDay", spec := "fnExactMeetDay", unfollowed := true, recurses := true, apart := false }
def FnExactMeetDaySaid : Prop := fnExactMeetDayRow.holds Try.pinned (OpenSpec.ofChange fnExactMeetDaySpec)

/-- ITS FALSE NEIGHBOUR: 'it returns false'. Refute it at one input. -/
def fnExactMeetDayWrong : ChangeSpec := { name := "fnExactMeetDay", fn := fun _ => fun
  | [d1, d2, d3, d4] => { results := [.lit (.bool false)], args := [d1, d2, d3, d4] }
  | _ => none }
def FnExactMeetDayWrongFalsely : Prop := fnExactMeetDayRow.holds Try.pinned (OpenSpec.ofChange fnExactMeetDayWrong)

/-- 'laws.FnExactSearchOrder': WHATEVER THE INPUT: true; the input reads as it did. -/
def fnExactSearchOrderSpec : ChangeSpec := { name := "fnExactSearchOrder", fn := fun _ => fun
  | [d1, d2, d3] => { results := [.lit (.bool true)], args := [d1, d2, d3] }
  | _ => none }
def fnExactSearchOrderRow : OpenClaim := { program := "ytbgbnbnfmlpemaa", sum := "75db5f93836b472d8dbf8ecf527065525ce61eb7e98b750a196f9b07c0021e6d", func := "loop.example/g03008/laws.FnExactSearchOrder", spec := "fnExactSearchOrder", unfollowed := true, recurses := true, apart := false }
def FnExactSearchOrderSaid : Prop := fnExactSearchOrderRow.holds Try.pinned (OpenSpec.ofChange fnExactSearchOrderSpec)

/-- ITS FALSE NEIGHBOUR: 'it returns false'. Refute it at one input. -/
def fnExactSearchOrderWrong : ChangeSpec := { name := "fnExactSearchOrder", fn := fun _ => fun
  | [d1, d2, d3] => { results := [.lit (.bool false)], args := [d1, d2, d3] }
  | _ => none }
def FnExactSearchOrderWrongFalsely : Prop := fnExactSearchOrderRow.holds Try.pinned (OpenSpec.ofChange fnExactSearchOrderWrong)

/-- 'laws.FnSearch': WHATEVER THE INPUT: true; the input reads as it did. -/
def fnSearchSpec : ChangeSpec := { name := "fnSearch", fn := fun _ => fun
  | [d] => { results := [.lit (.bool true)], args := [d] }
  | _ => none }
def fnSearchRow : OpenClaim := { program := "ytbgbnbnfmlpemaa", sum := "75db5f93836b472d8dbf8ecf527065525ce61eb7e98b750a196f9b07c0021e6d", func := "loop.example/g03008/laws.FnSearch", spec := "fnSearch", unfollowed := true, recurses := true, apart := false }
def FnSearchSaid : Prop := fnSearchRow.holds Try.pinned (OpenSpec.ofChange fnSearchSpec)

/-- ITS FALSE NEIGHBOUR: 'it returns false'. Refute it at one input. -/
def fnSearchWrong : ChangeSpec := { name := "fnSearch", fn := fun _ => fun
  | [d] => { results := [.lit (.bool false)], args := [d] }
  | _ => none }
def FnSearchWrongFalsely : Prop := fnSearchRow.holds Try.pinned (OpenSpec.ofChange fnSearchWrong)

/-- 'laws.FnExactCross': WHATEVER THE INPUT: true; the input reads as it did. -/
def fnExactCrossSpec : ChangeSpec := { name := "fnExactCross", fn := fun _ => fun
  | [d1, d2] => { results := [.lit (.bool true)], args := [d1, d2] }
  | _ => none }
def fnExactCrossRow : OpenClaim := { program := "ytbgbnbnfmlpemaa", sum := "75db5f93836b472d8dbf8ecf527065525ce61eb7e98b750a196f9b07c0021e6d", func := "loop.example/g03008/laws.FnExactCross", spec := "fnExactCross", apart := false }
def FnExactCrossSaid : Prop := fnExactCrossRow.holds Try.pinned (OpenSpec.ofChange fnExactCrossSpec)

/-- ITS FALSE NEIGHBOUR: 'it returns false'. Refute it at one input. -/
def fnExactCrossWrong : ChangeSpec := { name := "fnExactCross", fn := fun _ => fun
  | [d1, d2] => { results := [.lit (.bool false)], args := [d1, d2] }
  | _ => none }
def FnExactCrossWrongFalsely : Prop := fnExactCrossRow.holds Try.pinned (OpenSpec.ofChange fnExactCrossWrong)

/- THE SECOND FORM. 'bulk': how many values and letters a reading holds, each counted each time it is reached (what is shared counts as often as it is met; a slice's spare places count too). A statement '..UptoSaid' is the law's where the arguments, and the package variables that the reading takes, are together of bulk at most 1048576: NARROWER than '..Said'. Prove '..Said' where nothing that the law and all that it calls make is longer than what came in: it says more and counts as full. Else prove '..UptoSaid'. A law counts once. -/
mutual
def uptoBulk {H : Type} : DataW H → Nat
  | .lit (.string bytes) => bytes.length + 1
  | .lit _ => 1
  | .nil => 1
  | .ptr d => uptoBulk d + 1
  | .slice elems spare => uptoBulkAll elems + uptoBulkAll spare + 1
  | .agg parts => uptoBulkAll parts + 1
  | .iface _ d => uptoBulk d + 1
  | .map entries => uptoBulkEntries entries + 1
  | .held _ => 1
def uptoBulkAll {H : Type} : List (DataW H) → Nat
  | [] => 0
  | d :: r => uptoBulk d + uptoBulkAll r
def uptoBulkEntries {H : Type} : List (Lit × DataW H) → Nat
  | [] => 0
  | x :: r => uptoBulkEntry x + uptoBulkEntries r
def uptoBulkEntry {H : Type} : Lit × DataW H → Nat
  | (.string bytes, d) => bytes.length + uptoBulk d + 1
  | (_, d) => uptoBulk d + 1
 end
def uptoSmall : (H : Type) → List (DataW H) → Bool := fun _ ds => decide (uptoBulkAll ds ≤ 1048576)
def OpenSpec.upto (s : _root_.Go.ChangeSpec) : _root_.Go.OpenSpec := { _root_.Go.OpenSpec.ofChange s with cond := some uptoSmall }

/-- 'laws.FnExactSearchArea', WHERE WHAT IT READS IS OF BULK AT MOST 1048576: true; the input reads as it did. -/
def fnExactSearchAreaUptoRow : OpenClaim := { program := "ytbgbnbnfmlpemaa", sum := "75db5f93836b472d8dbf8ecf527065525ce61eb7e98b750a196f9b07c0021e6d", func := "loop.example/g03008/laws.FnExactSearchArea", spec := "fnExactSearchArea", unfollowed := true, recurses := true, apart := false, narrowed := true }
def FnExactSearchAreaUptoSaid : Prop := fnExactSearchAreaUptoRow.holds Try.pinned (OpenSpec.upto fnExactSearchAreaSpec)

/-- 'laws.FnExactStillIn', WHERE WHAT IT READS IS OF BULK AT MOST 1048576: true; the input reads as it did. -/
def fnExactStillInUptoRow : OpenClaim := { program := "ytbgbnbnfmlpemaa", sum := "75db5f93836b472d8dbf8ecf527065525ce61eb7e98b750a196f9b07c0021e6d", func := "loop.example/g03008/laws.FnExactStillIn", spec := "fnExactStillIn", apart := false, narrowed := true }
def FnExactStillInUptoSaid : Prop := fnExactStillInUptoRow.holds Try.pinned (OpenSpec.upto fnExactStillInSpec)

/-- 'laws.FnExactIsFound', WHERE WHAT IT READS IS OF BULK AT MOST 1048576: true; the input reads as it did. -/
def fnExactIsFoundUptoRow : OpenClaim := { program := "ytbgbnbnfmlpemaa", sum := "75db5f93836b472d8dbf8ecf527065525ce61eb7e98b750a196f9b07c0021e6d", func := "loop.example/g03008/laws.FnExactIsFound", spec := "fnExactIsFound", apart := false, narrowed := true }
def FnExactIsFoundUptoSaid : Prop := fnExactIsFoundUptoRow.holds Try.pinned (OpenSpec.upto fnExactIsFoundSpec)

/-- 'laws.FnExactMeetDay', WHERE WHAT IT READS IS OF BULK AT MOST 1048576: true; the input reads as it did. -/
def fnExactMeetDayUptoRow : OpenClaim := { program := "ytbgbnbnfmlpemaa", sum := "75db5f93836b472d8dbf8ecf527065525ce61eb7e98b750a196f9b07c0021e6d", func := "loop.example/g03008/laws.FnExactMeetDay", spec := "fnExactMeetDay", unfollowed := true, recurses := true, apart := false, narrowed := true }
def FnExactMeetDayUptoSaid : Prop := fnExactMeetDayUptoRow.holds Try.pinned (OpenSpec.upto fnExactMeetDaySpec)

/-- 'laws.FnExactSearchOrder', WHERE WHAT IT READS IS OF BULK AT MOST 1048576: true; the input reads as it did. -/
def fnExactSearchOrderUptoRow : OpenClaim := { program := "ytbgbnbnfmlpemaa", sum := "75db5f93836b472d8dbf8ecf527065525ce61eb7e98b750a196f9b07c0021e6d", func := "loop.example/g03008/laws.FnExactSearchOrder", spec := "fnExactSearchOrder", unfollowed := true, recurses := true, apart := false, narrowed := true }
def FnExactSearchOrderUptoSaid : Prop := fnExactSearchOrderUptoRow.holds Try.pinned (OpenSpec.upto fnExactSearchOrderSpec)

/-- 'laws.FnSearch', WHERE WHAT IT READS IS OF BULK AT MOST 1048576: true; the input reads as it did. -/
def fnSearchUptoRow : OpenClaim := { program := "ytbgbnbnfmlpemaa", sum := "75db5f93836b472d8dbf8ecf527065525ce61eb7e98b750a196f9b07c0021e6d", func := "loop.example/g03008/laws.FnSearch", spec := "fnSearch", unfollowed := true, recurses := true, apart := false, narrowed := true }
def FnSearchUptoSaid : Prop := fnSearchUptoRow.holds Try.pinned (OpenSpec.upto fnSearchSpec)

/-- 'laws.FnExactCross', WHERE WHAT IT READS IS OF BULK AT MOST 1048576: true; the input reads as it did. -/
def fnExactCrossUptoRow : OpenClaim := { program := "ytbgbnbnfmlpemaa", sum := "75db5f93836b472d8dbf8ecf527065525ce61eb7e98b750a196f9b07c0021e6d", func := "loop.example/g03008/laws.FnExactCross", spec := "fnExactCross", apart := false, narrowed := true }
def FnExactCrossUptoSaid : Prop := fnExactCrossUptoRow.holds Try.pinned (OpenSpec.upto fnExactCrossSpec)

end Rows
end Go.Proofs.Ytbgbnbnfmlpemaa

/-
  No cell of these rows narrows 'for every input' (looked for: loops, veiled, ifaces, maps, wideKeys, modest, calm, conditions, laid).
  DERIVED. THE GIVEN ROWS OF THIS SEAT. 13 by the template 'for every input the law returns true; each argument reads behind the call as it read before'; 0 by the template 'total and deterministic' (their statements: YtfccikhmcenanaaTotals.lean).
  GIVEN WITH THE SEED: the statements are not yours to turn. If you find one false, say at which input.
  Laid BY PROGRAM, IN A SANDBOX (cutbox-rows.mjs): the forced cells as the released guide's own fill.sh prints them over the translation c0f9ef9353936ba4… (all of the seat's roots in one cut). By AI agents, Wed Nov 11 2026. No macro, syntax, notation, axiom, sorry.
-/
import Derived.Test.YtfccikhmcenanaaChecked
import GoSem.Claim
import GoSem.ClaimJoined
import GoSem.ClaimMapViews
import Derived.JoinedTies
import Derived.KernelRfl
namespace Go.Proofs.Ytfccikhmcenanaa
/- THE CELL 'sum', in the pinned program and in every row, IS THE sha256 OF THE DUMP (.gsa) THAT YtfccikhmcenanaaProg.lean LOADS. Nothing in Lean hashes anything: it is a label: what it is worth is what the hold of that sum in a sandbox is worth. -/
noncomputable def Try.pinned : Pinned := { name := "ytfccikhmcenanaa", sum := "c0f9ef9353936ba4175f71adfe4dedac6f29e0da409d3969002ff667e0c4f6e2", checked := Try.checked }
namespace Rows
def none {H : Type} : Left H := { results := [], args := [] }

/-- 'laws.FnLand': WHATEVER THE INPUT: true; the input reads as it did. -/
def fnLandSpec : ChangeSpec := { name := "fnLand", fn := fun _ => fun
  | [d] => { results := [.lit (.bool true)], args := [d] }
  | _ => none }
def fnLandRow : OpenClaim := { program := "ytfccikhmcenanaa", sum := "c0f9ef9353936ba4175f71adfe4dedac6f29e0da409d3969002ff667e0c4f6e2", func := "loop.example/g03008/laws.FnLand", spec := "fnLand", unfollowed := true, recurses := true, apart := false }
def FnLandSaid : Prop := fnLandRow.holds Try.pinned (OpenSpec.ofChange fnLandSpec)

/-- ITS FALSE NEIGHBOUR: 'it returns false'. Refute it at one input. -/
def fnLandWrong : ChangeSpec := { name := "fnLand", fn := fun _ => fun
  | [d] => { results := [.lit (.bool false)], args := [d] }
  | _ => none }
def FnLandWrongFalsely : Prop := fnLandRow.holds Try.pinned (OpenSpec.ofChange fnLandWrong)

/-- 'laws.FnWays': WHATEVER THE INPUT: true; the input reads as it did. -/
def fnWaysSpec : ChangeSpec := { name := "fnWays", fn := fun _ => fun
  | [d] => { results := [.lit (.bool true)], args := [d] }
  | _ => none }
def fnWaysRow : OpenClaim := { program := "ytfccikhmcenanaa", sum := "c0f9ef9353936ba4175f71adfe4dedac6f29e0da409d3969002ff667e0c4f6e2", func := "loop.example/g03008/laws.FnWays", spec := "fnWays", unfollowed := true, recurses := true, apart := false }
def FnWaysSaid : Prop := fnWaysRow.holds Try.pinned (OpenSpec.ofChange fnWaysSpec)

/-- ITS FALSE NEIGHBOUR: 'it returns false'. Refute it at one input. -/
def fnWaysWrong : ChangeSpec := { name := "fnWays", fn := fun _ => fun
  | [d] => { results := [.lit (.bool false)], args := [d] }
  | _ => none }
def FnWaysWrongFalsely : Prop := fnWaysRow.holds Try.pinned (OpenSpec.ofChange fnWaysWrong)

/-- 'laws.FnExactIsLand': WHATEVER THE INPUT: true; the input reads as it did. -/
def fnExactIsLandSpec : ChangeSpec := { name := "fnExactIsLand", fn := fun _ => fun
  | [d] => { results := [.lit (.bool true)], args := [d] }
  | _ => none }
def fnExactIsLandRow : OpenClaim := { program := "ytfccikhmcenanaa", sum := "c0f9ef9353936ba4175f71adfe4dedac6f29e0da409d3969002ff667e0c4f6e2", func := "loop.example/g03008/laws.FnExactIsLand", spec := "fnExactIsLand", apart := false }
def FnExactIsLandSaid : Prop := fnExactIsLandRow.holds Try.pinned (OpenSpec.ofChange fnExactIsLandSpec)

/-- ITS FALSE NEIGHBOUR: 'it returns false'. Refute it at one input. -/
def fnExactIsLandWrong : ChangeSpec := { name := "fnExactIsLand", fn := fun _ => fun
  | [d] => { results := [.lit (.bool false)], args := [d] }
  | _ => none }
def FnExactIsLandWrongFalsely : Prop := fnExactIsLandRow.holds Try.pinned (OpenSpec.ofChange fnExactIsLandWrong)

/-- 'laws.FnExactIsCell': WHATEVER THE INPUT: true; the input reads as it did. -/
def fnExactIsCellSpec : ChangeSpec := { name := "fnExactIsCell", fn := fun _ => fun
  | [d1, d2] => { results := [.lit (.bool true)], args := [d1, d2] }
  | _ => none }
def fnExactIsCellRow : OpenClaim := { program := "ytfccikhmcenanaa", sum := "c0f9ef9353936ba4175f71adfe4dedac6f29e0da409d3969002ff667e0c4f6e2", func := "loop.example/g03008/laws.FnExactIsCell", spec := "fnExactIsCell", apart := false }
def FnExactIsCellSaid : Prop := fnExactIsCellRow.holds Try.pinned (OpenSpec.ofChange fnExactIsCellSpec)

/-- ITS FALSE NEIGHBOUR: 'it returns false'. Refute it at one input. -/
def fnExactIsCellWrong : ChangeSpec := { name := "fnExactIsCell", fn := fun _ => fun
  | [d1, d2] => { results := [.lit (.bool false)], args := [d1, d2] }
  | _ => none }
def FnExactIsCellWrongFalsely : Prop := fnExactIsCellRow.holds Try.pinned (OpenSpec.ofChange fnExactIsCellWrong)

/-- 'laws.FnExactIsOpen': WHATEVER THE INPUT: true; the input reads as it did. -/
def fnExactIsOpenSpec : ChangeSpec := { name := "fnExactIsOpen", fn := fun _ => fun
  | [d1, d2] => { results := [.lit (.bool true)], args := [d1, d2] }
  | _ => none }
def fnExactIsOpenRow : OpenClaim := { program := "ytfccikhmcenanaa", sum := "c0f9ef9353936ba4175f71adfe4dedac6f29e0da409d3969002ff667e0c4f6e2", func := "loop.example/g03008/laws.FnExactIsOpen", spec := "fnExactIsOpen", apart := false }
def FnExactIsOpenSaid : Prop := fnExactIsOpenRow.holds Try.pinned (OpenSpec.ofChange fnExactIsOpenSpec)

/-- ITS FALSE NEIGHBOUR: 'it returns false'. Refute it at one input. -/
def fnExactIsOpenWrong : ChangeSpec := { name := "fnExactIsOpen", fn := fun _ => fun
  | [d1, d2] => { results := [.lit (.bool false)], args := [d1, d2] }
  | _ => none }
def FnExactIsOpenWrongFalsely : Prop := fnExactIsOpenRow.holds Try.pinned (OpenSpec.ofChange fnExactIsOpenWrong)

/-- 'laws.FnExactNear': WHATEVER THE INPUT: true; the input reads as it did. -/
def fnExactNearSpec : ChangeSpec := { name := "fnExactNear", fn := fun _ => fun
  | [d1, d2] => { results := [.lit (.bool true)], args := [d1, d2] }
  | _ => none }
def fnExactNearRow : OpenClaim := { program := "ytfccikhmcenanaa", sum := "c0f9ef9353936ba4175f71adfe4dedac6f29e0da409d3969002ff667e0c4f6e2", func := "loop.example/g03008/laws.FnExactNear", spec := "fnExactNear", unfollowed := true, recurses := true, apart := false }
def FnExactNearSaid : Prop := fnExactNearRow.holds Try.pinned (OpenSpec.ofChange fnExactNearSpec)

/-- ITS FALSE NEIGHBOUR: 'it returns false'. Refute it at one input. -/
def fnExactNearWrong : ChangeSpec := { name := "fnExactNear", fn := fun _ => fun
  | [d1, d2] => { results := [.lit (.bool false)], args := [d1, d2] }
  | _ => none }
def FnExactNearWrongFalsely : Prop := fnExactNearRow.holds Try.pinned (OpenSpec.ofChange fnExactNearWrong)

/-- 'laws.FnExactApart': WHATEVER THE INPUT: true; the input reads as it did. -/
def fnExactApartSpec : ChangeSpec := { name := "fnExactApart", fn := fun _ => fun
  | [d1, d2, d3] => { results := [.lit (.bool true)], args := [d1, d2, d3] }
  | _ => none }
def fnExactApartRow : OpenClaim := { program := "ytfccikhmcenanaa", sum := "c0f9ef9353936ba4175f71adfe4dedac6f29e0da409d3969002ff667e0c4f6e2", func := "loop.example/g03008/laws.FnExactApart", spec := "fnExactApart", unfollowed := true, recurses := true, apart := false }
def FnExactApartSaid : Prop := fnExactApartRow.holds Try.pinned (OpenSpec.ofChange fnExactApartSpec)

/-- ITS FALSE NEIGHBOUR: 'it returns false'. Refute it at one input. -/
def fnExactApartWrong : ChangeSpec := { name := "fnExactApart", fn := fun _ => fun
  | [d1, d2, d3] => { results := [.lit (.bool false)], args := [d1, d2, d3] }
  | _ => none }
def FnExactApartWrongFalsely : Prop := fnExactApartRow.holds Try.pinned (OpenSpec.ofChange fnExactApartWrong)

/-- 'laws.FnExactCountCells': WHATEVER THE INPUT: true; the input reads as it did. -/
def fnExactCountCellsSpec : ChangeSpec := { name := "fnExactCountCells", fn := fun _ => fun
  | [d1, d2] => { results := [.lit (.bool true)], args := [d1, d2] }
  | _ => none }
def fnExactCountCellsRow : OpenClaim := { program := "ytfccikhmcenanaa", sum := "c0f9ef9353936ba4175f71adfe4dedac6f29e0da409d3969002ff667e0c4f6e2", func := "loop.example/g03008/laws.FnExactCountCells", spec := "fnExactCountCells", apart := false }
def FnExactCountCellsSaid : Prop := fnExactCountCellsRow.holds Try.pinned (OpenSpec.ofChange fnExactCountCellsSpec)

/-- ITS FALSE NEIGHBOUR: 'it returns false'. Refute it at one input. -/
def fnExactCountCellsWrong : ChangeSpec := { name := "fnExactCountCells", fn := fun _ => fun
  | [d1, d2] => { results := [.lit (.bool false)], args := [d1, d2] }
  | _ => none }
def FnExactCountCellsWrongFalsely : Prop := fnExactCountCellsRow.holds Try.pinned (OpenSpec.ofChange fnExactCountCellsWrong)

/-- 'laws.FnExactDays': WHATEVER THE INPUT: true; the input reads as it did. -/
def fnExactDaysSpec : ChangeSpec := { name := "fnExactDays", fn := fun _ => fun
  | [d1, d2, d3] => { results := [.lit (.bool true)], args := [d1, d2, d3] }
  | _ => none }
def fnExactDaysRow : OpenClaim := { program := "ytfccikhmcenanaa", sum := "c0f9ef9353936ba4175f71adfe4dedac6f29e0da409d3969002ff667e0c4f6e2", func := "loop.example/g03008/laws.FnExactDays", spec := "fnExactDays", unfollowed := true, recurses := true, apart := false }
def FnExactDaysSaid : Prop := fnExactDaysRow.holds Try.pinned (OpenSpec.ofChange fnExactDaysSpec)

/-- ITS FALSE NEIGHBOUR: 'it returns false'. Refute it at one input. -/
def fnExactDaysWrong : ChangeSpec := { name := "fnExactDays", fn := fun _ => fun
  | [d1, d2, d3] => { results := [.lit (.bool false)], args := [d1, d2, d3] }
  | _ => none }
def FnExactDaysWrongFalsely : Prop := fnExactDaysRow.holds Try.pinned (OpenSpec.ofChange fnExactDaysWrong)

/-- 'laws.FnExactWayTo': WHATEVER THE INPUT: true; the input reads as it did. -/
def fnExactWayToSpec : ChangeSpec := { name := "fnExactWayTo", fn := fun _ => fun
  | [d1, d2, d3] => { results := [.lit (.bool true)], args := [d1, d2, d3] }
  | _ => none }
def fnExactWayToRow : OpenClaim := { program := "ytfccikhmcenanaa", sum := "c0f9ef9353936ba4175f71adfe4dedac6f29e0da409d3969002ff667e0c4f6e2", func := "loop.example/g03008/laws.FnExactWayTo", spec := "fnExactWayTo", unfollowed := true, recurses := true, apart := false }
def FnExactWayToSaid : Prop := fnExactWayToRow.holds Try.pinned (OpenSpec.ofChange fnExactWayToSpec)

/-- ITS FALSE NEIGHBOUR: 'it returns false'. Refute it at one input. -/
def fnExactWayToWrong : ChangeSpec := { name := "fnExactWayTo", fn := fun _ => fun
  | [d1, d2, d3] => { results := [.lit (.bool false)], args := [d1, d2, d3] }
  | _ => none }
def FnExactWayToWrongFalsely : Prop := fnExactWayToRow.holds Try.pinned (OpenSpec.ofChange fnExactWayToWrong)

/-- 'laws.FnExactReach': WHATEVER THE INPUT: true; the input reads as it did. -/
def fnExactReachSpec : ChangeSpec := { name := "fnExactReach", fn := fun _ => fun
  | [d1, d2, d3] => { results := [.lit (.bool true)], args := [d1, d2, d3] }
  | _ => none }
def fnExactReachRow : OpenClaim := { program := "ytfccikhmcenanaa", sum := "c0f9ef9353936ba4175f71adfe4dedac6f29e0da409d3969002ff667e0c4f6e2", func := "loop.example/g03008/laws.FnExactReach", spec := "fnExactReach", unfollowed := true, recurses := true, apart := false }
def FnExactReachSaid : Prop := fnExactReachRow.holds Try.pinned (OpenSpec.ofChange fnExactReachSpec)

/-- ITS FALSE NEIGHBOUR: 'it returns false'. Refute it at one input. -/
def fnExactReachWrong : ChangeSpec := { name := "fnExactReach", fn := fun _ => fun
  | [d1, d2, d3] => { results := [.lit (.bool false)], args := [d1, d2, d3] }
  | _ => none }
def FnExactReachWrongFalsely : Prop := fnExactReachRow.holds Try.pinned (OpenSpec.ofChange fnExactReachWrong)

/-- 'laws.FnExactIsWay': WHATEVER THE INPUT: true; the input reads as it did. -/
def fnExactIsWaySpec : ChangeSpec := { name := "fnExactIsWay", fn := fun _ => fun
  | [d1, d2] => { results := [.lit (.bool true)], args := [d1, d2] }
  | _ => none }
def fnExactIsWayRow : OpenClaim := { program := "ytfccikhmcenanaa", sum := "c0f9ef9353936ba4175f71adfe4dedac6f29e0da409d3969002ff667e0c4f6e2", func := "loop.example/g03008/laws.FnExactIsWay", spec := "fnExactIsWay", unfollowed := true, recurses := true, apart := false }
def FnExactIsWaySaid : Prop := fnExactIsWayRow.holds Try.pinned (OpenSpec.ofChange fnExactIsWaySpec)

/-- ITS FALSE NEIGHBOUR: 'it returns false'. Refute it at one input. -/
def fnExactIsWayWrong : ChangeSpec := { name := "fnExactIsWay", fn := fun _ => fun
  | [d1, d2] => { results := [.lit (.bool false)], args := [d1, d2] }
  | _ => none }
def FnExactIsWayWrongFalsely : Prop := fnExactIsWayRow.holds Try.pinned (OpenSpec.ofChange fnExactIsWayWrong)

/-- 'laws.FnExactFarthest': WHATEVER THE INPUT: true; the input reads as it did. -/
def fnExactFarthestSpec : ChangeSpec := { name := "fnExactFarthest", fn := fun _ => fun
  | [d1, d2] => { results := [.lit (.bool true)], args := [d1, d2] }
  | _ => none }
def fnExactFarthestRow : OpenClaim := { program := "ytfccikhmcenanaa", sum := "c0f9ef9353936ba4175f71adfe4dedac6f29e0da409d3969002ff667e0c4f6e2", func := "loop.example/g03008/laws.FnExactFarthest", spec := "fnExactFarthest", unfollowed := true, recurses := true, apart := false }
def FnExactFarthestSaid : Prop := fnExactFarthestRow.holds Try.pinned (OpenSpec.ofChange fnExactFarthestSpec)

/-- ITS FALSE NEIGHBOUR: 'it returns false'. Refute it at one input. -/
def fnExactFarthestWrong : ChangeSpec := { name := "fnExactFarthest", fn := fun _ => fun
  | [d1, d2] => { results := [.lit (.bool false)], args := [d1, d2] }
  | _ => none }
def FnExactFarthestWrongFalsely : Prop := fnExactFarthestRow.holds Try.pinned (OpenSpec.ofChange fnExactFarthestWrong)

/- THE SECOND FORM. 'bulk': how many values and letters a reading holds, each counted each time it is reached (what is shared counts as often as it is met; a slice's spare places count too). A statement '..UptoSaid' is the law's where the arguments, and the package variables that the reading takes, are together of bulk at most 1048576: NARROWER than '..Said'. Prove '..Said' where nothing that the law and all that it calls make is longer than what came in: it says more and counts as full. Else prove '..UptoSaid'. A law counts once. -/
mutual
def uptoBulk {H : Type} : DataW H → Nat
  | .lit (.string bytes) => bytes.length + 1
  | .lit _ => 1
  | .nil => 1
  | .ptr d => uptoBulk d + 1
  | .slice elems spare => uptoBulkAll elems + uptoBulkAll spare + 1
  | .agg parts => uptoBulkAll parts + 1
  | .iface _ d => uptoBulk d + 1
  | .map entries => uptoBulkEntries entries + 1
  | .held _ => 1
def uptoBulkAll {H : Type} : List (DataW H) → Nat
  | [] => 0
  | d :: r => uptoBulk d + uptoBulkAll r
def uptoBulkEntries {H : Type} : List (Lit × DataW H) → Nat
  | [] => 0
  | x :: r => uptoBulkEntry x + uptoBulkEntries r
def uptoBulkEntry {H : Type} : Lit × DataW H → Nat
  | (.string bytes, d) => bytes.length + uptoBulk d + 1
  | (_, d) => uptoBulk d + 1
 end
def uptoSmall : (H : Type) → List (DataW H) → Bool := fun _ ds => decide (uptoBulkAll ds ≤ 1048576)
def OpenSpec.upto (s : _root_.Go.ChangeSpec) : _root_.Go.OpenSpec := { _root_.Go.OpenSpec.ofChange s with cond := some uptoSmall }

/-- 'laws.FnLand', WHERE WHAT IT READS IS OF BULK AT MOST 1048576: true; the input reads as it did. -/
def fnLandUptoRow : OpenClaim := { program := "ytfccikhmcenanaa", sum := "c0f9ef9353936ba4175f71adfe4dedac6f29e0da409d3969002ff667e0c4f6e2", func := "loop.example/g03008/laws.FnLand", spec := "fnLand", unfollowed := true, recurses := true, apart := false, narrowed := true }
def FnLandUptoSaid : Prop := fnLandUptoRow.holds Try.pinned (OpenSpec.upto fnLandSpec)

/-- 'laws.FnWays', WHERE WHAT IT READS IS OF BULK AT MOST 1048576: true; the input reads as it did. -/
def fnWaysUptoRow : OpenClaim := { program := "ytfccikhmcenanaa", sum := "c0f9ef9353936ba4175f71adfe4dedac6f29e0da409d3969002ff667e0c4f6e2", func := "loop.example/g03008/laws.FnWays", spec := "fnWays", unfollowed := true, recurses := true, apart := false, narrowed := true }
def FnWaysUptoSaid : Prop := fnWaysUptoRow.holds Try.pinned (OpenSpec.upto fnWaysSpec)

/-- 'laws.FnExactIsLand', WHERE WHAT IT READS IS OF BULK AT MOST 1048576: true; the input reads as it did. -/
def fnExactIsLandUptoRow : OpenClaim := { program := "ytfccikhmcenanaa", sum := "c0f9ef9353936ba4175f71adfe4dedac6f29e0da409d3969002ff667e0c4f6e2", func := "loop.example/g03008/laws.FnExactIsLand", spec := "fnExactIsLand", apart := false, narrowed := true }
def FnExactIsLandUptoSaid : Prop := fnExactIsLandUptoRow.holds Try.pinned (OpenSpec.upto fnExactIsLandSpec)

/-- 'laws.FnExactIsCell', WHERE WHAT IT READS IS OF BULK AT MOST 1048576: true; the input reads as it did. -/
def fnExactIsCellUptoRow : OpenClaim := { program := "ytfccikhmcenanaa", sum := "c0f9ef9353936ba4175f71adfe4dedac6f29e0da409d3969002ff667e0c4f6e2", func := "loop.example/g03008/laws.FnExactIsCell", spec := "fnExactIsCell", apart := false, narrowed := true }
def FnExactIsCellUptoSaid : Prop := fnExactIsCellUptoRow.holds Try.pinned (OpenSpec.upto fnExactIsCellSpec)

/-- 'laws.FnExactIsOpen', WHERE WHAT IT READS IS OF BULK AT MOST 1048576: true; the input reads as it did. -/
def fnExactIsOpenUptoRow : OpenClaim := { program := "ytfccikhmcenanaa", sum := "c0f9ef9353936ba4175f71adfe4dedac6f29e0da409d3969002ff667e0c4f6e2", func := "loop.example/g03008/laws.FnExactIsOpen", spec := "fnExactIsOpen", apart := false, narrowed := true }
def FnExactIsOpenUptoSaid : Prop := fnExactIsOpenUptoRow.holds Try.pinned (OpenSpec.upto fnExactIsOpenSpec)

/-- 'laws.FnExactNear', WHERE WHAT IT READS IS OF BULK AT MOST 1048576: true; the input reads as it did. -/
def fnExactNearUptoRow : OpenClaim := { program := "ytfccikhmcenanaa", sum := "c0f9ef9353936ba4175f71adfe4dedac6f29e0da409d3969002ff667e0c4f6e2", func := "loop.example/g03008/laws.FnExactNear", spec := "fnExactNear", unfollowed := true, recurses := true, apart := false, narrowed := true }
def FnExactNearUptoSaid : Prop := fnExactNearUptoRow.holds Try.pinned (OpenSpec.upto fnExactNearSpec)

/-- 'laws.FnExactApart', WHERE WHAT IT READS IS OF BULK AT MOST 1048576: true; the input reads as it did. -/
def fnExactApartUptoRow : OpenClaim := { program := "ytfccikhmcenanaa", sum := "c0f9ef9353936ba4175f71adfe4dedac6f29e0da409d3969002ff667e0c4f6e2", func := "loop.example/g03008/laws.FnExactApart", spec := "fnExactApart", unfollowed := true, recurses := true, apart := false, narrowed := true }
def FnExactApartUptoSaid : Prop := fnExactApartUptoRow.holds Try.pinned (OpenSpec.upto fnExactApartSpec)

/-- 'laws.FnExactCountCells', WHERE WHAT IT READS IS OF BULK AT MOST 1048576: true; the input reads as it did. -/
def fnExactCountCellsUptoRow : OpenClaim := { program := "ytfccikhmcenanaa", sum := "c0f9ef9353936ba4175f71adfe4dedac6f29e0da409d3969002ff667e0c4f6e2", func := "loop.example/g03008/laws.FnExactCountCells", spec := "fnExactCountCells", apart := false, narrowed := true }
def FnExactCountCellsUptoSaid : Prop := fnExactCountCellsUptoRow.holds Try.pinned (OpenSpec.upto fnExactCountCellsSpec)

/-- 'laws.FnExactDays', WHERE WHAT IT READS IS OF BULK AT MOST 1048576: true; the input reads as it did. -/
def fnExactDaysUptoRow : OpenClaim := { program := "ytfccikhmcenanaa", sum := "c0f9ef9353936ba4175f71adfe4dedac6f29e0da409d3969002ff667e0c4f6e2", func := "loop.example/g03008/laws.FnExactDays", spec := "fnExactDays", unfollowed := true, recurses := true, apart := false, narrowed := true }
def FnExactDaysUptoSaid : Prop := fnExactDaysUptoRow.holds Try.pinned (OpenSpec.upto fnExactDaysSpec)

/-- 'laws.FnExactWayTo', WHERE WHAT IT READS IS OF BULK AT MOST 1048576: true; the input reads as it did. -/
def fnExactWayToUptoRow : OpenClaim := { program := "ytfccikhmcenanaa", sum := "c0f9ef9353936ba4175f71adfe4dedac6f29e0da409d3969002ff667e0c4f6e2", func := "loop.example/g03008/laws.FnExactWayTo", spec := "fnExactWayTo", unfollowed := true, recurses := true, apart := false, narrowed := true }
def FnExactWayToUptoSaid : Prop := fnExactWayToUptoRow.holds Try.pinned (OpenSpec.upto fnExactWayToSpec)

/-- 'laws.FnExactReach', WHERE WHAT IT READS IS OF BULK AT MOST 1048576: true; the input reads as it did. -/
def fnExactReachUptoRow : OpenClaim := { program := "ytfccikhmcenanaa", sum := "c0f9ef9353936ba4175f71adfe4dedac6f29e0da409d3969002ff667e0c4f6e2", func := "loop.example/g03008/laws.FnExactReach", spec := "fnExactReach", unfollowed := true, recurses := true, apart := false, narrowed := true }
def FnExactReachUptoSaid : Prop := fnExactReachUptoRow.holds Try.pinned (OpenSpec.upto fnExactReachSpec)

/-- 'laws.FnExactIsWay', WHERE WHAT IT READS IS OF BULK AT MOST 1048576: true; the input reads as it did. -/
def fnExactIsWayUptoRow : OpenClaim := { program := "ytfccikhmcenanaa", sum := "c0f9ef9353936ba4175f71adfe4dedac6f29e0da409d3969002ff667e0c4f6e2", func := "loop.example/g03008/laws.FnExactIsWay", spec := "fnExactIsWay", unfollowed := true, recurses := true, apart := false, narrowed := true }
def FnExactIsWayUptoSaid : Prop := fnExactIsWayUptoRow.holds Try.pinned (OpenSpec.upto fnExactIsWaySpec)

/-- 'laws.FnExactFarthest', WHERE WHAT IT READS IS OF BULK AT MOST 1048576: true; the input reads as it did. -/
def fnExactFarthestUptoRow : OpenClaim := { program := "ytfccikhmcenanaa", sum := "c0f9ef9353936ba4175f71adfe4dedac6f29e0da409d3969002ff667e0c4f6e2", func := "loop.example/g03008/laws.FnExactFarthest", spec := "fnExactFarthest", unfollowed := true, recurses := true, apart := false, narrowed := true }
def FnExactFarthestUptoSaid : Prop := fnExactFarthestUptoRow.holds Try.pinned (OpenSpec.upto fnExactFarthestSpec)

end Rows
end Go.Proofs.Ytfccikhmcenanaa

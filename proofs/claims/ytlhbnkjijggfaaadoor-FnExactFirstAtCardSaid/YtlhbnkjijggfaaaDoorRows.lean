/-
  NARROWER THAN 'FOR EVERY INPUT', by the rows' own cells (each row's printed sentence says how): FnExactIsJournal: laid · FnExactWritePage: laid · FnExactCellOn: laid · FnExactEatenBetween: laid · FnExactLowestFood: laid · FnExactFirstAt: laid · FnExactNeedAt: laid · FnExactLastsDays: laid · FnExactLevelFor: laid · FnExactMixedDays: laid · FnExactLevelName: laid · FnExactTentOf: laid.
  DERIVED. THE GIVEN ROWS OF THIS SEAT. 12 by the template 'for every input the law returns true; each argument reads behind the call as it read before'; 0 by the template 'total and deterministic' (their statements: YtlhbnkjijggfaaaDoorTotals.lean).
  GIVEN WITH THE SEED: the statements are not yours to turn. If you find one false, say at which input.
  Laid BY PROGRAM, IN A SANDBOX (cutbox-rows.mjs): the forced cells as the released guide's own fill.sh prints them over the translation b7882c76ec978683… (all of the seat's roots in one cut). By AI agents, Wed Nov 11 2026. No macro, syntax, notation, axiom, sorry.
-/
import Derived.Test.YtlhbnkjijggfaaaDoorChecked
import GoSem.Claim
import GoSem.ClaimJoined
import GoSem.ClaimMapViews
import Derived.JoinedTies
import Derived.KernelRfl
namespace Go.Proofs.YtlhbnkjijggfaaaDoor
/- THE CELL 'sum', in the pinned program and in every row, IS THE sha256 OF THE DUMP (.gsa) THAT YtlhbnkjijggfaaaDoorProg.lean LOADS. Nothing in Lean hashes anything: it is a label: what it is worth is what the hold of that sum in a sandbox is worth. -/
noncomputable def Tryd.pinned : Pinned := { name := "ytlhbnkjijggfaaadoor", sum := "b7882c76ec97868396be282f0c5c24cd5728e92ab2b0e4d2cdccb6b0f786af52", checked := Tryd.checked }
namespace Rows
def none {H : Type} : Left H := { results := [], args := [] }

/- WHAT THE LISTED PACKAGE-LEVEL VARIABLES READ AS WHEN THE CALL BEGINS. Each datum BY PROGRAM (the guide's laid-datum.mjs) off the statement by which the dump's own 'gosem.cut.vars' lays the variable. In a bare row this is a premise. The card (YtlhbnkjijggfaaaDoorCards.lean) ties it to the program's text. -/
def laid_loop_example_g03008_impl_cover {H : Type} : DataW H := .agg [.lit (.int .i64 (-1)), .lit (.int .i64 0), .lit (.int .i64 0), .lit (.int .i64 0)]
def laid_loop_example_g03008_impl_rations {H : Type} : DataW H := .agg [.agg [.lit (.string [102, 117, 108, 108]), .lit (.int .i64 1)], .agg [.lit (.string [104, 97, 108, 102]), .lit (.int .i64 2)], .agg [.lit (.string [116, 104, 105, 114, 100]), .lit (.int .i64 3)]]
def laid_loop_example_g03008_impl_noBed {H : Type} : DataW H := .agg [.lit (.int .i64 (-1)), .lit (.int .i64 (-1))]

/-- 'laws.FnExactIsJournal': WHATEVER THE INPUT: true; the input reads as it did. -/
def fnExactIsJournalSpec : ChangeSpec := { name := "fnExactIsJournal", vars := ["loop.example/g03008/impl.cover"], fn := fun _ => fun
  | [d, g1] => { results := [.lit (.bool true)], args := [d], vars := [g1] }
  | _ => none }
def fnExactIsJournalRow : OpenClaim := { program := "ytlhbnkjijggfaaadoor", sum := "b7882c76ec97868396be282f0c5c24cd5728e92ab2b0e4d2cdccb6b0f786af52", func := "loop.example/g03008/laws.FnExactIsJournal", spec := "fnExactIsJournal", unfollowed := true, recurses := true, named := ["loop.example/g03008/impl.cover"], apart := false, laid := [("loop.example/g03008/impl.cover", laid_loop_example_g03008_impl_cover)] }
def FnExactIsJournalSaid : Prop := fnExactIsJournalRow.holds Tryd.pinned (OpenSpec.ofChange fnExactIsJournalSpec)

/-- ITS FALSE NEIGHBOUR: 'it returns false'. Refute it at one input. -/
def fnExactIsJournalWrong : ChangeSpec := { name := "fnExactIsJournal", vars := ["loop.example/g03008/impl.cover"], fn := fun _ => fun
  | [d, g1] => { results := [.lit (.bool false)], args := [d], vars := [g1] }
  | _ => none }
def FnExactIsJournalWrongFalsely : Prop := fnExactIsJournalRow.holds Tryd.pinned (OpenSpec.ofChange fnExactIsJournalWrong)

/-- 'laws.FnExactWritePage': WHATEVER THE INPUT: true; the input reads as it did. -/
def fnExactWritePageSpec : ChangeSpec := { name := "fnExactWritePage", vars := ["loop.example/g03008/impl.cover"], fn := fun _ => fun
  | [d1, d2, d3, d4, g1] => { results := [.lit (.bool true)], args := [d1, d2, d3, d4], vars := [g1] }
  | _ => none }
def fnExactWritePageRow : OpenClaim := { program := "ytlhbnkjijggfaaadoor", sum := "b7882c76ec97868396be282f0c5c24cd5728e92ab2b0e4d2cdccb6b0f786af52", func := "loop.example/g03008/laws.FnExactWritePage", spec := "fnExactWritePage", unfollowed := true, recurses := true, named := ["loop.example/g03008/impl.cover"], apart := false, laid := [("loop.example/g03008/impl.cover", laid_loop_example_g03008_impl_cover)] }
def FnExactWritePageSaid : Prop := fnExactWritePageRow.holds Tryd.pinned (OpenSpec.ofChange fnExactWritePageSpec)

/-- ITS FALSE NEIGHBOUR: 'it returns false'. Refute it at one input. -/
def fnExactWritePageWrong : ChangeSpec := { name := "fnExactWritePage", vars := ["loop.example/g03008/impl.cover"], fn := fun _ => fun
  | [d1, d2, d3, d4, g1] => { results := [.lit (.bool false)], args := [d1, d2, d3, d4], vars := [g1] }
  | _ => none }
def FnExactWritePageWrongFalsely : Prop := fnExactWritePageRow.holds Tryd.pinned (OpenSpec.ofChange fnExactWritePageWrong)

/-- 'laws.FnExactCellOn': WHATEVER THE INPUT: true; the input reads as it did. -/
def fnExactCellOnSpec : ChangeSpec := { name := "fnExactCellOn", vars := ["loop.example/g03008/impl.cover"], fn := fun _ => fun
  | [d1, d2, g1] => { results := [.lit (.bool true)], args := [d1, d2], vars := [g1] }
  | _ => none }
def fnExactCellOnRow : OpenClaim := { program := "ytlhbnkjijggfaaadoor", sum := "b7882c76ec97868396be282f0c5c24cd5728e92ab2b0e4d2cdccb6b0f786af52", func := "loop.example/g03008/laws.FnExactCellOn", spec := "fnExactCellOn", unfollowed := true, recurses := true, named := ["loop.example/g03008/impl.cover"], apart := false, laid := [("loop.example/g03008/impl.cover", laid_loop_example_g03008_impl_cover)] }
def FnExactCellOnSaid : Prop := fnExactCellOnRow.holds Tryd.pinned (OpenSpec.ofChange fnExactCellOnSpec)

/-- ITS FALSE NEIGHBOUR: 'it returns false'. Refute it at one input. -/
def fnExactCellOnWrong : ChangeSpec := { name := "fnExactCellOn", vars := ["loop.example/g03008/impl.cover"], fn := fun _ => fun
  | [d1, d2, g1] => { results := [.lit (.bool false)], args := [d1, d2], vars := [g1] }
  | _ => none }
def FnExactCellOnWrongFalsely : Prop := fnExactCellOnRow.holds Tryd.pinned (OpenSpec.ofChange fnExactCellOnWrong)

/-- 'laws.FnExactEatenBetween': WHATEVER THE INPUT: true; the input reads as it did. -/
def fnExactEatenBetweenSpec : ChangeSpec := { name := "fnExactEatenBetween", vars := ["loop.example/g03008/impl.cover"], fn := fun _ => fun
  | [d1, d2, d3, g1] => { results := [.lit (.bool true)], args := [d1, d2, d3], vars := [g1] }
  | _ => none }
def fnExactEatenBetweenRow : OpenClaim := { program := "ytlhbnkjijggfaaadoor", sum := "b7882c76ec97868396be282f0c5c24cd5728e92ab2b0e4d2cdccb6b0f786af52", func := "loop.example/g03008/laws.FnExactEatenBetween", spec := "fnExactEatenBetween", unfollowed := true, recurses := true, named := ["loop.example/g03008/impl.cover"], apart := false, laid := [("loop.example/g03008/impl.cover", laid_loop_example_g03008_impl_cover)] }
def FnExactEatenBetweenSaid : Prop := fnExactEatenBetweenRow.holds Tryd.pinned (OpenSpec.ofChange fnExactEatenBetweenSpec)

/-- ITS FALSE NEIGHBOUR: 'it returns false'. Refute it at one input. -/
def fnExactEatenBetweenWrong : ChangeSpec := { name := "fnExactEatenBetween", vars := ["loop.example/g03008/impl.cover"], fn := fun _ => fun
  | [d1, d2, d3, g1] => { results := [.lit (.bool false)], args := [d1, d2, d3], vars := [g1] }
  | _ => none }
def FnExactEatenBetweenWrongFalsely : Prop := fnExactEatenBetweenRow.holds Tryd.pinned (OpenSpec.ofChange fnExactEatenBetweenWrong)

/-- 'laws.FnExactLowestFood': WHATEVER THE INPUT: true; the input reads as it did. -/
def fnExactLowestFoodSpec : ChangeSpec := { name := "fnExactLowestFood", vars := ["loop.example/g03008/impl.cover"], fn := fun _ => fun
  | [d, g1] => { results := [.lit (.bool true)], args := [d], vars := [g1] }
  | _ => none }
def fnExactLowestFoodRow : OpenClaim := { program := "ytlhbnkjijggfaaadoor", sum := "b7882c76ec97868396be282f0c5c24cd5728e92ab2b0e4d2cdccb6b0f786af52", func := "loop.example/g03008/laws.FnExactLowestFood", spec := "fnExactLowestFood", unfollowed := true, recurses := true, named := ["loop.example/g03008/impl.cover"], apart := false, laid := [("loop.example/g03008/impl.cover", laid_loop_example_g03008_impl_cover)] }
def FnExactLowestFoodSaid : Prop := fnExactLowestFoodRow.holds Tryd.pinned (OpenSpec.ofChange fnExactLowestFoodSpec)

/-- ITS FALSE NEIGHBOUR: 'it returns false'. Refute it at one input. -/
def fnExactLowestFoodWrong : ChangeSpec := { name := "fnExactLowestFood", vars := ["loop.example/g03008/impl.cover"], fn := fun _ => fun
  | [d, g1] => { results := [.lit (.bool false)], args := [d], vars := [g1] }
  | _ => none }
def FnExactLowestFoodWrongFalsely : Prop := fnExactLowestFoodRow.holds Tryd.pinned (OpenSpec.ofChange fnExactLowestFoodWrong)

/-- 'laws.FnExactFirstAt': WHATEVER THE INPUT: true; the input reads as it did. -/
def fnExactFirstAtSpec : ChangeSpec := { name := "fnExactFirstAt", vars := ["loop.example/g03008/impl.cover"], fn := fun _ => fun
  | [d1, d2, g1] => { results := [.lit (.bool true)], args := [d1, d2], vars := [g1] }
  | _ => none }
def fnExactFirstAtRow : OpenClaim := { program := "ytlhbnkjijggfaaadoor", sum := "b7882c76ec97868396be282f0c5c24cd5728e92ab2b0e4d2cdccb6b0f786af52", func := "loop.example/g03008/laws.FnExactFirstAt", spec := "fnExactFirstAt", unfollowed := true, recurses := true, named := ["loop.example/g03008/impl.cover"], apart := false, laid := [("loop.example/g03008/impl.cover", laid_loop_example_g03008_impl_cover)] }
def FnExactFirstAtSaid : Prop := fnExactFirstAtRow.holds Tryd.pinned (OpenSpec.ofChange fnExactFirstAtSpec)

/-- ITS FALSE NEIGHBOUR: 'it returns false'. Refute it at one input. -/
def fnExactFirstAtWrong : ChangeSpec := { name := "fnExactFirstAt", vars := ["loop.example/g03008/impl.cover"], fn := fun _ => fun
  | [d1, d2, g1] => { results := [.lit (.bool false)], args := [d1, d2], vars := [g1] }
  | _ => none }
def FnExactFirstAtWrongFalsely : Prop := fnExactFirstAtRow.holds Tryd.pinned (OpenSpec.ofChange fnExactFirstAtWrong)

/-- 'laws.FnExactNeedAt': WHATEVER THE INPUT: true; the input reads as it did. -/
def fnExactNeedAtSpec : ChangeSpec := { name := "fnExactNeedAt", vars := ["loop.example/g03008/impl.rations"], fn := fun _ => fun
  | [d1, d2, g1] => { results := [.lit (.bool true)], args := [d1, d2], vars := [g1] }
  | _ => none }
def fnExactNeedAtRow : OpenClaim := { program := "ytlhbnkjijggfaaadoor", sum := "b7882c76ec97868396be282f0c5c24cd5728e92ab2b0e4d2cdccb6b0f786af52", func := "loop.example/g03008/laws.FnExactNeedAt", spec := "fnExactNeedAt", unfollowed := true, recurses := true, named := ["loop.example/g03008/impl.rations"], apart := false, laid := [("loop.example/g03008/impl.rations", laid_loop_example_g03008_impl_rations)] }
def FnExactNeedAtSaid : Prop := fnExactNeedAtRow.holds Tryd.pinned (OpenSpec.ofChange fnExactNeedAtSpec)

/-- ITS FALSE NEIGHBOUR: 'it returns false'. Refute it at one input. -/
def fnExactNeedAtWrong : ChangeSpec := { name := "fnExactNeedAt", vars := ["loop.example/g03008/impl.rations"], fn := fun _ => fun
  | [d1, d2, g1] => { results := [.lit (.bool false)], args := [d1, d2], vars := [g1] }
  | _ => none }
def FnExactNeedAtWrongFalsely : Prop := fnExactNeedAtRow.holds Tryd.pinned (OpenSpec.ofChange fnExactNeedAtWrong)

/-- 'laws.FnExactLastsDays': WHATEVER THE INPUT: true; the input reads as it did. -/
def fnExactLastsDaysSpec : ChangeSpec := { name := "fnExactLastsDays", vars := ["loop.example/g03008/impl.rations"], fn := fun _ => fun
  | [d1, d2, g1] => { results := [.lit (.bool true)], args := [d1, d2], vars := [g1] }
  | _ => none }
def fnExactLastsDaysRow : OpenClaim := { program := "ytlhbnkjijggfaaadoor", sum := "b7882c76ec97868396be282f0c5c24cd5728e92ab2b0e4d2cdccb6b0f786af52", func := "loop.example/g03008/laws.FnExactLastsDays", spec := "fnExactLastsDays", unfollowed := true, recurses := true, named := ["loop.example/g03008/impl.rations"], apart := false, laid := [("loop.example/g03008/impl.rations", laid_loop_example_g03008_impl_rations)] }
def FnExactLastsDaysSaid : Prop := fnExactLastsDaysRow.holds Tryd.pinned (OpenSpec.ofChange fnExactLastsDaysSpec)

/-- ITS FALSE NEIGHBOUR: 'it returns false'. Refute it at one input. -/
def fnExactLastsDaysWrong : ChangeSpec := { name := "fnExactLastsDays", vars := ["loop.example/g03008/impl.rations"], fn := fun _ => fun
  | [d1, d2, g1] => { results := [.lit (.bool false)], args := [d1, d2], vars := [g1] }
  | _ => none }
def FnExactLastsDaysWrongFalsely : Prop := fnExactLastsDaysRow.holds Tryd.pinned (OpenSpec.ofChange fnExactLastsDaysWrong)

/-- 'laws.FnExactLevelFor': WHATEVER THE INPUT: true; the input reads as it did. -/
def fnExactLevelForSpec : ChangeSpec := { name := "fnExactLevelFor", vars := ["loop.example/g03008/impl.rations"], fn := fun _ => fun
  | [d1, d2, g1] => { results := [.lit (.bool true)], args := [d1, d2], vars := [g1] }
  | _ => none }
def fnExactLevelForRow : OpenClaim := { program := "ytlhbnkjijggfaaadoor", sum := "b7882c76ec97868396be282f0c5c24cd5728e92ab2b0e4d2cdccb6b0f786af52", func := "loop.example/g03008/laws.FnExactLevelFor", spec := "fnExactLevelFor", unfollowed := true, recurses := true, named := ["loop.example/g03008/impl.rations"], apart := false, laid := [("loop.example/g03008/impl.rations", laid_loop_example_g03008_impl_rations)] }
def FnExactLevelForSaid : Prop := fnExactLevelForRow.holds Tryd.pinned (OpenSpec.ofChange fnExactLevelForSpec)

/-- ITS FALSE NEIGHBOUR: 'it returns false'. Refute it at one input. -/
def fnExactLevelForWrong : ChangeSpec := { name := "fnExactLevelFor", vars := ["loop.example/g03008/impl.rations"], fn := fun _ => fun
  | [d1, d2, g1] => { results := [.lit (.bool false)], args := [d1, d2], vars := [g1] }
  | _ => none }
def FnExactLevelForWrongFalsely : Prop := fnExactLevelForRow.holds Tryd.pinned (OpenSpec.ofChange fnExactLevelForWrong)

/-- 'laws.FnExactMixedDays': WHATEVER THE INPUT: true; the input reads as it did. -/
def fnExactMixedDaysSpec : ChangeSpec := { name := "fnExactMixedDays", vars := ["loop.example/g03008/impl.rations"], fn := fun _ => fun
  | [d1, d2, g1] => { results := [.lit (.bool true)], args := [d1, d2], vars := [g1] }
  | _ => none }
def fnExactMixedDaysRow : OpenClaim := { program := "ytlhbnkjijggfaaadoor", sum := "b7882c76ec97868396be282f0c5c24cd5728e92ab2b0e4d2cdccb6b0f786af52", func := "loop.example/g03008/laws.FnExactMixedDays", spec := "fnExactMixedDays", unfollowed := true, recurses := true, named := ["loop.example/g03008/impl.rations"], apart := false, laid := [("loop.example/g03008/impl.rations", laid_loop_example_g03008_impl_rations)] }
def FnExactMixedDaysSaid : Prop := fnExactMixedDaysRow.holds Tryd.pinned (OpenSpec.ofChange fnExactMixedDaysSpec)

/-- ITS FALSE NEIGHBOUR: 'it returns false'. Refute it at one input. -/
def fnExactMixedDaysWrong : ChangeSpec := { name := "fnExactMixedDays", vars := ["loop.example/g03008/impl.rations"], fn := fun _ => fun
  | [d1, d2, g1] => { results := [.lit (.bool false)], args := [d1, d2], vars := [g1] }
  | _ => none }
def FnExactMixedDaysWrongFalsely : Prop := fnExactMixedDaysRow.holds Tryd.pinned (OpenSpec.ofChange fnExactMixedDaysWrong)

/-- 'laws.FnExactLevelName': WHATEVER THE INPUT: true; the input reads as it did. -/
def fnExactLevelNameSpec : ChangeSpec := { name := "fnExactLevelName", vars := ["loop.example/g03008/impl.rations"], fn := fun _ => fun
  | [d, g1] => { results := [.lit (.bool true)], args := [d], vars := [g1] }
  | _ => none }
def fnExactLevelNameRow : OpenClaim := { program := "ytlhbnkjijggfaaadoor", sum := "b7882c76ec97868396be282f0c5c24cd5728e92ab2b0e4d2cdccb6b0f786af52", func := "loop.example/g03008/laws.FnExactLevelName", spec := "fnExactLevelName", named := ["loop.example/g03008/impl.rations"], apart := false, laid := [("loop.example/g03008/impl.rations", laid_loop_example_g03008_impl_rations)] }
def FnExactLevelNameSaid : Prop := fnExactLevelNameRow.holds Tryd.pinned (OpenSpec.ofChange fnExactLevelNameSpec)

/-- ITS FALSE NEIGHBOUR: 'it returns false'. Refute it at one input. -/
def fnExactLevelNameWrong : ChangeSpec := { name := "fnExactLevelName", vars := ["loop.example/g03008/impl.rations"], fn := fun _ => fun
  | [d, g1] => { results := [.lit (.bool false)], args := [d], vars := [g1] }
  | _ => none }
def FnExactLevelNameWrongFalsely : Prop := fnExactLevelNameRow.holds Tryd.pinned (OpenSpec.ofChange fnExactLevelNameWrong)

/-- 'laws.FnExactTentOf': WHATEVER THE INPUT: true; the input reads as it did. -/
def fnExactTentOfSpec : ChangeSpec := { name := "fnExactTentOf", vars := ["loop.example/g03008/impl.noBed"], fn := fun _ => fun
  | [d1, d2, g1] => { results := [.lit (.bool true)], args := [d1, d2], vars := [g1] }
  | _ => none }
def fnExactTentOfRow : OpenClaim := { program := "ytlhbnkjijggfaaadoor", sum := "b7882c76ec97868396be282f0c5c24cd5728e92ab2b0e4d2cdccb6b0f786af52", func := "loop.example/g03008/laws.FnExactTentOf", spec := "fnExactTentOf", named := ["loop.example/g03008/impl.noBed"], apart := false, laid := [("loop.example/g03008/impl.noBed", laid_loop_example_g03008_impl_noBed)] }
def FnExactTentOfSaid : Prop := fnExactTentOfRow.holds Tryd.pinned (OpenSpec.ofChange fnExactTentOfSpec)

/-- ITS FALSE NEIGHBOUR: 'it returns false'. Refute it at one input. -/
def fnExactTentOfWrong : ChangeSpec := { name := "fnExactTentOf", vars := ["loop.example/g03008/impl.noBed"], fn := fun _ => fun
  | [d1, d2, g1] => { results := [.lit (.bool false)], args := [d1, d2], vars := [g1] }
  | _ => none }
def FnExactTentOfWrongFalsely : Prop := fnExactTentOfRow.holds Tryd.pinned (OpenSpec.ofChange fnExactTentOfWrong)

/- THE SECOND FORM. 'bulk': how many values and letters a reading holds, each counted each time it is reached (what is shared counts as often as it is met; a slice's spare places count too). A statement '..UptoSaid' is the law's where the arguments, and the package variables that the reading takes, are together of bulk at most 1048576: NARROWER than '..Said'. Prove '..Said' where nothing that the law and all that it calls make is longer than what came in: it says more and counts as full. Else prove '..UptoSaid'. A law counts once. -/
mutual
def uptoBulk {H : Type} : DataW H → Nat
  | .lit (.string bytes) => bytes.length + 1
  | .lit _ => 1
  | .nil => 1
  | .ptr d => uptoBulk d + 1
  | .slice elems spare => uptoBulkAll elems + uptoBulkAll spare + 1
  | .agg parts => uptoBulkAll parts + 1
  | .iface _ d => uptoBulk d + 1
  | .map entries => uptoBulkEntries entries + 1
  | .held _ => 1
def uptoBulkAll {H : Type} : List (DataW H) → Nat
  | [] => 0
  | d :: r => uptoBulk d + uptoBulkAll r
def uptoBulkEntries {H : Type} : List (Lit × DataW H) → Nat
  | [] => 0
  | x :: r => uptoBulkEntry x + uptoBulkEntries r
def uptoBulkEntry {H : Type} : Lit × DataW H → Nat
  | (.string bytes, d) => bytes.length + uptoBulk d + 1
  | (_, d) => uptoBulk d + 1
 end
def uptoSmall : (H : Type) → List (DataW H) → Bool := fun _ ds => decide (uptoBulkAll ds ≤ 1048576)
def OpenSpec.upto (s : _root_.Go.ChangeSpec) : _root_.Go.OpenSpec := { _root_.Go.OpenSpec.ofChange s with cond := some uptoSmall }

/-- 'laws.FnExactIsJournal', WHERE WHAT IT READS IS OF BULK AT MOST 1048576: true; the input reads as it did. -/
def fnExactIsJournalUptoRow : OpenClaim := { program := "ytlhbnkjijggfaaadoor", sum := "b7882c76ec97868396be282f0c5c24cd5728e92ab2b0e4d2cdccb6b0f786af52", func := "loop.example/g03008/laws.FnExactIsJournal", spec := "fnExactIsJournal", unfollowed := true, recurses := true, named := ["loop.example/g03008/impl.cover"], apart := false, laid := [("loop.example/g03008/impl.cover", laid_loop_example_g03008_impl_cover)], narrowed := true }
def FnExactIsJournalUptoSaid : Prop := fnExactIsJournalUptoRow.holds Tryd.pinned (OpenSpec.upto fnExactIsJournalSpec)

/-- 'laws.FnExactWritePage', WHERE WHAT IT READS IS OF BULK AT MOST 1048576: true; the input reads as it did. -/
def fnExactWritePageUptoRow : OpenClaim := { program := "ytlhbnkjijggfaaadoor", sum := "b7882c76ec97868396be282f0c5c24cd5728e92ab2b0e4d2cdccb6b0f786af52", func := "loop.example/g03008/laws.FnExactWritePage", spec := "fnExactWritePage", unfollowed := true, recurses := true, named := ["loop.example/g03008/impl.cover"], apart := false, laid := [("loop.example/g03008/impl.cover", laid_loop_example_g03008_impl_cover)], narrowed := true }
def FnExactWritePageUptoSaid : Prop := fnExactWritePageUptoRow.holds Tryd.pinned (OpenSpec.upto fnExactWritePageSpec)

/-- 'laws.FnExactCellOn', WHERE WHAT IT READS IS OF BULK AT MOST 1048576: true; the input reads as it did. -/
def fnExactCellOnUptoRow : OpenClaim := { program := "ytlhbnkjijggfaaadoor", sum := "b7882c76ec97868396be282f0c5c24cd5728e92ab2b0e4d2cdccb6b0f786af52", func := "loop.example/g03008/laws.FnExactCellOn", spec := "fnExactCellOn", unfollowed := true, recurses := true, named := ["loop.example/g03008/impl.cover"], apart := false, laid := [("loop.example/g03008/impl.cover", laid_loop_example_g03008_impl_cover)], narrowed := true }
def FnExactCellOnUptoSaid : Prop := fnExactCellOnUptoRow.holds Tryd.pinned (OpenSpec.upto fnExactCellOnSpec)

/-- 'laws.FnExactEatenBetween', WHERE WHAT IT READS IS OF BULK AT MOST 1048576: true; the input reads as it did. -/
def fnExactEatenBetweenUptoRow : OpenClaim := { program := "ytlhbnkjijggfaaadoor", sum := "b7882c76ec97868396be282f0c5c24cd5728e92ab2b0e4d2cdccb6b0f786af52", func := "loop.example/g03008/laws.FnExactEatenBetween", spec := "fnExactEatenBetween", unfollowed := true, recurses := true, named := ["loop.example/g03008/impl.cover"], apart := false, laid := [("loop.example/g03008/impl.cover", laid_loop_example_g03008_impl_cover)], narrowed := true }
def FnExactEatenBetweenUptoSaid : Prop := fnExactEatenBetweenUptoRow.holds Tryd.pinned (OpenSpec.upto fnExactEatenBetweenSpec)

/-- 'laws.FnExactLowestFood', WHERE WHAT IT READS IS OF BULK AT MOST 1048576: true; the input reads as it did. -/
def fnExactLowestFoodUptoRow : OpenClaim := { program := "ytlhbnkjijggfaaadoor", sum := "b7882c76ec97868396be282f0c5c24cd5728e92ab2b0e4d2cdccb6b0f786af52", func := "loop.example/g03008/laws.FnExactLowestFood", spec := "fnExactLowestFood", unfollowed := true, recurses := true, named := ["loop.example/g03008/impl.cover"], apart := false, laid := [("loop.example/g03008/impl.cover", laid_loop_example_g03008_impl_cover)], narrowed := true }
def FnExactLowestFoodUptoSaid : Prop := fnExactLowestFoodUptoRow.holds Tryd.pinned (OpenSpec.upto fnExactLowestFoodSpec)

/-- 'laws.FnExactFirstAt', WHERE WHAT IT READS IS OF BULK AT MOST 1048576: true; the input reads as it did. -/
def fnExactFirstAtUptoRow : OpenClaim := { program := "ytlhbnkjijggfaaadoor", sum := "b7882c76ec97868396be282f0c5c24cd5728e92ab2b0e4d2cdccb6b0f786af52", func := "loop.example/g03008/laws.FnExactFirstAt", spec := "fnExactFirstAt", unfollowed := true, recurses := true, named := ["loop.example/g03008/impl.cover"], apart := false, laid := [("loop.example/g03008/impl.cover", laid_loop_example_g03008_impl_cover)], narrowed := true }
def FnExactFirstAtUptoSaid : Prop := fnExactFirstAtUptoRow.holds Tryd.pinned (OpenSpec.upto fnExactFirstAtSpec)

/-- 'laws.FnExactNeedAt', WHERE WHAT IT READS IS OF BULK AT MOST 1048576: true; the input reads as it did. -/
def fnExactNeedAtUptoRow : OpenClaim := { program := "ytlhbnkjijggfaaadoor", sum := "b7882c76ec97868396be282f0c5c24cd5728e92ab2b0e4d2cdccb6b0f786af52", func := "loop.example/g03008/laws.FnExactNeedAt", spec := "fnExactNeedAt", unfollowed := true, recurses := true, named := ["loop.example/g03008/impl.rations"], apart := false, laid := [("loop.example/g03008/impl.rations", laid_loop_example_g03008_impl_rations)], narrowed := true }
def FnExactNeedAtUptoSaid : Prop := fnExactNeedAtUptoRow.holds Tryd.pinned (OpenSpec.upto fnExactNeedAtSpec)

/-- 'laws.FnExactLastsDays', WHERE WHAT IT READS IS OF BULK AT MOST 1048576: true; the input reads as it did. -/
def fnExactLastsDaysUptoRow : OpenClaim := { program := "ytlhbnkjijggfaaadoor", sum := "b7882c76ec97868396be282f0c5c24cd5728e92ab2b0e4d2cdccb6b0f786af52", func := "loop.example/g03008/laws.FnExactLastsDays", spec := "fnExactLastsDays", unfollowed := true, recurses := true, named := ["loop.example/g03008/impl.rations"], apart := false, laid := [("loop.example/g03008/impl.rations", laid_loop_example_g03008_impl_rations)], narrowed := true }
def FnExactLastsDaysUptoSaid : Prop := fnExactLastsDaysUptoRow.holds Tryd.pinned (OpenSpec.upto fnExactLastsDaysSpec)

/-- 'laws.FnExactLevelFor', WHERE WHAT IT READS IS OF BULK AT MOST 1048576: true; the input reads as it did. -/
def fnExactLevelForUptoRow : OpenClaim := { program := "ytlhbnkjijggfaaadoor", sum := "b7882c76ec97868396be282f0c5c24cd5728e92ab2b0e4d2cdccb6b0f786af52", func := "loop.example/g03008/laws.FnExactLevelFor", spec := "fnExactLevelFor", unfollowed := true, recurses := true, named := ["loop.example/g03008/impl.rations"], apart := false, laid := [("loop.example/g03008/impl.rations", laid_loop_example_g03008_impl_rations)], narrowed := true }
def FnExactLevelForUptoSaid : Prop := fnExactLevelForUptoRow.holds Tryd.pinned (OpenSpec.upto fnExactLevelForSpec)

/-- 'laws.FnExactMixedDays', WHERE WHAT IT READS IS OF BULK AT MOST 1048576: true; the input reads as it did. -/
def fnExactMixedDaysUptoRow : OpenClaim := { program := "ytlhbnkjijggfaaadoor", sum := "b7882c76ec97868396be282f0c5c24cd5728e92ab2b0e4d2cdccb6b0f786af52", func := "loop.example/g03008/laws.FnExactMixedDays", spec := "fnExactMixedDays", unfollowed := true, recurses := true, named := ["loop.example/g03008/impl.rations"], apart := false, laid := [("loop.example/g03008/impl.rations", laid_loop_example_g03008_impl_rations)], narrowed := true }
def FnExactMixedDaysUptoSaid : Prop := fnExactMixedDaysUptoRow.holds Tryd.pinned (OpenSpec.upto fnExactMixedDaysSpec)

/-- 'laws.FnExactLevelName', WHERE WHAT IT READS IS OF BULK AT MOST 1048576: true; the input reads as it did. -/
def fnExactLevelNameUptoRow : OpenClaim := { program := "ytlhbnkjijggfaaadoor", sum := "b7882c76ec97868396be282f0c5c24cd5728e92ab2b0e4d2cdccb6b0f786af52", func := "loop.example/g03008/laws.FnExactLevelName", spec := "fnExactLevelName", named := ["loop.example/g03008/impl.rations"], apart := false, laid := [("loop.example/g03008/impl.rations", laid_loop_example_g03008_impl_rations)], narrowed := true }
def FnExactLevelNameUptoSaid : Prop := fnExactLevelNameUptoRow.holds Tryd.pinned (OpenSpec.upto fnExactLevelNameSpec)

/-- 'laws.FnExactTentOf', WHERE WHAT IT READS IS OF BULK AT MOST 1048576: true; the input reads as it did. -/
def fnExactTentOfUptoRow : OpenClaim := { program := "ytlhbnkjijggfaaadoor", sum := "b7882c76ec97868396be282f0c5c24cd5728e92ab2b0e4d2cdccb6b0f786af52", func := "loop.example/g03008/laws.FnExactTentOf", spec := "fnExactTentOf", named := ["loop.example/g03008/impl.noBed"], apart := false, laid := [("loop.example/g03008/impl.noBed", laid_loop_example_g03008_impl_noBed)], narrowed := true }
def FnExactTentOfUptoSaid : Prop := fnExactTentOfUptoRow.holds Tryd.pinned (OpenSpec.upto fnExactTentOfSpec)

end Rows
end Go.Proofs.YtlhbnkjijggfaaaDoor

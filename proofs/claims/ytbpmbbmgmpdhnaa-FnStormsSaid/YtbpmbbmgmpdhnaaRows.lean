/-
  No cell of these rows narrows 'for every input' (looked for: loops, veiled, ifaces, maps, wideKeys, modest, calm, conditions, laid).
  DERIVED. THE GIVEN ROWS OF THIS SEAT. 13 by the template 'for every input the law returns true; each argument reads behind the call as it read before'; 0 by the template 'total and deterministic' (their statements: YtbpmbbmgmpdhnaaTotals.lean).
  GIVEN WITH THE SEED: the statements are not yours to turn. If you find one false, say at which input.
  Laid BY PROGRAM, IN A SANDBOX (cutbox-rows.mjs): the forced cells as the released guide's own fill.sh prints them over the translation 59cdb1505c10f3c6… (all of the seat's roots in one cut). By AI agents, Wed Nov 11 2026. No macro, syntax, notation, axiom, sorry.
-/
import Derived.Test.YtbpmbbmgmpdhnaaChecked
import GoSem.Claim
import GoSem.ClaimJoined
import GoSem.ClaimMapViews
import Derived.JoinedTies
import Derived.KernelRfl
namespace Go.Proofs.Ytbpmbbmgmpdhnaa
/- THE CELL 'sum', in the pinned program and in every row, IS THE sha256 OF THE DUMP (.gsa) THAT YtbpmbbmgmpdhnaaProg.lean LOADS. Nothing in Lean hashes anything: it is a label: what it is worth is what the hold of that sum in a sandbox is worth. -/
noncomputable def Try.pinned : Pinned := { name := "ytbpmbbmgmpdhnaa", sum := "59cdb1505c10f3c6895d80f561a622f9de4f171dd5496df13f40d4bb3c6bffe5", checked := Try.checked }
namespace Rows
def none {H : Type} : Left H := { results := [], args := [] }

/-- 'laws.FnVarints': WHATEVER THE INPUT: true; the input reads as it did. -/
def fnVarintsSpec : ChangeSpec := { name := "fnVarints", fn := fun _ => fun
  | [d] => { results := [.lit (.bool true)], args := [d] }
  | _ => none }
def fnVarintsRow : OpenClaim := { program := "ytbpmbbmgmpdhnaa", sum := "59cdb1505c10f3c6895d80f561a622f9de4f171dd5496df13f40d4bb3c6bffe5", func := "loop.example/g03008/laws.FnVarints", spec := "fnVarints", unfollowed := true, recurses := true, apart := false }
def FnVarintsSaid : Prop := fnVarintsRow.holds Try.pinned (OpenSpec.ofChange fnVarintsSpec)

/-- ITS FALSE NEIGHBOUR: 'it returns false'. Refute it at one input. -/
def fnVarintsWrong : ChangeSpec := { name := "fnVarints", fn := fun _ => fun
  | [d] => { results := [.lit (.bool false)], args := [d] }
  | _ => none }
def FnVarintsWrongFalsely : Prop := fnVarintsRow.holds Try.pinned (OpenSpec.ofChange fnVarintsWrong)

/-- 'laws.FnByteStrings': WHATEVER THE INPUT: true; the input reads as it did. -/
def fnByteStringsSpec : ChangeSpec := { name := "fnByteStrings", fn := fun _ => fun
  | [d] => { results := [.lit (.bool true)], args := [d] }
  | _ => none }
def fnByteStringsRow : OpenClaim := { program := "ytbpmbbmgmpdhnaa", sum := "59cdb1505c10f3c6895d80f561a622f9de4f171dd5496df13f40d4bb3c6bffe5", func := "loop.example/g03008/laws.FnByteStrings", spec := "fnByteStrings", unfollowed := true, recurses := true, apart := false }
def FnByteStringsSaid : Prop := fnByteStringsRow.holds Try.pinned (OpenSpec.ofChange fnByteStringsSpec)

/-- ITS FALSE NEIGHBOUR: 'it returns false'. Refute it at one input. -/
def fnByteStringsWrong : ChangeSpec := { name := "fnByteStrings", fn := fun _ => fun
  | [d] => { results := [.lit (.bool false)], args := [d] }
  | _ => none }
def FnByteStringsWrongFalsely : Prop := fnByteStringsRow.holds Try.pinned (OpenSpec.ofChange fnByteStringsWrong)

/-- 'laws.FnStorms': WHATEVER THE INPUT: true; the input reads as it did. -/
def fnStormsSpec : ChangeSpec := { name := "fnStorms", fn := fun _ => fun
  | [d] => { results := [.lit (.bool true)], args := [d] }
  | _ => none }
def fnStormsRow : OpenClaim := { program := "ytbpmbbmgmpdhnaa", sum := "59cdb1505c10f3c6895d80f561a622f9de4f171dd5496df13f40d4bb3c6bffe5", func := "loop.example/g03008/laws.FnStorms", spec := "fnStorms", unfollowed := true, recurses := true, apart := false }
def FnStormsSaid : Prop := fnStormsRow.holds Try.pinned (OpenSpec.ofChange fnStormsSpec)

/-- ITS FALSE NEIGHBOUR: 'it returns false'. Refute it at one input. -/
def fnStormsWrong : ChangeSpec := { name := "fnStorms", fn := fun _ => fun
  | [d] => { results := [.lit (.bool false)], args := [d] }
  | _ => none }
def FnStormsWrongFalsely : Prop := fnStormsRow.holds Try.pinned (OpenSpec.ofChange fnStormsWrong)

/-- 'laws.FnExactAppendUvarint': WHATEVER THE INPUT: true; the input reads as it did. -/
def fnExactAppendUvarintSpec : ChangeSpec := { name := "fnExactAppendUvarint", fn := fun _ => fun
  | [d1, d2] => { results := [.lit (.bool true)], args := [d1, d2] }
  | _ => none }
def fnExactAppendUvarintRow : OpenClaim := { program := "ytbpmbbmgmpdhnaa", sum := "59cdb1505c10f3c6895d80f561a622f9de4f171dd5496df13f40d4bb3c6bffe5", func := "loop.example/g03008/laws.FnExactAppendUvarint", spec := "fnExactAppendUvarint", apart := false }
def FnExactAppendUvarintSaid : Prop := fnExactAppendUvarintRow.holds Try.pinned (OpenSpec.ofChange fnExactAppendUvarintSpec)

/-- ITS FALSE NEIGHBOUR: 'it returns false'. Refute it at one input. -/
def fnExactAppendUvarintWrong : ChangeSpec := { name := "fnExactAppendUvarint", fn := fun _ => fun
  | [d1, d2] => { results := [.lit (.bool false)], args := [d1, d2] }
  | _ => none }
def FnExactAppendUvarintWrongFalsely : Prop := fnExactAppendUvarintRow.holds Try.pinned (OpenSpec.ofChange fnExactAppendUvarintWrong)

/-- 'laws.FnExactAppendBytes': WHATEVER THE INPUT: true; the input reads as it did. -/
def fnExactAppendBytesSpec : ChangeSpec := { name := "fnExactAppendBytes", fn := fun _ => fun
  | [d1, d2] => { results := [.lit (.bool true)], args := [d1, d2] }
  | _ => none }
def fnExactAppendBytesRow : OpenClaim := { program := "ytbpmbbmgmpdhnaa", sum := "59cdb1505c10f3c6895d80f561a622f9de4f171dd5496df13f40d4bb3c6bffe5", func := "loop.example/g03008/laws.FnExactAppendBytes", spec := "fnExactAppendBytes", apart := false }
def FnExactAppendBytesSaid : Prop := fnExactAppendBytesRow.holds Try.pinned (OpenSpec.ofChange fnExactAppendBytesSpec)

/-- ITS FALSE NEIGHBOUR: 'it returns false'. Refute it at one input. -/
def fnExactAppendBytesWrong : ChangeSpec := { name := "fnExactAppendBytes", fn := fun _ => fun
  | [d1, d2] => { results := [.lit (.bool false)], args := [d1, d2] }
  | _ => none }
def FnExactAppendBytesWrongFalsely : Prop := fnExactAppendBytesRow.holds Try.pinned (OpenSpec.ofChange fnExactAppendBytesWrong)

/-- 'laws.FnExactReadBytes': WHATEVER THE INPUT: true; the input reads as it did. -/
def fnExactReadBytesSpec : ChangeSpec := { name := "fnExactReadBytes", fn := fun _ => fun
  | [d1, d2, d3] => { results := [.lit (.bool true)], args := [d1, d2, d3] }
  | _ => none }
def fnExactReadBytesRow : OpenClaim := { program := "ytbpmbbmgmpdhnaa", sum := "59cdb1505c10f3c6895d80f561a622f9de4f171dd5496df13f40d4bb3c6bffe5", func := "loop.example/g03008/laws.FnExactReadBytes", spec := "fnExactReadBytes", unfollowed := true, recurses := true, apart := false }
def FnExactReadBytesSaid : Prop := fnExactReadBytesRow.holds Try.pinned (OpenSpec.ofChange fnExactReadBytesSpec)

/-- ITS FALSE NEIGHBOUR: 'it returns false'. Refute it at one input. -/
def fnExactReadBytesWrong : ChangeSpec := { name := "fnExactReadBytes", fn := fun _ => fun
  | [d1, d2, d3] => { results := [.lit (.bool false)], args := [d1, d2, d3] }
  | _ => none }
def FnExactReadBytesWrongFalsely : Prop := fnExactReadBytesRow.holds Try.pinned (OpenSpec.ofChange fnExactReadBytesWrong)

/-- 'laws.FnExactIsRule': WHATEVER THE INPUT: true; the input reads as it did. -/
def fnExactIsRuleSpec : ChangeSpec := { name := "fnExactIsRule", fn := fun _ => fun
  | [d] => { results := [.lit (.bool true)], args := [d] }
  | _ => none }
def fnExactIsRuleRow : OpenClaim := { program := "ytbpmbbmgmpdhnaa", sum := "59cdb1505c10f3c6895d80f561a622f9de4f171dd5496df13f40d4bb3c6bffe5", func := "loop.example/g03008/laws.FnExactIsRule", spec := "fnExactIsRule", apart := false }
def FnExactIsRuleSaid : Prop := fnExactIsRuleRow.holds Try.pinned (OpenSpec.ofChange fnExactIsRuleSpec)

/-- ITS FALSE NEIGHBOUR: 'it returns false'. Refute it at one input. -/
def fnExactIsRuleWrong : ChangeSpec := { name := "fnExactIsRule", fn := fun _ => fun
  | [d] => { results := [.lit (.bool false)], args := [d] }
  | _ => none }
def FnExactIsRuleWrongFalsely : Prop := fnExactIsRuleRow.holds Try.pinned (OpenSpec.ofChange fnExactIsRuleWrong)

/-- 'laws.FnExactKeeps': WHATEVER THE INPUT: true; the input reads as it did. -/
def fnExactKeepsSpec : ChangeSpec := { name := "fnExactKeeps", fn := fun _ => fun
  | [d1, d2] => { results := [.lit (.bool true)], args := [d1, d2] }
  | _ => none }
def fnExactKeepsRow : OpenClaim := { program := "ytbpmbbmgmpdhnaa", sum := "59cdb1505c10f3c6895d80f561a622f9de4f171dd5496df13f40d4bb3c6bffe5", func := "loop.example/g03008/laws.FnExactKeeps", spec := "fnExactKeeps", apart := false }
def FnExactKeepsSaid : Prop := fnExactKeepsRow.holds Try.pinned (OpenSpec.ofChange fnExactKeepsSpec)

/-- ITS FALSE NEIGHBOUR: 'it returns false'. Refute it at one input. -/
def fnExactKeepsWrong : ChangeSpec := { name := "fnExactKeeps", fn := fun _ => fun
  | [d1, d2] => { results := [.lit (.bool false)], args := [d1, d2] }
  | _ => none }
def FnExactKeepsWrongFalsely : Prop := fnExactKeepsRow.holds Try.pinned (OpenSpec.ofChange fnExactKeepsWrong)

/-- 'laws.FnExactMayStorm': WHATEVER THE INPUT: true; the input reads as it did. -/
def fnExactMayStormSpec : ChangeSpec := { name := "fnExactMayStorm", fn := fun _ => fun
  | [d1, d2] => { results := [.lit (.bool true)], args := [d1, d2] }
  | _ => none }
def fnExactMayStormRow : OpenClaim := { program := "ytbpmbbmgmpdhnaa", sum := "59cdb1505c10f3c6895d80f561a622f9de4f171dd5496df13f40d4bb3c6bffe5", func := "loop.example/g03008/laws.FnExactMayStorm", spec := "fnExactMayStorm", apart := false }
def FnExactMayStormSaid : Prop := fnExactMayStormRow.holds Try.pinned (OpenSpec.ofChange fnExactMayStormSpec)

/-- ITS FALSE NEIGHBOUR: 'it returns false'. Refute it at one input. -/
def fnExactMayStormWrong : ChangeSpec := { name := "fnExactMayStorm", fn := fun _ => fun
  | [d1, d2] => { results := [.lit (.bool false)], args := [d1, d2] }
  | _ => none }
def FnExactMayStormWrongFalsely : Prop := fnExactMayStormRow.holds Try.pinned (OpenSpec.ofChange fnExactMayStormWrong)

/-- 'laws.FnExactWorstDays': WHATEVER THE INPUT: true; the input reads as it did. -/
def fnExactWorstDaysSpec : ChangeSpec := { name := "fnExactWorstDays", fn := fun _ => fun
  | [d1, d2, d3] => { results := [.lit (.bool true)], args := [d1, d2, d3] }
  | _ => none }
def fnExactWorstDaysRow : OpenClaim := { program := "ytbpmbbmgmpdhnaa", sum := "59cdb1505c10f3c6895d80f561a622f9de4f171dd5496df13f40d4bb3c6bffe5", func := "loop.example/g03008/laws.FnExactWorstDays", spec := "fnExactWorstDays", unfollowed := true, recurses := true, apart := false }
def FnExactWorstDaysSaid : Prop := fnExactWorstDaysRow.holds Try.pinned (OpenSpec.ofChange fnExactWorstDaysSpec)

/-- ITS FALSE NEIGHBOUR: 'it returns false'. Refute it at one input. -/
def fnExactWorstDaysWrong : ChangeSpec := { name := "fnExactWorstDays", fn := fun _ => fun
  | [d1, d2, d3] => { results := [.lit (.bool false)], args := [d1, d2, d3] }
  | _ => none }
def FnExactWorstDaysWrongFalsely : Prop := fnExactWorstDaysRow.holds Try.pinned (OpenSpec.ofChange fnExactWorstDaysWrong)

/-- 'laws.FnExactAddDay': WHATEVER THE INPUT: true; the input reads as it did. -/
def fnExactAddDaySpec : ChangeSpec := { name := "fnExactAddDay", fn := fun _ => fun
  | [d1, d2] => { results := [.lit (.bool true)], args := [d1, d2] }
  | _ => none }
def fnExactAddDayRow : OpenClaim := { program := "ytbpmbbmgmpdhnaa", sum := "59cdb1505c10f3c6895d80f561a622f9de4f171dd5496df13f40d4bb3c6bffe5", func := "loop.example/g03008/laws.FnExactAddDay", spec := "fnExactAddDay", unfollowed := true, recurses := true, apart := false }
def FnExactAddDaySaid : Prop := fnExactAddDayRow.holds Try.pinned (OpenSpec.ofChange fnExactAddDaySpec)

/-- ITS FALSE NEIGHBOUR: 'it returns false'. Refute it at one input. -/
def fnExactAddDayWrong : ChangeSpec := { name := "fnExactAddDay", fn := fun _ => fun
  | [d1, d2] => { results := [.lit (.bool false)], args := [d1, d2] }
  | _ => none }
def FnExactAddDayWrongFalsely : Prop := fnExactAddDayRow.holds Try.pinned (OpenSpec.ofChange fnExactAddDayWrong)

/-- 'laws.FnExactCountStorms': WHATEVER THE INPUT: true; the input reads as it did. -/
def fnExactCountStormsSpec : ChangeSpec := { name := "fnExactCountStorms", fn := fun _ => fun
  | [d] => { results := [.lit (.bool true)], args := [d] }
  | _ => none }
def fnExactCountStormsRow : OpenClaim := { program := "ytbpmbbmgmpdhnaa", sum := "59cdb1505c10f3c6895d80f561a622f9de4f171dd5496df13f40d4bb3c6bffe5", func := "loop.example/g03008/laws.FnExactCountStorms", spec := "fnExactCountStorms", apart := false }
def FnExactCountStormsSaid : Prop := fnExactCountStormsRow.holds Try.pinned (OpenSpec.ofChange fnExactCountStormsSpec)

/-- ITS FALSE NEIGHBOUR: 'it returns false'. Refute it at one input. -/
def fnExactCountStormsWrong : ChangeSpec := { name := "fnExactCountStorms", fn := fun _ => fun
  | [d] => { results := [.lit (.bool false)], args := [d] }
  | _ => none }
def FnExactCountStormsWrongFalsely : Prop := fnExactCountStormsRow.holds Try.pinned (OpenSpec.ofChange fnExactCountStormsWrong)

/-- 'laws.FnExactCalmDays': WHATEVER THE INPUT: true; the input reads as it did. -/
def fnExactCalmDaysSpec : ChangeSpec := { name := "fnExactCalmDays", fn := fun _ => fun
  | [d] => { results := [.lit (.bool true)], args := [d] }
  | _ => none }
def fnExactCalmDaysRow : OpenClaim := { program := "ytbpmbbmgmpdhnaa", sum := "59cdb1505c10f3c6895d80f561a622f9de4f171dd5496df13f40d4bb3c6bffe5", func := "loop.example/g03008/laws.FnExactCalmDays", spec := "fnExactCalmDays", unfollowed := true, recurses := true, apart := false }
def FnExactCalmDaysSaid : Prop := fnExactCalmDaysRow.holds Try.pinned (OpenSpec.ofChange fnExactCalmDaysSpec)

/-- ITS FALSE NEIGHBOUR: 'it returns false'. Refute it at one input. -/
def fnExactCalmDaysWrong : ChangeSpec := { name := "fnExactCalmDays", fn := fun _ => fun
  | [d] => { results := [.lit (.bool false)], args := [d] }
  | _ => none }
def FnExactCalmDaysWrongFalsely : Prop := fnExactCalmDaysRow.holds Try.pinned (OpenSpec.ofChange fnExactCalmDaysWrong)

/- THE SECOND FORM. 'bulk': how many values and letters a reading holds, each counted each time it is reached (what is shared counts as often as it is met; a slice's spare places count too). A statement '..UptoSaid' is the law's where the arguments, and the package variables that the reading takes, are together of bulk at most 1048576: NARROWER than '..Said'. Prove '..Said' where nothing that the law and all that it calls make is longer than what came in: it says more and counts as full. Else prove '..UptoSaid'. A law counts once. -/
mutual
def uptoBulk {H : Type} : DataW H → Nat
  | .lit (.string bytes) => bytes.length + 1
  | .lit _ => 1
  | .nil => 1
  | .ptr d => uptoBulk d + 1
  | .slice elems spare => uptoBulkAll elems + uptoBulkAll spare + 1
  | .agg parts => uptoBulkAll parts + 1
  | .iface _ d => uptoBulk d + 1
  | .map entries => uptoBulkEntries entries + 1
  | .held _ => 1
def uptoBulkAll {H : Type} : List (DataW H) → Nat
  | [] => 0
  | d :: r => uptoBulk d + uptoBulkAll r
def uptoBulkEntries {H : Type} : List (Lit × DataW H) → Nat
  | [] => 0
  | x :: r => uptoBulkEntry x + uptoBulkEntries r
def uptoBulkEntry {H : Type} : Lit × DataW H → Nat
  | (.string bytes, d) => bytes.length + uptoBulk d + 1
  | (_, d) => uptoBulk d + 1
 end
def uptoSmall : (H : Type) → List (DataW H) → Bool := fun _ ds => decide (uptoBulkAll ds ≤ 1048576)
def OpenSpec.upto (s : _root_.Go.ChangeSpec) : _root_.Go.OpenSpec := { _root_.Go.OpenSpec.ofChange s with cond := some uptoSmall }

/-- 'laws.FnVarints', WHERE WHAT IT READS IS OF BULK AT MOST 1048576: true; the input reads as it did. -/
def fnVarintsUptoRow : OpenClaim := { program := "ytbpmbbmgmpdhnaa", sum := "59cdb1505c10f3c6895d80f561a622f9de4f171dd5496df13f40d4bb3c6bffe5", func := "loop.example/g03008/laws.FnVarints", spec := "fnVarints", unfollowed := true, recurses := true, apart := false, narrowed := true }
def FnVarintsUptoSaid : Prop := fnVarintsUptoRow.holds Try.pinned (OpenSpec.upto fnVarintsSpec)

/-- 'laws.FnByteStrings', WHERE WHAT IT READS IS OF BULK AT MOST 1048576: true; the input reads as it did. -/
def fnByteStringsUptoRow : OpenClaim := { program := "ytbpmbbmgmpdhnaa", sum := "59cdb1505c10f3c6895d80f561a622f9de4f171dd5496df13f40d4bb3c6bffe5", func := "loop.example/g03008/laws.FnByteStrings", spec := "fnByteStrings", unfollowed := true, recurses := true, apart := false, narrowed := true }
def FnByteStringsUptoSaid : Prop := fnByteStringsUptoRow.holds Try.pinned (OpenSpec.upto fnByteStringsSpec)

/-- 'laws.FnStorms', WHERE WHAT IT READS IS OF BULK AT MOST 1048576: true; the input reads as it did. -/
def fnStormsUptoRow : OpenClaim := { program := "ytbpmbbmgmpdhnaa", sum := "59cdb1505c10f3c6895d80f561a622f9de4f171dd5496df13f40d4bb3c6bffe5", func := "loop.example/g03008/laws.FnStorms", spec := "fnStorms", unfollowed := true, recurses := true, apart := false, narrowed := true }
def FnStormsUptoSaid : Prop := fnStormsUptoRow.holds Try.pinned (OpenSpec.upto fnStormsSpec)

/-- 'laws.FnExactAppendUvarint', WHERE WHAT IT READS IS OF BULK AT MOST 1048576: true; the input reads as it did. -/
def fnExactAppendUvarintUptoRow : OpenClaim := { program := "ytbpmbbmgmpdhnaa", sum := "59cdb1505c10f3c6895d80f561a622f9de4f171dd5496df13f40d4bb3c6bffe5", func := "loop.example/g03008/laws.FnExactAppendUvarint", spec := "fnExactAppendUvarint", apart := false, narrowed := true }
def FnExactAppendUvarintUptoSaid : Prop := fnExactAppendUvarintUptoRow.holds Try.pinned (OpenSpec.upto fnExactAppendUvarintSpec)

/-- 'laws.FnExactAppendBytes', WHERE WHAT IT READS IS OF BULK AT MOST 1048576: true; the input reads as it did. -/
def fnExactAppendBytesUptoRow : OpenClaim := { program := "ytbpmbbmgmpdhnaa", sum := "59cdb1505c10f3c6895d80f561a622f9de4f171dd5496df13f40d4bb3c6bffe5", func := "loop.example/g03008/laws.FnExactAppendBytes", spec := "fnExactAppendBytes", apart := false, narrowed := true }
def FnExactAppendBytesUptoSaid : Prop := fnExactAppendBytesUptoRow.holds Try.pinned (OpenSpec.upto fnExactAppendBytesSpec)

/-- 'laws.FnExactReadBytes', WHERE WHAT IT READS IS OF BULK AT MOST 1048576: true; the input reads as it did. -/
def fnExactReadBytesUptoRow : OpenClaim := { program := "ytbpmbbmgmpdhnaa", sum := "59cdb1505c10f3c6895d80f561a622f9de4f171dd5496df13f40d4bb3c6bffe5", func := "loop.example/g03008/laws.FnExactReadBytes", spec := "fnExactReadBytes", unfollowed := true, recurses := true, apart := false, narrowed := true }
def FnExactReadBytesUptoSaid : Prop := fnExactReadBytesUptoRow.holds Try.pinned (OpenSpec.upto fnExactReadBytesSpec)

/-- 'laws.FnExactIsRule', WHERE WHAT IT READS IS OF BULK AT MOST 1048576: true; the input reads as it did. -/
def fnExactIsRuleUptoRow : OpenClaim := { program := "ytbpmbbmgmpdhnaa", sum := "59cdb1505c10f3c6895d80f561a622f9de4f171dd5496df13f40d4bb3c6bffe5", func := "loop.example/g03008/laws.FnExactIsRule", spec := "fnExactIsRule", apart := false, narrowed := true }
def FnExactIsRuleUptoSaid : Prop := fnExactIsRuleUptoRow.holds Try.pinned (OpenSpec.upto fnExactIsRuleSpec)

/-- 'laws.FnExactKeeps', WHERE WHAT IT READS IS OF BULK AT MOST 1048576: true; the input reads as it did. -/
def fnExactKeepsUptoRow : OpenClaim := { program := "ytbpmbbmgmpdhnaa", sum := "59cdb1505c10f3c6895d80f561a622f9de4f171dd5496df13f40d4bb3c6bffe5", func := "loop.example/g03008/laws.FnExactKeeps", spec := "fnExactKeeps", apart := false, narrowed := true }
def FnExactKeepsUptoSaid : Prop := fnExactKeepsUptoRow.holds Try.pinned (OpenSpec.upto fnExactKeepsSpec)

/-- 'laws.FnExactMayStorm', WHERE WHAT IT READS IS OF BULK AT MOST 1048576: true; the input reads as it did. -/
def fnExactMayStormUptoRow : OpenClaim := { program := "ytbpmbbmgmpdhnaa", sum := "59cdb1505c10f3c6895d80f561a622f9de4f171dd5496df13f40d4bb3c6bffe5", func := "loop.example/g03008/laws.FnExactMayStorm", spec := "fnExactMayStorm", apart := false, narrowed := true }
def FnExactMayStormUptoSaid : Prop := fnExactMayStormUptoRow.holds Try.pinned (OpenSpec.upto fnExactMayStormSpec)

/-- 'laws.FnExactWorstDays', WHERE WHAT IT READS IS OF BULK AT MOST 1048576: true; the input reads as it did. -/
def fnExactWorstDaysUptoRow : OpenClaim := { program := "ytbpmbbmgmpdhnaa", sum := "59cdb1505c10f3c6895d80f561a622f9de4f171dd5496df13f40d4bb3c6bffe5", func := "loop.example/g03008/laws.FnExactWorstDays", spec := "fnExactWorstDays", unfollowed := true, recurses := true, apart := false, narrowed := true }
def FnExactWorstDaysUptoSaid : Prop := fnExactWorstDaysUptoRow.holds Try.pinned (OpenSpec.upto fnExactWorstDaysSpec)

/-- 'laws.FnExactAddDay', WHERE WHAT IT READS IS OF BULK AT MOST 1048576: true; the input reads as it did. -/
def fnExactAddDayUptoRow : OpenClaim := { program := "ytbpmbbmgmpdhnaa", sum := "59cdb1505c10f3c6895d80f561a622f9de4f171dd5496df13f40d4bb3c6bffe5", func := "loop.example/g03008/laws.FnExactAddDay", spec := "fnExactAddDay", unfollowed := true, recurses := true, apart := false, narrowed := true }
def FnExactAddDayUptoSaid : Prop := fnExactAddDayUptoRow.holds Try.pinned (OpenSpec.upto fnExactAddDaySpec)

/-- 'laws.FnExactCountStorms', WHERE WHAT IT READS IS OF BULK AT MOST 1048576: true; the input reads as it did. -/
def fnExactCountStormsUptoRow : OpenClaim := { program := "ytbpmbbmgmpdhnaa", sum := "59cdb1505c10f3c6895d80f561a622f9de4f171dd5496df13f40d4bb3c6bffe5", func := "loop.example/g03008/laws.FnExactCountStorms", spec := "fnExactCountStorms", apart := false, narrowed := true }
def FnExactCountStormsUptoSaid : Prop := fnExactCountStormsUptoRow.holds Try.pinned (OpenSpec.upto fnExactCountStormsSpec)

/-- 'laws.FnExactCalmDays', WHERE WHAT IT READS IS OF BULK AT MOST 1048576: true; the input reads as it did. -/
def fnExactCalmDaysUptoRow : OpenClaim := { program := "ytbpmbbmgmpdhnaa", sum := "59cdb1505c10f3c6895d80f561a622f9de4f171dd5496df13f40d4bb3c6bffe5", func := "loop.example/g03008/laws.FnExactCalmDays", spec := "fnExactCalmDays", unfollowed := true, recurses := true, apart := false, narrowed := true }
def FnExactCalmDaysUptoSaid : Prop := fnExactCalmDaysUptoRow.holds Try.pinned (OpenSpec.upto fnExactCalmDaysSpec)

end Rows
end Go.Proofs.Ytbpmbbmgmpdhnaa

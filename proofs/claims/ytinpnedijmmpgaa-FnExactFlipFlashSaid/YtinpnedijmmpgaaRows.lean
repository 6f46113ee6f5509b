/-
  No cell of these rows narrows 'for every input' (looked for: loops, veiled, ifaces, maps, wideKeys, modest, calm, conditions, laid).
  DERIVED. THE GIVEN ROWS OF THIS SEAT. 12 by the template 'for every input the law returns true; each argument reads behind the call as it read before'; 0 by the template 'total and deterministic' (their statements: YtinpnedijmmpgaaTotals.lean).
  GIVEN WITH THE SEED: the statements are not yours to turn. If you find one false, say at which input.
  Laid BY PROGRAM, IN A SANDBOX (cutbox-rows.mjs): the forced cells as the released guide's own fill.sh prints them over the translation 080d2b2a60afb18d… (all of the seat's roots in one cut). By AI agents, Wed Nov 11 2026. No macro, syntax, notation, axiom, sorry.
-/
import Derived.Test.YtinpnedijmmpgaaChecked
import GoSem.Claim
import GoSem.ClaimJoined
import GoSem.ClaimMapViews
import Derived.JoinedTies
import Derived.KernelRfl
namespace Go.Proofs.Ytinpnedijmmpgaa
/- THE CELL 'sum', in the pinned program and in every row, IS THE sha256 OF THE DUMP (.gsa) THAT YtinpnedijmmpgaaProg.lean LOADS. Nothing in Lean hashes anything: it is a label: what it is worth is what the hold of that sum in a sandbox is worth. -/
noncomputable def Try.pinned : Pinned := { name := "ytinpnedijmmpgaa", sum := "080d2b2a60afb18d85a706bad9c422c50948adca148320b09166dad2d903b2e5", checked := Try.checked }
namespace Rows
def none {H : Type} : Left H := { results := [], args := [] }

/-- 'laws.FnExactAreStocks': WHATEVER THE INPUT: true; the input reads as it did. -/
def fnExactAreStocksSpec : ChangeSpec := { name := "fnExactAreStocks", fn := fun _ => fun
  | [d] => { results := [.lit (.bool true)], args := [d] }
  | _ => none }
def fnExactAreStocksRow : OpenClaim := { program := "ytinpnedijmmpgaa", sum := "080d2b2a60afb18d85a706bad9c422c50948adca148320b09166dad2d903b2e5", func := "loop.example/g03008/laws.FnExactAreStocks", spec := "fnExactAreStocks", apart := false }
def FnExactAreStocksSaid : Prop := fnExactAreStocksRow.holds Try.pinned (OpenSpec.ofChange fnExactAreStocksSpec)

/-- ITS FALSE NEIGHBOUR: 'it returns false'. Refute it at one input. -/
def fnExactAreStocksWrong : ChangeSpec := { name := "fnExactAreStocks", fn := fun _ => fun
  | [d] => { results := [.lit (.bool false)], args := [d] }
  | _ => none }
def FnExactAreStocksWrongFalsely : Prop := fnExactAreStocksRow.holds Try.pinned (OpenSpec.ofChange fnExactAreStocksWrong)

/-- 'laws.FnExactHasIn': WHATEVER THE INPUT: true; the input reads as it did. -/
def fnExactHasInSpec : ChangeSpec := { name := "fnExactHasIn", fn := fun _ => fun
  | [d1, d2] => { results := [.lit (.bool true)], args := [d1, d2] }
  | _ => none }
def fnExactHasInRow : OpenClaim := { program := "ytinpnedijmmpgaa", sum := "080d2b2a60afb18d85a706bad9c422c50948adca148320b09166dad2d903b2e5", func := "loop.example/g03008/laws.FnExactHasIn", spec := "fnExactHasIn", unfollowed := true, recurses := true, apart := false }
def FnExactHasInSaid : Prop := fnExactHasInRow.holds Try.pinned (OpenSpec.ofChange fnExactHasInSpec)

/-- ITS FALSE NEIGHBOUR: 'it returns false'. Refute it at one input. -/
def fnExactHasInWrong : ChangeSpec := { name := "fnExactHasIn", fn := fun _ => fun
  | [d1, d2] => { results := [.lit (.bool false)], args := [d1, d2] }
  | _ => none }
def FnExactHasInWrongFalsely : Prop := fnExactHasInRow.holds Try.pinned (OpenSpec.ofChange fnExactHasInWrong)

/-- 'laws.FnExactLend': WHATEVER THE INPUT: true; the input reads as it did. -/
def fnExactLendSpec : ChangeSpec := { name := "fnExactLend", fn := fun _ => fun
  | [d1, d2, d3] => { results := [.lit (.bool true)], args := [d1, d2, d3] }
  | _ => none }
def fnExactLendRow : OpenClaim := { program := "ytinpnedijmmpgaa", sum := "080d2b2a60afb18d85a706bad9c422c50948adca148320b09166dad2d903b2e5", func := "loop.example/g03008/laws.FnExactLend", spec := "fnExactLend", unfollowed := true, recurses := true, apart := false }
def FnExactLendSaid : Prop := fnExactLendRow.holds Try.pinned (OpenSpec.ofChange fnExactLendSpec)

/-- ITS FALSE NEIGHBOUR: 'it returns false'. Refute it at one input. -/
def fnExactLendWrong : ChangeSpec := { name := "fnExactLend", fn := fun _ => fun
  | [d1, d2, d3] => { results := [.lit (.bool false)], args := [d1, d2, d3] }
  | _ => none }
def FnExactLendWrongFalsely : Prop := fnExactLendRow.holds Try.pinned (OpenSpec.ofChange fnExactLendWrong)

/-- 'laws.FnExactGiveBack': WHATEVER THE INPUT: true; the input reads as it did. -/
def fnExactGiveBackSpec : ChangeSpec := { name := "fnExactGiveBack", fn := fun _ => fun
  | [d1, d2, d3] => { results := [.lit (.bool true)], args := [d1, d2, d3] }
  | _ => none }
def fnExactGiveBackRow : OpenClaim := { program := "ytinpnedijmmpgaa", sum := "080d2b2a60afb18d85a706bad9c422c50948adca148320b09166dad2d903b2e5", func := "loop.example/g03008/laws.FnExactGiveBack", spec := "fnExactGiveBack", unfollowed := true, recurses := true, apart := false }
def FnExactGiveBackSaid : Prop := fnExactGiveBackRow.holds Try.pinned (OpenSpec.ofChange fnExactGiveBackSpec)

/-- ITS FALSE NEIGHBOUR: 'it returns false'. Refute it at one input. -/
def fnExactGiveBackWrong : ChangeSpec := { name := "fnExactGiveBack", fn := fun _ => fun
  | [d1, d2, d3] => { results := [.lit (.bool false)], args := [d1, d2, d3] }
  | _ => none }
def FnExactGiveBackWrongFalsely : Prop := fnExactGiveBackRow.holds Try.pinned (OpenSpec.ofChange fnExactGiveBackWrong)

/-- 'laws.FnExactLose': WHATEVER THE INPUT: true; the input reads as it did. -/
def fnExactLoseSpec : ChangeSpec := { name := "fnExactLose", fn := fun _ => fun
  | [d1, d2, d3] => { results := [.lit (.bool true)], args := [d1, d2, d3] }
  | _ => none }
def fnExactLoseRow : OpenClaim := { program := "ytinpnedijmmpgaa", sum := "080d2b2a60afb18d85a706bad9c422c50948adca148320b09166dad2d903b2e5", func := "loop.example/g03008/laws.FnExactLose", spec := "fnExactLose", unfollowed := true, recurses := true, apart := false }
def FnExactLoseSaid : Prop := fnExactLoseRow.holds Try.pinned (OpenSpec.ofChange fnExactLoseSpec)

/-- ITS FALSE NEIGHBOUR: 'it returns false'. Refute it at one input. -/
def fnExactLoseWrong : ChangeSpec := { name := "fnExactLose", fn := fun _ => fun
  | [d1, d2, d3] => { results := [.lit (.bool false)], args := [d1, d2, d3] }
  | _ => none }
def FnExactLoseWrongFalsely : Prop := fnExactLoseRow.holds Try.pinned (OpenSpec.ofChange fnExactLoseWrong)

/-- 'laws.FnExactAllOut': WHATEVER THE INPUT: true; the input reads as it did. -/
def fnExactAllOutSpec : ChangeSpec := { name := "fnExactAllOut", fn := fun _ => fun
  | [d] => { results := [.lit (.bool true)], args := [d] }
  | _ => none }
def fnExactAllOutRow : OpenClaim := { program := "ytinpnedijmmpgaa", sum := "080d2b2a60afb18d85a706bad9c422c50948adca148320b09166dad2d903b2e5", func := "loop.example/g03008/laws.FnExactAllOut", spec := "fnExactAllOut", apart := false }
def FnExactAllOutSaid : Prop := fnExactAllOutRow.holds Try.pinned (OpenSpec.ofChange fnExactAllOutSpec)

/-- ITS FALSE NEIGHBOUR: 'it returns false'. Refute it at one input. -/
def fnExactAllOutWrong : ChangeSpec := { name := "fnExactAllOut", fn := fun _ => fun
  | [d] => { results := [.lit (.bool false)], args := [d] }
  | _ => none }
def FnExactAllOutWrongFalsely : Prop := fnExactAllOutRow.holds Try.pinned (OpenSpec.ofChange fnExactAllOutWrong)

/-- 'laws.FnExactCountLong': WHATEVER THE INPUT: true; the input reads as it did. -/
def fnExactCountLongSpec : ChangeSpec := { name := "fnExactCountLong", fn := fun _ => fun
  | [d] => { results := [.lit (.bool true)], args := [d] }
  | _ => none }
def fnExactCountLongRow : OpenClaim := { program := "ytinpnedijmmpgaa", sum := "080d2b2a60afb18d85a706bad9c422c50948adca148320b09166dad2d903b2e5", func := "loop.example/g03008/laws.FnExactCountLong", spec := "fnExactCountLong", apart := false }
def FnExactCountLongSaid : Prop := fnExactCountLongRow.holds Try.pinned (OpenSpec.ofChange fnExactCountLongSpec)

/-- ITS FALSE NEIGHBOUR: 'it returns false'. Refute it at one input. -/
def fnExactCountLongWrong : ChangeSpec := { name := "fnExactCountLong", fn := fun _ => fun
  | [d] => { results := [.lit (.bool false)], args := [d] }
  | _ => none }
def FnExactCountLongWrongFalsely : Prop := fnExactCountLongRow.holds Try.pinned (OpenSpec.ofChange fnExactCountLongWrong)

/-- 'laws.FnExactFlipFlash': WHATEVER THE INPUT: true; the input reads as it did. -/
def fnExactFlipFlashSpec : ChangeSpec := { name := "fnExactFlipFlash", fn := fun _ => fun
  | [d1, d2] => { results := [.lit (.bool true)], args := [d1, d2] }
  | _ => none }
def fnExactFlipFlashRow : OpenClaim := { program := "ytinpnedijmmpgaa", sum := "080d2b2a60afb18d85a706bad9c422c50948adca148320b09166dad2d903b2e5", func := "loop.example/g03008/laws.FnExactFlipFlash", spec := "fnExactFlipFlash", apart := false }
def FnExactFlipFlashSaid : Prop := fnExactFlipFlashRow.holds Try.pinned (OpenSpec.ofChange fnExactFlipFlashSpec)

/-- ITS FALSE NEIGHBOUR: 'it returns false'. Refute it at one input. -/
def fnExactFlipFlashWrong : ChangeSpec := { name := "fnExactFlipFlash", fn := fun _ => fun
  | [d1, d2] => { results := [.lit (.bool false)], args := [d1, d2] }
  | _ => none }
def FnExactFlipFlashWrongFalsely : Prop := fnExactFlipFlashRow.holds Try.pinned (OpenSpec.ofChange fnExactFlipFlashWrong)

/-- 'laws.FnExactSignTime': WHATEVER THE INPUT: true; the input reads as it did. -/
def fnExactSignTimeSpec : ChangeSpec := { name := "fnExactSignTime", fn := fun _ => fun
  | [d] => { results := [.lit (.bool true)], args := [d] }
  | _ => none }
def fnExactSignTimeRow : OpenClaim := { program := "ytinpnedijmmpgaa", sum := "080d2b2a60afb18d85a706bad9c422c50948adca148320b09166dad2d903b2e5", func := "loop.example/g03008/laws.FnExactSignTime", spec := "fnExactSignTime", unfollowed := true, recurses := true, apart := false }
def FnExactSignTimeSaid : Prop := fnExactSignTimeRow.holds Try.pinned (OpenSpec.ofChange fnExactSignTimeSpec)

/-- ITS FALSE NEIGHBOUR: 'it returns false'. Refute it at one input. -/
def fnExactSignTimeWrong : ChangeSpec := { name := "fnExactSignTime", fn := fun _ => fun
  | [d] => { results := [.lit (.bool false)], args := [d] }
  | _ => none }
def FnExactSignTimeWrongFalsely : Prop := fnExactSignTimeRow.holds Try.pinned (OpenSpec.ofChange fnExactSignTimeWrong)

/-- 'laws.FnExactSumOf': WHATEVER THE INPUT: true; the input reads as it did. -/
def fnExactSumOfSpec : ChangeSpec := { name := "fnExactSumOf", fn := fun _ => fun
  | [d] => { results := [.lit (.bool true)], args := [d] }
  | _ => none }
def fnExactSumOfRow : OpenClaim := { program := "ytinpnedijmmpgaa", sum := "080d2b2a60afb18d85a706bad9c422c50948adca148320b09166dad2d903b2e5", func := "loop.example/g03008/laws.FnExactSumOf", spec := "fnExactSumOf", unfollowed := true, recurses := true, apart := false }
def FnExactSumOfSaid : Prop := fnExactSumOfRow.holds Try.pinned (OpenSpec.ofChange fnExactSumOfSpec)

/-- ITS FALSE NEIGHBOUR: 'it returns false'. Refute it at one input. -/
def fnExactSumOfWrong : ChangeSpec := { name := "fnExactSumOf", fn := fun _ => fun
  | [d] => { results := [.lit (.bool false)], args := [d] }
  | _ => none }
def FnExactSumOfWrongFalsely : Prop := fnExactSumOfRow.holds Try.pinned (OpenSpec.ofChange fnExactSumOfWrong)

/-- 'laws.FnExactSumAt': WHATEVER THE INPUT: true; the input reads as it did. -/
def fnExactSumAtSpec : ChangeSpec := { name := "fnExactSumAt", fn := fun _ => fun
  | [d1, d2] => { results := [.lit (.bool true)], args := [d1, d2] }
  | _ => none }
def fnExactSumAtRow : OpenClaim := { program := "ytinpnedijmmpgaa", sum := "080d2b2a60afb18d85a706bad9c422c50948adca148320b09166dad2d903b2e5", func := "loop.example/g03008/laws.FnExactSumAt", spec := "fnExactSumAt", apart := false }
def FnExactSumAtSaid : Prop := fnExactSumAtRow.holds Try.pinned (OpenSpec.ofChange fnExactSumAtSpec)

/-- ITS FALSE NEIGHBOUR: 'it returns false'. Refute it at one input. -/
def fnExactSumAtWrong : ChangeSpec := { name := "fnExactSumAt", fn := fun _ => fun
  | [d1, d2] => { results := [.lit (.bool false)], args := [d1, d2] }
  | _ => none }
def FnExactSumAtWrongFalsely : Prop := fnExactSumAtRow.holds Try.pinned (OpenSpec.ofChange fnExactSumAtWrong)

/-- 'laws.FnExactSplitGap': WHATEVER THE INPUT: true; the input reads as it did. -/
def fnExactSplitGapSpec : ChangeSpec := { name := "fnExactSplitGap", fn := fun _ => fun
  | [d1, d2] => { results := [.lit (.bool true)], args := [d1, d2] }
  | _ => none }
def fnExactSplitGapRow : OpenClaim := { program := "ytinpnedijmmpgaa", sum := "080d2b2a60afb18d85a706bad9c422c50948adca148320b09166dad2d903b2e5", func := "loop.example/g03008/laws.FnExactSplitGap", spec := "fnExactSplitGap", apart := false }
def FnExactSplitGapSaid : Prop := fnExactSplitGapRow.holds Try.pinned (OpenSpec.ofChange fnExactSplitGapSpec)

/-- ITS FALSE NEIGHBOUR: 'it returns false'. Refute it at one input. -/
def fnExactSplitGapWrong : ChangeSpec := { name := "fnExactSplitGap", fn := fun _ => fun
  | [d1, d2] => { results := [.lit (.bool false)], args := [d1, d2] }
  | _ => none }
def FnExactSplitGapWrongFalsely : Prop := fnExactSplitGapRow.holds Try.pinned (OpenSpec.ofChange fnExactSplitGapWrong)

/- THE SECOND FORM. 'bulk': how many values and letters a reading holds, each counted each time it is reached (what is shared counts as often as it is met; a slice's spare places count too). A statement '..UptoSaid' is the law's where the arguments, and the package variables that the reading takes, are together of bulk at most 1048576: NARROWER than '..Said'. Prove '..Said' where nothing that the law and all that it calls make is longer than what came in: it says more and counts as full. Else prove '..UptoSaid'. A law counts once. -/
mutual
def uptoBulk {H : Type} : DataW H → Nat
  | .lit (.string bytes) => bytes.length + 1
  | .lit _ => 1
  | .nil => 1
  | .ptr d => uptoBulk d + 1
  | .slice elems spare => uptoBulkAll elems + uptoBulkAll spare + 1
  | .agg parts => uptoBulkAll parts + 1
  | .iface _ d => uptoBulk d + 1
  | .map entries => uptoBulkEntries entries + 1
  | .held _ => 1
def uptoBulkAll {H : Type} : List (DataW H) → Nat
  | [] => 0
  | d :: r => uptoBulk d + uptoBulkAll r
def uptoBulkEntries {H : Type} : List (Lit × DataW H) → Nat
  | [] => 0
  | x :: r => uptoBulkEntry x + uptoBulkEntries r
def uptoBulkEntry {H : Type} : Lit × DataW H → Nat
  | (.string bytes, d) => bytes.length + uptoBulk d + 1
  | (_, d) => uptoBulk d + 1
 end
def uptoSmall : (H : Type) → List (DataW H) → Bool := fun _ ds => decide (uptoBulkAll ds ≤ 1048576)
def OpenSpec.upto (s : _root_.Go.ChangeSpec) : _root_.Go.OpenSpec := { _root_.Go.OpenSpec.ofChange s with cond := some uptoSmall }

/-- 'laws.FnExactAreStocks', WHERE WHAT IT READS IS OF BULK AT MOST 1048576: true; the input reads as it did. -/
def fnExactAreStocksUptoRow : OpenClaim := { program := "ytinpnedijmmpgaa", sum := "080d2b2a60afb18d85a706bad9c422c50948adca148320b09166dad2d903b2e5", func := "loop.example/g03008/laws.FnExactAreStocks", spec := "fnExactAreStocks", apart := false, narrowed := true }
def FnExactAreStocksUptoSaid : Prop := fnExactAreStocksUptoRow.holds Try.pinned (OpenSpec.upto fnExactAreStocksSpec)

/-- 'laws.FnExactHasIn', WHERE WHAT IT READS IS OF BULK AT MOST 1048576: true; the input reads as it did. -/
def fnExactHasInUptoRow : OpenClaim := { program := "ytinpnedijmmpgaa", sum := "080d2b2a60afb18d85a706bad9c422c50948adca148320b09166dad2d903b2e5", func := "loop.example/g03008/laws.FnExactHasIn", spec := "fnExactHasIn", unfollowed := true, recurses := true, apart := false, narrowed := true }
def FnExactHasInUptoSaid : Prop := fnExactHasInUptoRow.holds Try.pinned (OpenSpec.upto fnExactHasInSpec)

/-- 'laws.FnExactLend', WHERE WHAT IT READS IS OF BULK AT MOST 1048576: true; the input reads as it did. -/
def fnExactLendUptoRow : OpenClaim := { program := "ytinpnedijmmpgaa", sum := "080d2b2a60afb18d85a706bad9c422c50948adca148320b09166dad2d903b2e5", func := "loop.example/g03008/laws.FnExactLend", spec := "fnExactLend", unfollowed := true, recurses := true, apart := false, narrowed := true }
def FnExactLendUptoSaid : Prop := fnExactLendUptoRow.holds Try.pinned (OpenSpec.upto fnExactLendSpec)

/-- 'laws.FnExactGiveBack', WHERE WHAT IT READS IS OF BULK AT MOST 1048576: true; the input reads as it did. -/
def fnExactGiveBackUptoRow : OpenClaim := { program := "ytinpnedijmmpgaa", sum := "080d2b2a60afb18d85a706bad9c422c50948adca148320b09166dad2d903b2e5", func := "loop.example/g03008/laws.FnExactGiveBack", spec := "fnExactGiveBack", unfollowed := true, recurses := true, apart := false, narrowed := true }
def FnExactGiveBackUptoSaid : Prop := fnExactGiveBackUptoRow.holds Try.pinned (OpenSpec.upto fnExactGiveBackSpec)

/-- 'laws.FnExactLose', WHERE WHAT IT READS IS OF BULK AT MOST 1048576: true; the input reads as it did. -/
def fnExactLoseUptoRow : OpenClaim := { program := "ytinpnedijmmpgaa", sum := "080d2b2a60afb18d85a706bad9c422c50948adca148320b09166dad2d903b2e5", func := "loop.example/g03008/laws.FnExactLose", spec := "fnExactLose", unfollowed := true, recurses := true, apart := false, narrowed := true }
def FnExactLoseUptoSaid : Prop := fnExactLoseUptoRow.holds Try.pinned (OpenSpec.upto fnExactLoseSpec)

/-- 'laws.FnExactAllOut', WHERE WHAT IT READS IS OF BULK AT MOST 1048576: true; the input reads as it did. -/
def fnExactAllOutUptoRow : OpenClaim := { program := "ytinpnedijmmpgaa", sum := "080d2b2a60afb18d85a706bad9c422c50948adca148320b09166dad2d903b2e5", func := "loop.example/g03008/laws.FnExactAllOut", spec := "fnExactAllOut", apart := false, narrowed := true }
def FnExactAllOutUptoSaid : Prop := fnExactAllOutUptoRow.holds Try.pinned (OpenSpec.upto fnExactAllOutSpec)

/-- 'laws.FnExactCountLong', WHERE WHAT IT READS IS OF BULK AT MOST 1048576: true; the input reads as it did. -/
def fnExactCountLongUptoRow : OpenClaim := { program := "ytinpnedijmmpgaa", sum := "080d2b2a60afb18d85a706bad9c422c50948adca148320b09166dad2d903b2e5", func := "loop.example/g03008/laws.FnExactCountLong", spec := "fnExactCountLong", apart := false, narrowed := true }
def FnExactCountLongUptoSaid : Prop := fnExactCountLongUptoRow.holds Try.pinned (OpenSpec.upto fnExactCountLongSpec)

/-- 'laws.FnExactFlipFlash', WHERE WHAT IT READS IS OF BULK AT MOST 1048576: true; the input reads as it did. -/
def fnExactFlipFlashUptoRow : OpenClaim := { program := "ytinpnedijmmpgaa", sum := "080d2b2a60afb18d85a706bad9c422c50948adca148320b09166dad2d903b2e5", func := "loop.example/g03008/laws.FnExactFlipFlash", spec := "fnExactFlipFlash", apart := false, narrowed := true }
def FnExactFlipFlashUptoSaid : Prop := fnExactFlipFlashUptoRow.holds Try.pinned (OpenSpec.upto fnExactFlipFlashSpec)

/-- 'laws.FnExactSignTime', WHERE WHAT IT READS IS OF BULK AT MOST 1048576: true; the input reads as it did. -/
def fnExactSignTimeUptoRow : OpenClaim := { program := "ytinpnedijmmpgaa", sum := "080d2b2a60afb18d85a706bad9c422c50948adca148320b09166dad2d903b2e5", func := "loop.example/g03008/laws.FnExactSignTime", spec := "fnExactSignTime", unfollowed := true, recurses := true, apart := false, narrowed := true }
def FnExactSignTimeUptoSaid : Prop := fnExactSignTimeUptoRow.holds Try.pinned (OpenSpec.upto fnExactSignTimeSpec)

/-- 'laws.FnExactSumOf', WHERE WHAT IT READS IS OF BULK AT MOST 1048576: true; the input reads as it did. -/
def fnExactSumOfUptoRow : OpenClaim := { program := "ytinpnedijmmpgaa", sum := "080d2b2a60afb18d85a706bad9c422c50948adca148320b09166dad2d903b2e5", func := "loop.example/g03008/laws.FnExactSumOf", spec := "fnExactSumOf", unfollowed := true, recurses := true, apart := false, narrowed := true }
def FnExactSumOfUptoSaid : Prop := fnExactSumOfUptoRow.holds Try.pinned (OpenSpec.upto fnExactSumOfSpec)

/-- 'laws.FnExactSumAt', WHERE WHAT IT READS IS OF BULK AT MOST 1048576: true; the input reads as it did. -/
def fnExactSumAtUptoRow : OpenClaim := { program := "ytinpnedijmmpgaa", sum := "080d2b2a60afb18d85a706bad9c422c50948adca148320b09166dad2d903b2e5", func := "loop.example/g03008/laws.FnExactSumAt", spec := "fnExactSumAt", apart := false, narrowed := true }
def FnExactSumAtUptoSaid : Prop := fnExactSumAtUptoRow.holds Try.pinned (OpenSpec.upto fnExactSumAtSpec)

/-- 'laws.FnExactSplitGap', WHERE WHAT IT READS IS OF BULK AT MOST 1048576: true; the input reads as it did. -/
def fnExactSplitGapUptoRow : OpenClaim := { program := "ytinpnedijmmpgaa", sum := "080d2b2a60afb18d85a706bad9c422c50948adca148320b09166dad2d903b2e5", func := "loop.example/g03008/laws.FnExactSplitGap", spec := "fnExactSplitGap", apart := false, narrowed := true }
def FnExactSplitGapUptoSaid : Prop := fnExactSplitGapUptoRow.holds Try.pinned (OpenSpec.upto fnExactSplitGapSpec)

end Rows
end Go.Proofs.Ytinpnedijmmpgaa

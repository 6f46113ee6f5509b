/-
  No cell of these rows narrows 'for every input' (looked for: loops, veiled, ifaces, maps, wideKeys, modest, calm, conditions, laid).
  DERIVED. THE GIVEN ROWS OF THIS SEAT. 8 by the template 'for every input the law returns true; each argument reads behind the call as it read before'; 0 by the template 'total and deterministic' (their statements: YtfcjbkagofccdaaTotals.lean).
  GIVEN WITH THE SEED: the statements are not yours to turn. If you find one false, say at which input.
  Laid BY PROGRAM, IN A SANDBOX (cutbox-rows.mjs): the forced cells as the released guide's own fill.sh prints them over the translation f4c72a61d2e3e9c8… (all of the seat's roots in one cut). By AI agents, Wed Nov 11 2026. No macro, syntax, notation, axiom, sorry.
-/
import Derived.Test.YtfcjbkagofccdaaChecked
import GoSem.Claim
import GoSem.ClaimJoined
import GoSem.ClaimMapViews
import Derived.JoinedTies
import Derived.KernelRfl
namespace Go.Proofs.Ytfcjbkagofccdaa
/- THE CELL 'sum', in the pinned program and in every row, IS THE sha256 OF THE DUMP (.gsa) THAT YtfcjbkagofccdaaProg.lean LOADS. Nothing in Lean hashes anything: it is a label: what it is worth is what the hold of that sum in a sandbox is worth. -/
noncomputable def Try.pinned : Pinned := { name := "ytfcjbkagofccdaa", sum := "f4c72a61d2e3e9c873212db64ad1723b3de6f9b88b7bcba767d75d2124ee6f45", checked := Try.checked }
namespace Rows
def none {H : Type} : Left H := { results := [], args := [] }

/-- 'laws.FnExactTotalFood': WHATEVER THE INPUT: true; the input reads as it did. -/
def fnExactTotalFoodSpec : ChangeSpec := { name := "fnExactTotalFood", fn := fun _ => fun
  | [d] => { results := [.lit (.bool true)], args := [d] }
  | _ => none }
def fnExactTotalFoodRow : OpenClaim := { program := "ytfcjbkagofccdaa", sum := "f4c72a61d2e3e9c873212db64ad1723b3de6f9b88b7bcba767d75d2124ee6f45", func := "loop.example/g03008/laws.FnExactTotalFood", spec := "fnExactTotalFood", unfollowed := true, recurses := true, apart := false }
def FnExactTotalFoodSaid : Prop := fnExactTotalFoodRow.holds Try.pinned (OpenSpec.ofChange fnExactTotalFoodSpec)

/-- ITS FALSE NEIGHBOUR: 'it returns false'. Refute it at one input. -/
def fnExactTotalFoodWrong : ChangeSpec := { name := "fnExactTotalFood", fn := fun _ => fun
  | [d] => { results := [.lit (.bool false)], args := [d] }
  | _ => none }
def FnExactTotalFoodWrongFalsely : Prop := fnExactTotalFoodRow.holds Try.pinned (OpenSpec.ofChange fnExactTotalFoodWrong)

/-- 'laws.FnExactFoodInAll': WHATEVER THE INPUT: true; the input reads as it did. -/
def fnExactFoodInAllSpec : ChangeSpec := { name := "fnExactFoodInAll", fn := fun _ => fun
  | [d1, d2] => { results := [.lit (.bool true)], args := [d1, d2] }
  | _ => none }
def fnExactFoodInAllRow : OpenClaim := { program := "ytfcjbkagofccdaa", sum := "f4c72a61d2e3e9c873212db64ad1723b3de6f9b88b7bcba767d75d2124ee6f45", func := "loop.example/g03008/laws.FnExactFoodInAll", spec := "fnExactFoodInAll", unfollowed := true, recurses := true, apart := false }
def FnExactFoodInAllSaid : Prop := fnExactFoodInAllRow.holds Try.pinned (OpenSpec.ofChange fnExactFoodInAllSpec)

/-- ITS FALSE NEIGHBOUR: 'it returns false'. Refute it at one input. -/
def fnExactFoodInAllWrong : ChangeSpec := { name := "fnExactFoodInAll", fn := fun _ => fun
  | [d1, d2] => { results := [.lit (.bool false)], args := [d1, d2] }
  | _ => none }
def FnExactFoodInAllWrongFalsely : Prop := fnExactFoodInAllRow.holds Try.pinned (OpenSpec.ofChange fnExactFoodInAllWrong)

/-- 'laws.FnExactPickUp': WHATEVER THE INPUT: true; the input reads as it did. -/
def fnExactPickUpSpec : ChangeSpec := { name := "fnExactPickUp", fn := fun _ => fun
  | [d1, d2] => { results := [.lit (.bool true)], args := [d1, d2] }
  | _ => none }
def fnExactPickUpRow : OpenClaim := { program := "ytfcjbkagofccdaa", sum := "f4c72a61d2e3e9c873212db64ad1723b3de6f9b88b7bcba767d75d2124ee6f45", func := "loop.example/g03008/laws.FnExactPickUp", spec := "fnExactPickUp", unfollowed := true, recurses := true, apart := false }
def FnExactPickUpSaid : Prop := fnExactPickUpRow.holds Try.pinned (OpenSpec.ofChange fnExactPickUpSpec)

/-- ITS FALSE NEIGHBOUR: 'it returns false'. Refute it at one input. -/
def fnExactPickUpWrong : ChangeSpec := { name := "fnExactPickUp", fn := fun _ => fun
  | [d1, d2] => { results := [.lit (.bool false)], args := [d1, d2] }
  | _ => none }
def FnExactPickUpWrongFalsely : Prop := fnExactPickUpRow.holds Try.pinned (OpenSpec.ofChange fnExactPickUpWrong)

/-- 'laws.FnExactIceOn': WHATEVER THE INPUT: true; the input reads as it did. -/
def fnExactIceOnSpec : ChangeSpec := { name := "fnExactIceOn", fn := fun _ => fun
  | [d1, d2] => { results := [.lit (.bool true)], args := [d1, d2] }
  | _ => none }
def fnExactIceOnRow : OpenClaim := { program := "ytfcjbkagofccdaa", sum := "f4c72a61d2e3e9c873212db64ad1723b3de6f9b88b7bcba767d75d2124ee6f45", func := "loop.example/g03008/laws.FnExactIceOn", spec := "fnExactIceOn", unfollowed := true, recurses := true, apart := false }
def FnExactIceOnSaid : Prop := fnExactIceOnRow.holds Try.pinned (OpenSpec.ofChange fnExactIceOnSpec)

/-- ITS FALSE NEIGHBOUR: 'it returns false'. Refute it at one input. -/
def fnExactIceOnWrong : ChangeSpec := { name := "fnExactIceOn", fn := fun _ => fun
  | [d1, d2] => { results := [.lit (.bool false)], args := [d1, d2] }
  | _ => none }
def FnExactIceOnWrongFalsely : Prop := fnExactIceOnRow.holds Try.pinned (OpenSpec.ofChange fnExactIceOnWrong)

/-- 'laws.FnExactLeaderOf': WHATEVER THE INPUT: true; the input reads as it did. -/
def fnExactLeaderOfSpec : ChangeSpec := { name := "fnExactLeaderOf", fn := fun _ => fun
  | [d1, d2] => { results := [.lit (.bool true)], args := [d1, d2] }
  | _ => none }
def fnExactLeaderOfRow : OpenClaim := { program := "ytfcjbkagofccdaa", sum := "f4c72a61d2e3e9c873212db64ad1723b3de6f9b88b7bcba767d75d2124ee6f45", func := "loop.example/g03008/laws.FnExactLeaderOf", spec := "fnExactLeaderOf", apart := false }
def FnExactLeaderOfSaid : Prop := fnExactLeaderOfRow.holds Try.pinned (OpenSpec.ofChange fnExactLeaderOfSpec)

/-- ITS FALSE NEIGHBOUR: 'it returns false'. Refute it at one input. -/
def fnExactLeaderOfWrong : ChangeSpec := { name := "fnExactLeaderOf", fn := fun _ => fun
  | [d1, d2] => { results := [.lit (.bool false)], args := [d1, d2] }
  | _ => none }
def FnExactLeaderOfWrongFalsely : Prop := fnExactLeaderOfRow.holds Try.pinned (OpenSpec.ofChange fnExactLeaderOfWrong)

/-- 'laws.FnExactNeedHome': WHATEVER THE INPUT: true; the input reads as it did. -/
def fnExactNeedHomeSpec : ChangeSpec := { name := "fnExactNeedHome", fn := fun _ => fun
  | [d1, d2, d3, d4] => { results := [.lit (.bool true)], args := [d1, d2, d3, d4] }
  | _ => none }
def fnExactNeedHomeRow : OpenClaim := { program := "ytfcjbkagofccdaa", sum := "f4c72a61d2e3e9c873212db64ad1723b3de6f9b88b7bcba767d75d2124ee6f45", func := "loop.example/g03008/laws.FnExactNeedHome", spec := "fnExactNeedHome", unfollowed := true, recurses := true, apart := false }
def FnExactNeedHomeSaid : Prop := fnExactNeedHomeRow.holds Try.pinned (OpenSpec.ofChange fnExactNeedHomeSpec)

/-- ITS FALSE NEIGHBOUR: 'it returns false'. Refute it at one input. -/
def fnExactNeedHomeWrong : ChangeSpec := { name := "fnExactNeedHome", fn := fun _ => fun
  | [d1, d2, d3, d4] => { results := [.lit (.bool false)], args := [d1, d2, d3, d4] }
  | _ => none }
def FnExactNeedHomeWrongFalsely : Prop := fnExactNeedHomeRow.holds Try.pinned (OpenSpec.ofChange fnExactNeedHomeWrong)

/-- 'laws.FnExactLay': WHATEVER THE INPUT: true; the input reads as it did. -/
def fnExactLaySpec : ChangeSpec := { name := "fnExactLay", fn := fun _ => fun
  | [d1, d2, d3, d4] => { results := [.lit (.bool true)], args := [d1, d2, d3, d4] }
  | _ => none }
def fnExactLayRow : OpenClaim := { program := "ytfcjbkagofccdaa", sum := "f4c72a61d2e3e9c873212db64ad1723b3de6f9b88b7bcba767d75d2124ee6f45", func := "loop.example/g03008/laws.FnExactLay", spec := "fnExactLay", unfollowed := true, recurses := true, apart := false }
def FnExactLaySaid : Prop := fnExactLayRow.holds Try.pinned (OpenSpec.ofChange fnExactLaySpec)

/-- ITS FALSE NEIGHBOUR: 'it returns false'. Refute it at one input. -/
def fnExactLayWrong : ChangeSpec := { name := "fnExactLay", fn := fun _ => fun
  | [d1, d2, d3, d4] => { results := [.lit (.bool false)], args := [d1, d2, d3, d4] }
  | _ => none }
def FnExactLayWrongFalsely : Prop := fnExactLayRow.holds Try.pinned (OpenSpec.ofChange fnExactLayWrong)

/-- 'laws.FnExactTake': WHATEVER THE INPUT: true; the input reads as it did. -/
def fnExactTakeSpec : ChangeSpec := { name := "fnExactTake", fn := fun _ => fun
  | [d1, d2, d3, d4] => { results := [.lit (.bool true)], args := [d1, d2, d3, d4] }
  | _ => none }
def fnExactTakeRow : OpenClaim := { program := "ytfcjbkagofccdaa", sum := "f4c72a61d2e3e9c873212db64ad1723b3de6f9b88b7bcba767d75d2124ee6f45", func := "loop.example/g03008/laws.FnExactTake", spec := "fnExactTake", unfollowed := true, recurses := true, apart := false }
def FnExactTakeSaid : Prop := fnExactTakeRow.holds Try.pinned (OpenSpec.ofChange fnExactTakeSpec)

/-- ITS FALSE NEIGHBOUR: 'it returns false'. Refute it at one input. -/
def fnExactTakeWrong : ChangeSpec := { name := "fnExactTake", fn := fun _ => fun
  | [d1, d2, d3, d4] => { results := [.lit (.bool false)], args := [d1, d2, d3, d4] }
  | _ => none }
def FnExactTakeWrongFalsely : Prop := fnExactTakeRow.holds Try.pinned (OpenSpec.ofChange fnExactTakeWrong)

/- THE SECOND FORM. 'bulk': how many values and letters a reading holds, each counted each time it is reached (what is shared counts as often as it is met; a slice's spare places count too). A statement '..UptoSaid' is the law's where the arguments, and the package variables that the reading takes, are together of bulk at most 1048576: NARROWER than '..Said'. Prove '..Said' where nothing that the law and all that it calls make is longer than what came in: it says more and counts as full. Else prove '..UptoSaid'. A law counts once. -/
mutual
def uptoBulk {H : Type} : DataW H → Nat
  | .lit (.string bytes) => bytes.length + 1
  | .lit _ => 1
  | .nil => 1
  | .ptr d => uptoBulk d + 1
  | .slice elems spare => uptoBulkAll elems + uptoBulkAll spare + 1
  | .agg parts => uptoBulkAll parts + 1
  | .iface _ d => uptoBulk d + 1
  | .map entries => uptoBulkEntries entries + 1
  | .held _ => 1
def uptoBulkAll {H : Type} : List (DataW H) → Nat
  | [] => 0
  | d :: r => uptoBulk d + uptoBulkAll r
def uptoBulkEntries {H : Type} : List (Lit × DataW H) → Nat
  | [] => 0
  | x :: r => uptoBulkEntry x + uptoBulkEntries r
def uptoBulkEntry {H : Type} : Lit × DataW H → Nat
  | (.string bytes, d) => bytes.length + uptoBulk d + 1
  | (_, d) => uptoBulk d + 1
 end
def uptoSmall : (H : Type) → List (DataW H) → Bool := fun _ ds => decide (uptoBulkAll ds ≤ 1048576)
def OpenSpec.upto (s : _root_.Go.ChangeSpec) : _root_.Go.OpenSpec := { _root_.Go.OpenSpec.ofChange s with cond := some uptoSmall }

/-- 'laws.FnExactTotalFood', WHERE WHAT IT READS IS OF BULK AT MOST 1048576: true; the input reads as it did. -/
def fnExactTotalFoodUptoRow : OpenClaim := { program := "ytfcjbkagofccdaa", sum := "f4c72a61d2e3e9c873212db64ad1723b3de6f9b88b7bcba767d75d2124ee6f45", func := "loop.example/g03008/laws.FnExactTotalFood", spec := "fnExactTotalFood", unfollowed := true, recurses := true, apart := false, narrowed := true }
def FnExactTotalFoodUptoSaid : Prop := fnExactTotalFoodUptoRow.holds Try.pinned (OpenSpec.upto fnExactTotalFoodSpec)

/-- 'laws.FnExactFoodInAll', WHERE WHAT IT READS IS OF BULK AT MOST 1048576: true; the input reads as it did. -/
def fnExactFoodInAllUptoRow : OpenClaim := { program := "ytfcjbkagofccdaa", sum := "f4c72a61d2e3e9c873212db64ad1723b3de6f9b88b7bcba767d75d2124ee6f45", func := "loop.example/g03008/laws.FnExactFoodInAll", spec := "fnExactFoodInAll", unfollowed := true, recurses := true, apart := false, narrowed := true }
def FnExactFoodInAllUptoSaid : Prop := fnExactFoodInAllUptoRow.holds Try.pinned (OpenSpec.upto fnExactFoodInAllSpec)

/-- 'laws.FnExactPickUp', WHERE WHAT IT READS IS OF BULK AT MOST 1048576: true; the input reads as it did. -/
def fnExactPickUpUptoRow : OpenClaim := { program := "ytfcjbkagofccdaa", sum := "f4c72a61d2e3e9c873212db64ad1723b3de6f9b88b7bcba767d75d2124ee6f45", func := "loop.example/g03008/laws.FnExactPickUp", spec := "fnExactPickUp", unfollowed := true, recurses := true, apart := false, narrowed := true }
def FnExactPickUpUptoSaid : Prop := fnExactPickUpUptoRow.holds Try.pinned (OpenSpec.upto fnExactPickUpSpec)

/-- 'laws.FnExactIceOn', WHERE WHAT IT READS IS OF BULK AT MOST 1048576: true; the input reads as it did. -/
def fnExactIceOnUptoRow : OpenClaim := { program := "ytfcjbkagofccdaa", sum := "f4c72a61d2e3e9c873212db64ad1723b3de6f9b88b7bcba767d75d2124ee6f45", func := "loop.example/g03008/laws.FnExactIceOn", spec := "fnExactIceOn", unfollowed := true, recurses := true, apart := false, narrowed := true }
def FnExactIceOnUptoSaid : Prop := fnExactIceOnUptoRow.holds Try.pinned (OpenSpec.upto fnExactIceOnSpec)

/-- 'laws.FnExactLeaderOf', WHERE WHAT IT READS IS OF BULK AT MOST 1048576: true; the input reads as it did. -/
def fnExactLeaderOfUptoRow : OpenClaim := { program := "ytfcjbkagofccdaa", sum := "f4c72a61d2e3e9c873212db64ad1723b3de6f9b88b7bcba767d75d2124ee6f45", func := "loop.example/g03008/laws.FnExactLeaderOf", spec := "fnExactLeaderOf", apart := false, narrowed := true }
def FnExactLeaderOfUptoSaid : Prop := fnExactLeaderOfUptoRow.holds Try.pinned (OpenSpec.upto fnExactLeaderOfSpec)

/-- 'laws.FnExactNeedHome', WHERE WHAT IT READS IS OF BULK AT MOST 1048576: true; the input reads as it did. -/
def fnExactNeedHomeUptoRow : OpenClaim := { program := "ytfcjbkagofccdaa", sum := "f4c72a61d2e3e9c873212db64ad1723b3de6f9b88b7bcba767d75d2124ee6f45", func := "loop.example/g03008/laws.FnExactNeedHome", spec := "fnExactNeedHome", unfollowed := true, recurses := true, apart := false, narrowed := true }
def FnExactNeedHomeUptoSaid : Prop := fnExactNeedHomeUptoRow.holds Try.pinned (OpenSpec.upto fnExactNeedHomeSpec)

/-- 'laws.FnExactLay', WHERE WHAT IT READS IS OF BULK AT MOST 1048576: true; the input reads as it did. -/
def fnExactLayUptoRow : OpenClaim := { program := "ytfcjbkagofccdaa", sum := "f4c72a61d2e3e9c873212db64ad1723b3de6f9b88b7bcba767d75d2124ee6f45", func := "loop.example/g03008/laws.FnExactLay", spec := "fnExactLay", unfollowed := true, recurses := true, apart := false, narrowed := true }
def FnExactLayUptoSaid : Prop := fnExactLayUptoRow.holds Try.pinned (OpenSpec.upto fnExactLaySpec)

/-- 'laws.FnExactTake', WHERE WHAT IT READS IS OF BULK AT MOST 1048576: true; the input reads as it did. -/
def fnExactTakeUptoRow : OpenClaim := { program := "ytfcjbkagofccdaa", sum := "f4c72a61d2e3e9c873212db64ad1723b3de6f9b88b7bcba767d75d2124ee6f45", func := "loop.example/g03008/laws.FnExactTake", spec := "fnExactTake", unfollowed := true, recurses := true, apart := false, narrowed := true }
def FnExactTakeUptoSaid : Prop := fnExactTakeUptoRow.holds Try.pinned (OpenSpec.upto fnExactTakeSpec)

end Rows
end Go.Proofs.Ytfcjbkagofccdaa

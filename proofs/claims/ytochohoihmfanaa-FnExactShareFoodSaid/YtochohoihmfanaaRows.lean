/-
  No cell of these rows narrows 'for every input' (looked for: loops, veiled, ifaces, maps, wideKeys, modest, calm, conditions, laid).
  DERIVED. THE GIVEN ROWS OF THIS SEAT. 11 by the template 'for every input the law returns true; each argument reads behind the call as it read before'; 0 by the template 'total and deterministic' (their statements: YtochohoihmfanaaTotals.lean).
  GIVEN WITH THE SEED: the statements are not yours to turn. If you find one false, say at which input.
  Laid BY PROGRAM, IN A SANDBOX (cutbox-rows.mjs): the forced cells as the released guide's own fill.sh prints them over the translation 45c4f0a84b4beafc… (all of the seat's roots in one cut). By AI agents, Wed Nov 11 2026. No macro, syntax, notation, axiom, sorry.
-/
import Derived.Test.YtochohoihmfanaaChecked
import GoSem.Claim
import GoSem.ClaimJoined
import GoSem.ClaimMapViews
import Derived.JoinedTies
import Derived.KernelRfl
namespace Go.Proofs.Ytochohoihmfanaa
/- THE CELL 'sum', in the pinned program and in every row, IS THE sha256 OF THE DUMP (.gsa) THAT YtochohoihmfanaaProg.lean LOADS. Nothing in Lean hashes anything: it is a label: what it is worth is what the hold of that sum in a sandbox is worth. -/
noncomputable def Try.pinned : Pinned := { name := "ytochohoihmfanaa", sum := "45c4f0a84b4beafc4803b31b5b392146eaf85de58c49bfa39767f67643c69888", checked := Try.checked }
namespace Rows
def none {H : Type} : Left H := { results := [], args := [] }

/-- 'laws.FnExactShareFood': WHATEVER THE INPUT: true; the input reads as it did. -/
def fnExactShareFoodSpec : ChangeSpec := { name := "fnExactShareFood", fn := fun _ => fun
  | [d1, d2] => { results := [.lit (.bool true)], args := [d1, d2] }
  | _ => none }
def fnExactShareFoodRow : OpenClaim := { program := "ytochohoihmfanaa", sum := "45c4f0a84b4beafc4803b31b5b392146eaf85de58c49bfa39767f67643c69888", func := "loop.example/g03008/laws.FnExactShareFood", spec := "fnExactShareFood", unfollowed := true, recurses := true, apart := false }
def FnExactShareFoodSaid : Prop := fnExactShareFoodRow.holds Try.pinned (OpenSpec.ofChange fnExactShareFoodSpec)

/-- ITS FALSE NEIGHBOUR: 'it returns false'. Refute it at one input. -/
def fnExactShareFoodWrong : ChangeSpec := { name := "fnExactShareFood", fn := fun _ => fun
  | [d1, d2] => { results := [.lit (.bool false)], args := [d1, d2] }
  | _ => none }
def FnExactShareFoodWrongFalsely : Prop := fnExactShareFoodRow.holds Try.pinned (OpenSpec.ofChange fnExactShareFoodWrong)

/-- 'laws.FnExactShareLoad': WHATEVER THE INPUT: true; the input reads as it did. -/
def fnExactShareLoadSpec : ChangeSpec := { name := "fnExactShareLoad", fn := fun _ => fun
  | [d1, d2] => { results := [.lit (.bool true)], args := [d1, d2] }
  | _ => none }
def fnExactShareLoadRow : OpenClaim := { program := "ytochohoihmfanaa", sum := "45c4f0a84b4beafc4803b31b5b392146eaf85de58c49bfa39767f67643c69888", func := "loop.example/g03008/laws.FnExactShareLoad", spec := "fnExactShareLoad", unfollowed := true, recurses := true, apart := false }
def FnExactShareLoadSaid : Prop := fnExactShareLoadRow.holds Try.pinned (OpenSpec.ofChange fnExactShareLoadSpec)

/-- ITS FALSE NEIGHBOUR: 'it returns false'. Refute it at one input. -/
def fnExactShareLoadWrong : ChangeSpec := { name := "fnExactShareLoad", fn := fun _ => fun
  | [d1, d2] => { results := [.lit (.bool false)], args := [d1, d2] }
  | _ => none }
def FnExactShareLoadWrongFalsely : Prop := fnExactShareLoadRow.holds Try.pinned (OpenSpec.ofChange fnExactShareLoadWrong)

/-- 'laws.FnExactCanCarry': WHATEVER THE INPUT: true; the input reads as it did. -/
def fnExactCanCarrySpec : ChangeSpec := { name := "fnExactCanCarry", fn := fun _ => fun
  | [d1, d2] => { results := [.lit (.bool true)], args := [d1, d2] }
  | _ => none }
def fnExactCanCarryRow : OpenClaim := { program := "ytochohoihmfanaa", sum := "45c4f0a84b4beafc4803b31b5b392146eaf85de58c49bfa39767f67643c69888", func := "loop.example/g03008/laws.FnExactCanCarry", spec := "fnExactCanCarry", unfollowed := true, recurses := true, apart := false }
def FnExactCanCarrySaid : Prop := fnExactCanCarryRow.holds Try.pinned (OpenSpec.ofChange fnExactCanCarrySpec)

/-- ITS FALSE NEIGHBOUR: 'it returns false'. Refute it at one input. -/
def fnExactCanCarryWrong : ChangeSpec := { name := "fnExactCanCarry", fn := fun _ => fun
  | [d1, d2] => { results := [.lit (.bool false)], args := [d1, d2] }
  | _ => none }
def FnExactCanCarryWrongFalsely : Prop := fnExactCanCarryRow.holds Try.pinned (OpenSpec.ofChange fnExactCanCarryWrong)

/-- 'laws.FnExactCanReach': WHATEVER THE INPUT: true; the input reads as it did. -/
def fnExactCanReachSpec : ChangeSpec := { name := "fnExactCanReach", fn := fun _ => fun
  | [d1, d2] => { results := [.lit (.bool true)], args := [d1, d2] }
  | _ => none }
def fnExactCanReachRow : OpenClaim := { program := "ytochohoihmfanaa", sum := "45c4f0a84b4beafc4803b31b5b392146eaf85de58c49bfa39767f67643c69888", func := "loop.example/g03008/laws.FnExactCanReach", spec := "fnExactCanReach", apart := false }
def FnExactCanReachSaid : Prop := fnExactCanReachRow.holds Try.pinned (OpenSpec.ofChange fnExactCanReachSpec)

/-- ITS FALSE NEIGHBOUR: 'it returns false'. Refute it at one input. -/
def fnExactCanReachWrong : ChangeSpec := { name := "fnExactCanReach", fn := fun _ => fun
  | [d1, d2] => { results := [.lit (.bool false)], args := [d1, d2] }
  | _ => none }
def FnExactCanReachWrongFalsely : Prop := fnExactCanReachRow.holds Try.pinned (OpenSpec.ofChange fnExactCanReachWrong)

/-- 'laws.FnExactCountWeathers': WHATEVER THE INPUT: true; the input reads as it did. -/
def fnExactCountWeathersSpec : ChangeSpec := { name := "fnExactCountWeathers", fn := fun _ => fun
  | [d1, d2, d3] => { results := [.lit (.bool true)], args := [d1, d2, d3] }
  | _ => none }
def fnExactCountWeathersRow : OpenClaim := { program := "ytochohoihmfanaa", sum := "45c4f0a84b4beafc4803b31b5b392146eaf85de58c49bfa39767f67643c69888", func := "loop.example/g03008/laws.FnExactCountWeathers", spec := "fnExactCountWeathers", unfollowed := true, recurses := true, apart := false }
def FnExactCountWeathersSaid : Prop := fnExactCountWeathersRow.holds Try.pinned (OpenSpec.ofChange fnExactCountWeathersSpec)

/-- ITS FALSE NEIGHBOUR: 'it returns false'. Refute it at one input. -/
def fnExactCountWeathersWrong : ChangeSpec := { name := "fnExactCountWeathers", fn := fun _ => fun
  | [d1, d2, d3] => { results := [.lit (.bool false)], args := [d1, d2, d3] }
  | _ => none }
def FnExactCountWeathersWrongFalsely : Prop := fnExactCountWeathersRow.holds Try.pinned (OpenSpec.ofChange fnExactCountWeathersWrong)

/-- 'laws.FnExactSlowestDays': WHATEVER THE INPUT: true; the input reads as it did. -/
def fnExactSlowestDaysSpec : ChangeSpec := { name := "fnExactSlowestDays", fn := fun _ => fun
  | [d1, d2, d3] => { results := [.lit (.bool true)], args := [d1, d2, d3] }
  | _ => none }
def fnExactSlowestDaysRow : OpenClaim := { program := "ytochohoihmfanaa", sum := "45c4f0a84b4beafc4803b31b5b392146eaf85de58c49bfa39767f67643c69888", func := "loop.example/g03008/laws.FnExactSlowestDays", spec := "fnExactSlowestDays", unfollowed := true, recurses := true, apart := false }
def FnExactSlowestDaysSaid : Prop := fnExactSlowestDaysRow.holds Try.pinned (OpenSpec.ofChange fnExactSlowestDaysSpec)

/-- ITS FALSE NEIGHBOUR: 'it returns false'. Refute it at one input. -/
def fnExactSlowestDaysWrong : ChangeSpec := { name := "fnExactSlowestDays", fn := fun _ => fun
  | [d1, d2, d3] => { results := [.lit (.bool false)], args := [d1, d2, d3] }
  | _ => none }
def FnExactSlowestDaysWrongFalsely : Prop := fnExactSlowestDaysRow.holds Try.pinned (OpenSpec.ofChange fnExactSlowestDaysWrong)

/-- 'laws.FnExactThatKeep': WHATEVER THE INPUT: true; the input reads as it did. -/
def fnExactThatKeepSpec : ChangeSpec := { name := "fnExactThatKeep", fn := fun _ => fun
  | [d1, d2, d3] => { results := [.lit (.bool true)], args := [d1, d2, d3] }
  | _ => none }
def fnExactThatKeepRow : OpenClaim := { program := "ytochohoihmfanaa", sum := "45c4f0a84b4beafc4803b31b5b392146eaf85de58c49bfa39767f67643c69888", func := "loop.example/g03008/laws.FnExactThatKeep", spec := "fnExactThatKeep", apart := false }
def FnExactThatKeepSaid : Prop := fnExactThatKeepRow.holds Try.pinned (OpenSpec.ofChange fnExactThatKeepSpec)

/-- ITS FALSE NEIGHBOUR: 'it returns false'. Refute it at one input. -/
def fnExactThatKeepWrong : ChangeSpec := { name := "fnExactThatKeep", fn := fun _ => fun
  | [d1, d2, d3] => { results := [.lit (.bool false)], args := [d1, d2, d3] }
  | _ => none }
def FnExactThatKeepWrongFalsely : Prop := fnExactThatKeepRow.holds Try.pinned (OpenSpec.ofChange fnExactThatKeepWrong)

/-- 'laws.FnExactAtBase': WHATEVER THE INPUT: true; the input reads as it did. -/
def fnExactAtBaseSpec : ChangeSpec := { name := "fnExactAtBase", fn := fun _ => fun
  | [d] => { results := [.lit (.bool true)], args := [d] }
  | _ => none }
def fnExactAtBaseRow : OpenClaim := { program := "ytochohoihmfanaa", sum := "45c4f0a84b4beafc4803b31b5b392146eaf85de58c49bfa39767f67643c69888", func := "loop.example/g03008/laws.FnExactAtBase", spec := "fnExactAtBase", apart := false }
def FnExactAtBaseSaid : Prop := fnExactAtBaseRow.holds Try.pinned (OpenSpec.ofChange fnExactAtBaseSpec)

/-- ITS FALSE NEIGHBOUR: 'it returns false'. Refute it at one input. -/
def fnExactAtBaseWrong : ChangeSpec := { name := "fnExactAtBase", fn := fun _ => fun
  | [d] => { results := [.lit (.bool false)], args := [d] }
  | _ => none }
def FnExactAtBaseWrongFalsely : Prop := fnExactAtBaseRow.holds Try.pinned (OpenSpec.ofChange fnExactAtBaseWrong)

/-- 'laws.FnExactEqualTreks': WHATEVER THE INPUT: true; the input reads as it did. -/
def fnExactEqualTreksSpec : ChangeSpec := { name := "fnExactEqualTreks", fn := fun _ => fun
  | [d1, d2] => { results := [.lit (.bool true)], args := [d1, d2] }
  | _ => none }
def fnExactEqualTreksRow : OpenClaim := { program := "ytochohoihmfanaa", sum := "45c4f0a84b4beafc4803b31b5b392146eaf85de58c49bfa39767f67643c69888", func := "loop.example/g03008/laws.FnExactEqualTreks", spec := "fnExactEqualTreks", apart := false }
def FnExactEqualTreksSaid : Prop := fnExactEqualTreksRow.holds Try.pinned (OpenSpec.ofChange fnExactEqualTreksSpec)

/-- ITS FALSE NEIGHBOUR: 'it returns false'. Refute it at one input. -/
def fnExactEqualTreksWrong : ChangeSpec := { name := "fnExactEqualTreks", fn := fun _ => fun
  | [d1, d2] => { results := [.lit (.bool false)], args := [d1, d2] }
  | _ => none }
def FnExactEqualTreksWrongFalsely : Prop := fnExactEqualTreksRow.holds Try.pinned (OpenSpec.ofChange fnExactEqualTreksWrong)

/-- 'laws.FnExactNothingLost': WHATEVER THE INPUT: true; the input reads as it did. -/
def fnExactNothingLostSpec : ChangeSpec := { name := "fnExactNothingLost", fn := fun _ => fun
  | [d] => { results := [.lit (.bool true)], args := [d] }
  | _ => none }
def fnExactNothingLostRow : OpenClaim := { program := "ytochohoihmfanaa", sum := "45c4f0a84b4beafc4803b31b5b392146eaf85de58c49bfa39767f67643c69888", func := "loop.example/g03008/laws.FnExactNothingLost", spec := "fnExactNothingLost", unfollowed := true, recurses := true, apart := false }
def FnExactNothingLostSaid : Prop := fnExactNothingLostRow.holds Try.pinned (OpenSpec.ofChange fnExactNothingLostSpec)

/-- ITS FALSE NEIGHBOUR: 'it returns false'. Refute it at one input. -/
def fnExactNothingLostWrong : ChangeSpec := { name := "fnExactNothingLost", fn := fun _ => fun
  | [d] => { results := [.lit (.bool false)], args := [d] }
  | _ => none }
def FnExactNothingLostWrongFalsely : Prop := fnExactNothingLostRow.holds Try.pinned (OpenSpec.ofChange fnExactNothingLostWrong)

/-- 'laws.FnExactKeepsRule': WHATEVER THE INPUT: true; the input reads as it did. -/
def fnExactKeepsRuleSpec : ChangeSpec := { name := "fnExactKeepsRule", fn := fun _ => fun
  | [d] => { results := [.lit (.bool true)], args := [d] }
  | _ => none }
def fnExactKeepsRuleRow : OpenClaim := { program := "ytochohoihmfanaa", sum := "45c4f0a84b4beafc4803b31b5b392146eaf85de58c49bfa39767f67643c69888", func := "loop.example/g03008/laws.FnExactKeepsRule", spec := "fnExactKeepsRule", apart := false }
def FnExactKeepsRuleSaid : Prop := fnExactKeepsRuleRow.holds Try.pinned (OpenSpec.ofChange fnExactKeepsRuleSpec)

/-- ITS FALSE NEIGHBOUR: 'it returns false'. Refute it at one input. -/
def fnExactKeepsRuleWrong : ChangeSpec := { name := "fnExactKeepsRule", fn := fun _ => fun
  | [d] => { results := [.lit (.bool false)], args := [d] }
  | _ => none }
def FnExactKeepsRuleWrongFalsely : Prop := fnExactKeepsRuleRow.holds Try.pinned (OpenSpec.ofChange fnExactKeepsRuleWrong)

/- THE SECOND FORM. 'bulk': how many values and letters a reading holds, each counted each time it is reached (what is shared counts as often as it is met; a slice's spare places count too). A statement '..UptoSaid' is the law's where the arguments, and the package variables that the reading takes, are together of bulk at most 1048576: NARROWER than '..Said'. Prove '..Said' where nothing that the law and all that it calls make is longer than what came in: it says more and counts as full. Else prove '..UptoSaid'. A law counts once. -/
mutual
def uptoBulk {H : Type} : DataW H → Nat
  | .lit (.string bytes) => bytes.length + 1
  | .lit _ => 1
  | .nil => 1
  | .ptr d => uptoBulk d + 1
  | .slice elems spare => uptoBulkAll elems + uptoBulkAll spare + 1
  | .agg parts => uptoBulkAll parts + 1
  | .iface _ d => uptoBulk d + 1
  | .map entries => uptoBulkEntries entries + 1
  | .held _ => 1
def uptoBulkAll {H : Type} : List (DataW H) → Nat
  | [] => 0
  | d :: r => uptoBulk d + uptoBulkAll r
def uptoBulkEntries {H : Type} : List (Lit × DataW H) → Nat
  | [] => 0
  | x :: r => uptoBulkEntry x + uptoBulkEntries r
def uptoBulkEntry {H : Type} : Lit × DataW H → Nat
  | (.string bytes, d) => bytes.length + uptoBulk d + 1
  | (_, d) => uptoBulk d + 1
 end
def uptoSmall : (H : Type) → List (DataW H) → Bool := fun _ ds => decide (uptoBulkAll ds ≤ 1048576)
def OpenSpec.upto (s : _root_.Go.ChangeSpec) : _root_.Go.OpenSpec := { _root_.Go.OpenSpec.ofChange s with cond := some uptoSmall }

/-- 'laws.FnExactShareFood', WHERE WHAT IT READS IS OF BULK AT MOST 1048576: true; the input reads as it did. -/
def fnExactShareFoodUptoRow : OpenClaim := { program := "ytochohoihmfanaa", sum := "45c4f0a84b4beafc4803b31b5b392146eaf85de58c49bfa39767f67643c69888", func := "loop.example/g03008/laws.FnExactShareFood", spec := "fnExactShareFood", unfollowed := true, recurses := true, apart := false, narrowed := true }
def FnExactShareFoodUptoSaid : Prop := fnExactShareFoodUptoRow.holds Try.pinned (OpenSpec.upto fnExactShareFoodSpec)

/-- 'laws.FnExactShareLoad', WHERE WHAT IT READS IS OF BULK AT MOST 1048576: true; the input reads as it did. -/
def fnExactShareLoadUptoRow : OpenClaim := { program := "ytochohoihmfanaa", sum := "45c4f0a84b4beafc4803b31b5b392146eaf85de58c49bfa39767f67643c69888", func := "loop.example/g03008/laws.FnExactShareLoad", spec := "fnExactShareLoad", unfollowed := true, recurses := true, apart := false, narrowed := true }
def FnExactShareLoadUptoSaid : Prop := fnExactShareLoadUptoRow.holds Try.pinned (OpenSpec.upto fnExactShareLoadSpec)

/-- 'laws.FnExactCanCarry', WHERE WHAT IT READS IS OF BULK AT MOST 1048576: true; the input reads as it did. -/
def fnExactCanCarryUptoRow : OpenClaim := { program := "ytochohoihmfanaa", sum := "45c4f0a84b4beafc4803b31b5b392146eaf85de58c49bfa39767f67643c69888", func := "loop.example/g03008/laws.FnExactCanCarry", spec := "fnExactCanCarry", unfollowed := true, recurses := true, apart := false, narrowed := true }
def FnExactCanCarryUptoSaid : Prop := fnExactCanCarryUptoRow.holds Try.pinned (OpenSpec.upto fnExactCanCarrySpec)

/-- 'laws.FnExactCanReach', WHERE WHAT IT READS IS OF BULK AT MOST 1048576: true; the input reads as it did. -/
def fnExactCanReachUptoRow : OpenClaim := { program := "ytochohoihmfanaa", sum := "45c4f0a84b4beafc4803b31b5b392146eaf85de58c49bfa39767f67643c69888", func := "loop.example/g03008/laws.FnExactCanReach", spec := "fnExactCanReach", apart := false, narrowed := true }
def FnExactCanReachUptoSaid : Prop := fnExactCanReachUptoRow.holds Try.pinned (OpenSpec.upto fnExactCanReachSpec)

/-- 'laws.FnExactCountWeathers', WHERE WHAT IT READS IS OF BULK AT MOST 1048576: true; the input reads as it did. -/
def fnExactCountWeathersUptoRow : OpenClaim := { program := "ytochohoihmfanaa", sum := "45c4f0a84b4beafc4803b31b5b392146eaf85de58c49bfa39767f67643c69888", func := "loop.example/g03008/laws.FnExactCountWeathers", spec := "fnExactCountWeathers", unfollowed := true, recurses := true, apart := false, narrowed := true }
def FnExactCountWeathersUptoSaid : Prop := fnExactCountWeathersUptoRow.holds Try.pinned (OpenSpec.upto fnExactCountWeathersSpec)

/-- 'laws.FnExactSlowestDays', WHERE WHAT IT READS IS OF BULK AT MOST 1048576: true; the input reads as it did. -/
def fnExactSlowestDaysUptoRow : OpenClaim := { program := "ytochohoihmfanaa", sum := "45c4f0a84b4beafc4803b31b5b392146eaf85de58c49bfa39767f67643c69888", func := "loop.example/g03008/laws.FnExactSlowestDays", spec := "fnExactSlowestDays", unfollowed := true, recurses := true, apart := false, narrowed := true }
def FnExactSlowestDaysUptoSaid : Prop := fnExactSlowestDaysUptoRow.holds Try.pinned (OpenSpec.upto fnExactSlowestDaysSpec)

/-- 'laws.FnExactThatKeep', WHERE WHAT IT READS IS OF BULK AT MOST 1048576: true; the input reads as it did. -/
def fnExactThatKeepUptoRow : OpenClaim := { program := "ytochohoihmfanaa", sum := "45c4f0a84b4beafc4803b31b5b392146eaf85de58c49bfa39767f67643c69888", func := "loop.example/g03008/laws.FnExactThatKeep", spec := "fnExactThatKeep", apart := false, narrowed := true }
def FnExactThatKeepUptoSaid : Prop := fnExactThatKeepUptoRow.holds Try.pinned (OpenSpec.upto fnExactThatKeepSpec)

/-- 'laws.FnExactAtBase', WHERE WHAT IT READS IS OF BULK AT MOST 1048576: true; the input reads as it did. -/
def fnExactAtBaseUptoRow : OpenClaim := { program := "ytochohoihmfanaa", sum := "45c4f0a84b4beafc4803b31b5b392146eaf85de58c49bfa39767f67643c69888", func := "loop.example/g03008/laws.FnExactAtBase", spec := "fnExactAtBase", apart := false, narrowed := true }
def FnExactAtBaseUptoSaid : Prop := fnExactAtBaseUptoRow.holds Try.pinned (OpenSpec.upto fnExactAtBaseSpec)

/-- 'laws.FnExactEqualTreks', WHERE WHAT IT READS IS OF BULK AT MOST 1048576: true; the input reads as it did. -/
def fnExactEqualTreksUptoRow : OpenClaim := { program := "ytochohoihmfanaa", sum := "45c4f0a84b4beafc4803b31b5b392146eaf85de58c49bfa39767f67643c69888", func := "loop.example/g03008/laws.FnExactEqualTreks", spec := "fnExactEqualTreks", apart := false, narrowed := true }
def FnExactEqualTreksUptoSaid : Prop := fnExactEqualTreksUptoRow.holds Try.pinned (OpenSpec.upto fnExactEqualTreksSpec)

/-- 'laws.FnExactNothingLost', WHERE WHAT IT READS IS OF BULK AT MOST 1048576: true; the input reads as it did. -/
def fnExactNothingLostUptoRow : OpenClaim := { program := "ytochohoihmfanaa", sum := "45c4f0a84b4beafc4803b31b5b392146eaf85de58c49bfa39767f67643c69888", func := "loop.example/g03008/laws.FnExactNothingLost", spec := "fnExactNothingLost", unfollowed := true, recurses := true, apart := false, narrowed := true }
def FnExactNothingLostUptoSaid : Prop := fnExactNothingLostUptoRow.holds Try.pinned (OpenSpec.upto fnExactNothingLostSpec)

/-- 'laws.FnExactKeepsRule', WHERE WHAT IT READS IS OF BULK AT MOST 1048576: true; the input reads as it did. -/
def fnExactKeepsRuleUptoRow : OpenClaim := { program := "ytochohoihmfanaa", sum := "45c4f0a84b4beafc4803b31b5b392146eaf85de58c49bfa39767f67643c69888", func := "loop.example/g03008/laws.FnExactKeepsRule", spec := "fnExactKeepsRule", apart := false, narrowed := true }
def FnExactKeepsRuleUptoSaid : Prop := fnExactKeepsRuleUptoRow.holds Try.pinned (OpenSpec.upto fnExactKeepsRuleSpec)

end Rows
end Go.Proofs.Ytochohoihmfanaa

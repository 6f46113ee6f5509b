/-
  No cell of these rows narrows 'for every input' (looked for: loops, veiled, ifaces, maps, wideKeys, modest, calm, conditions, laid).
  DERIVED. THE GIVEN ROWS OF THIS SEAT. 13 by the template 'for every input the law returns true; each argument reads behind the call as it read before'; 0 by the template 'total and deterministic' (their statements: YtfonboleaekndaaTotals.lean).
  GIVEN WITH THE SEED: the statements are not yours to turn. If you find one false, say at which input.
  Laid BY PROGRAM, IN A SANDBOX (cutbox-rows.mjs): the forced cells as the released guide's own fill.sh prints them over the translation 3c69d71534deb259… (all of the seat's roots in one cut). By AI agents, Wed Nov 11 2026. No macro, syntax, notation, axiom, sorry.
-/
import Derived.Test.YtfonboleaekndaaChecked
import GoSem.Claim
import GoSem.ClaimJoined
import GoSem.ClaimMapViews
import Derived.JoinedTies
import Derived.KernelRfl
namespace Go.Proofs.Ytfonboleaekndaa
/- THE CELL 'sum', in the pinned program and in every row, IS THE sha256 OF THE DUMP (.gsa) THAT YtfonboleaekndaaProg.lean LOADS. Nothing in Lean hashes anything: it is a label: what it is worth is what the hold of that sum in a sandbox is worth. -/
noncomputable def Try.pinned : Pinned := { name := "ytfonboleaekndaa", sum := "3c69d71534deb2592cdf30c74624e3e936bb91d82f78d1599df9cc56e38bd4d3", checked := Try.checked }
namespace Rows
def none {H : Type} : Left H := { results := [], args := [] }

/-- 'laws.FnExactAreDepots': WHATEVER THE INPUT: true; the input reads as it did. -/
def fnExactAreDepotsSpec : ChangeSpec := { name := "fnExactAreDepots", fn := fun _ => fun
  | [d1, d2] => { results := [.lit (.bool true)], args := [d1, d2] }
  | _ => none }
def fnExactAreDepotsRow : OpenClaim := { program := "ytfonboleaekndaa", sum := "3c69d71534deb2592cdf30c74624e3e936bb91d82f78d1599df9cc56e38bd4d3", func := "loop.example/g03008/laws.FnExactAreDepots", spec := "fnExactAreDepots", apart := false }
def FnExactAreDepotsSaid : Prop := fnExactAreDepotsRow.holds Try.pinned (OpenSpec.ofChange fnExactAreDepotsSpec)

/-- ITS FALSE NEIGHBOUR: 'it returns false'. Refute it at one input. -/
def fnExactAreDepotsWrong : ChangeSpec := { name := "fnExactAreDepots", fn := fun _ => fun
  | [d1, d2] => { results := [.lit (.bool false)], args := [d1, d2] }
  | _ => none }
def FnExactAreDepotsWrongFalsely : Prop := fnExactAreDepotsRow.holds Try.pinned (OpenSpec.ofChange fnExactAreDepotsWrong)

/-- 'laws.FnExactFoodAt': WHATEVER THE INPUT: true; the input reads as it did. -/
def fnExactFoodAtSpec : ChangeSpec := { name := "fnExactFoodAt", fn := fun _ => fun
  | [d1, d2] => { results := [.lit (.bool true)], args := [d1, d2] }
  | _ => none }
def fnExactFoodAtRow : OpenClaim := { program := "ytfonboleaekndaa", sum := "3c69d71534deb2592cdf30c74624e3e936bb91d82f78d1599df9cc56e38bd4d3", func := "loop.example/g03008/laws.FnExactFoodAt", spec := "fnExactFoodAt", apart := false }
def FnExactFoodAtSaid : Prop := fnExactFoodAtRow.holds Try.pinned (OpenSpec.ofChange fnExactFoodAtSpec)

/-- ITS FALSE NEIGHBOUR: 'it returns false'. Refute it at one input. -/
def fnExactFoodAtWrong : ChangeSpec := { name := "fnExactFoodAt", fn := fun _ => fun
  | [d1, d2] => { results := [.lit (.bool false)], args := [d1, d2] }
  | _ => none }
def FnExactFoodAtWrongFalsely : Prop := fnExactFoodAtRow.holds Try.pinned (OpenSpec.ofChange fnExactFoodAtWrong)

/-- 'laws.FnExactTotalFood': WHATEVER THE INPUT: true; the input reads as it did. -/
def fnExactTotalFoodSpec : ChangeSpec := { name := "fnExactTotalFood", fn := fun _ => fun
  | [d] => { results := [.lit (.bool true)], args := [d] }
  | _ => none }
def fnExactTotalFoodRow : OpenClaim := { program := "ytfonboleaekndaa", sum := "3c69d71534deb2592cdf30c74624e3e936bb91d82f78d1599df9cc56e38bd4d3", func := "loop.example/g03008/laws.FnExactTotalFood", spec := "fnExactTotalFood", unfollowed := true, recurses := true, apart := false }
def FnExactTotalFoodSaid : Prop := fnExactTotalFoodRow.holds Try.pinned (OpenSpec.ofChange fnExactTotalFoodSpec)

/-- ITS FALSE NEIGHBOUR: 'it returns false'. Refute it at one input. -/
def fnExactTotalFoodWrong : ChangeSpec := { name := "fnExactTotalFood", fn := fun _ => fun
  | [d] => { results := [.lit (.bool false)], args := [d] }
  | _ => none }
def FnExactTotalFoodWrongFalsely : Prop := fnExactTotalFoodRow.holds Try.pinned (OpenSpec.ofChange fnExactTotalFoodWrong)

/-- 'laws.FnExactIsParty': WHATEVER THE INPUT: true; the input reads as it did. -/
def fnExactIsPartySpec : ChangeSpec := { name := "fnExactIsParty", fn := fun _ => fun
  | [d1, d2] => { results := [.lit (.bool true)], args := [d1, d2] }
  | _ => none }
def fnExactIsPartyRow : OpenClaim := { program := "ytfonboleaekndaa", sum := "3c69d71534deb2592cdf30c74624e3e936bb91d82f78d1599df9cc56e38bd4d3", func := "loop.example/g03008/laws.FnExactIsParty", spec := "fnExactIsParty", apart := false }
def FnExactIsPartySaid : Prop := fnExactIsPartyRow.holds Try.pinned (OpenSpec.ofChange fnExactIsPartySpec)

/-- ITS FALSE NEIGHBOUR: 'it returns false'. Refute it at one input. -/
def fnExactIsPartyWrong : ChangeSpec := { name := "fnExactIsParty", fn := fun _ => fun
  | [d1, d2] => { results := [.lit (.bool false)], args := [d1, d2] }
  | _ => none }
def FnExactIsPartyWrongFalsely : Prop := fnExactIsPartyRow.holds Try.pinned (OpenSpec.ofChange fnExactIsPartyWrong)

/-- 'laws.FnExactEat': WHATEVER THE INPUT: true; the input reads as it did. -/
def fnExactEatSpec : ChangeSpec := { name := "fnExactEat", fn := fun _ => fun
  | [d] => { results := [.lit (.bool true)], args := [d] }
  | _ => none }
def fnExactEatRow : OpenClaim := { program := "ytfonboleaekndaa", sum := "3c69d71534deb2592cdf30c74624e3e936bb91d82f78d1599df9cc56e38bd4d3", func := "loop.example/g03008/laws.FnExactEat", spec := "fnExactEat", unfollowed := true, recurses := true, apart := false }
def FnExactEatSaid : Prop := fnExactEatRow.holds Try.pinned (OpenSpec.ofChange fnExactEatSpec)

/-- ITS FALSE NEIGHBOUR: 'it returns false'. Refute it at one input. -/
def fnExactEatWrong : ChangeSpec := { name := "fnExactEat", fn := fun _ => fun
  | [d] => { results := [.lit (.bool false)], args := [d] }
  | _ => none }
def FnExactEatWrongFalsely : Prop := fnExactEatRow.holds Try.pinned (OpenSpec.ofChange fnExactEatWrong)

/-- 'laws.FnExactDaysOfFood': WHATEVER THE INPUT: true; the input reads as it did. -/
def fnExactDaysOfFoodSpec : ChangeSpec := { name := "fnExactDaysOfFood", fn := fun _ => fun
  | [d] => { results := [.lit (.bool true)], args := [d] }
  | _ => none }
def fnExactDaysOfFoodRow : OpenClaim := { program := "ytfonboleaekndaa", sum := "3c69d71534deb2592cdf30c74624e3e936bb91d82f78d1599df9cc56e38bd4d3", func := "loop.example/g03008/laws.FnExactDaysOfFood", spec := "fnExactDaysOfFood", unfollowed := true, recurses := true, apart := false }
def FnExactDaysOfFoodSaid : Prop := fnExactDaysOfFoodRow.holds Try.pinned (OpenSpec.ofChange fnExactDaysOfFoodSpec)

/-- ITS FALSE NEIGHBOUR: 'it returns false'. Refute it at one input. -/
def fnExactDaysOfFoodWrong : ChangeSpec := { name := "fnExactDaysOfFood", fn := fun _ => fun
  | [d] => { results := [.lit (.bool false)], args := [d] }
  | _ => none }
def FnExactDaysOfFoodWrongFalsely : Prop := fnExactDaysOfFoodRow.holds Try.pinned (OpenSpec.ofChange fnExactDaysOfFoodWrong)

/-- 'laws.FnExactRoomFor': WHATEVER THE INPUT: true; the input reads as it did. -/
def fnExactRoomForSpec : ChangeSpec := { name := "fnExactRoomFor", fn := fun _ => fun
  | [d] => { results := [.lit (.bool true)], args := [d] }
  | _ => none }
def fnExactRoomForRow : OpenClaim := { program := "ytfonboleaekndaa", sum := "3c69d71534deb2592cdf30c74624e3e936bb91d82f78d1599df9cc56e38bd4d3", func := "loop.example/g03008/laws.FnExactRoomFor", spec := "fnExactRoomFor", unfollowed := true, recurses := true, apart := false }
def FnExactRoomForSaid : Prop := fnExactRoomForRow.holds Try.pinned (OpenSpec.ofChange fnExactRoomForSpec)

/-- ITS FALSE NEIGHBOUR: 'it returns false'. Refute it at one input. -/
def fnExactRoomForWrong : ChangeSpec := { name := "fnExactRoomFor", fn := fun _ => fun
  | [d] => { results := [.lit (.bool false)], args := [d] }
  | _ => none }
def FnExactRoomForWrongFalsely : Prop := fnExactRoomForRow.holds Try.pinned (OpenSpec.ofChange fnExactRoomForWrong)

/-- 'laws.FnExactPickUp': WHATEVER THE INPUT: true; the input reads as it did. -/
def fnExactPickUpSpec : ChangeSpec := { name := "fnExactPickUp", fn := fun _ => fun
  | [d1, d2] => { results := [.lit (.bool true)], args := [d1, d2] }
  | _ => none }
def fnExactPickUpRow : OpenClaim := { program := "ytfonboleaekndaa", sum := "3c69d71534deb2592cdf30c74624e3e936bb91d82f78d1599df9cc56e38bd4d3", func := "loop.example/g03008/laws.FnExactPickUp", spec := "fnExactPickUp", unfollowed := true, recurses := true, apart := false }
def FnExactPickUpSaid : Prop := fnExactPickUpRow.holds Try.pinned (OpenSpec.ofChange fnExactPickUpSpec)

/-- ITS FALSE NEIGHBOUR: 'it returns false'. Refute it at one input. -/
def fnExactPickUpWrong : ChangeSpec := { name := "fnExactPickUp", fn := fun _ => fun
  | [d1, d2] => { results := [.lit (.bool false)], args := [d1, d2] }
  | _ => none }
def FnExactPickUpWrongFalsely : Prop := fnExactPickUpRow.holds Try.pinned (OpenSpec.ofChange fnExactPickUpWrong)

/-- 'laws.FnExactEqualParties': WHATEVER THE INPUT: true; the input reads as it did. -/
def fnExactEqualPartiesSpec : ChangeSpec := { name := "fnExactEqualParties", fn := fun _ => fun
  | [d1, d2] => { results := [.lit (.bool true)], args := [d1, d2] }
  | _ => none }
def fnExactEqualPartiesRow : OpenClaim := { program := "ytfonboleaekndaa", sum := "3c69d71534deb2592cdf30c74624e3e936bb91d82f78d1599df9cc56e38bd4d3", func := "loop.example/g03008/laws.FnExactEqualParties", spec := "fnExactEqualParties", apart := false }
def FnExactEqualPartiesSaid : Prop := fnExactEqualPartiesRow.holds Try.pinned (OpenSpec.ofChange fnExactEqualPartiesSpec)

/-- ITS FALSE NEIGHBOUR: 'it returns false'. Refute it at one input. -/
def fnExactEqualPartiesWrong : ChangeSpec := { name := "fnExactEqualParties", fn := fun _ => fun
  | [d1, d2] => { results := [.lit (.bool false)], args := [d1, d2] }
  | _ => none }
def FnExactEqualPartiesWrongFalsely : Prop := fnExactEqualPartiesRow.holds Try.pinned (OpenSpec.ofChange fnExactEqualPartiesWrong)

/-- 'laws.FnDepots': WHATEVER THE INPUT: true; the input reads as it did. -/
def fnDepotsSpec : ChangeSpec := { name := "fnDepots", fn := fun _ => fun
  | [d] => { results := [.lit (.bool true)], args := [d] }
  | _ => none }
def fnDepotsRow : OpenClaim := { program := "ytfonboleaekndaa", sum := "3c69d71534deb2592cdf30c74624e3e936bb91d82f78d1599df9cc56e38bd4d3", func := "loop.example/g03008/laws.FnDepots", spec := "fnDepots", unfollowed := true, recurses := true, apart := false }
def FnDepotsSaid : Prop := fnDepotsRow.holds Try.pinned (OpenSpec.ofChange fnDepotsSpec)

/-- ITS FALSE NEIGHBOUR: 'it returns false'. Refute it at one input. -/
def fnDepotsWrong : ChangeSpec := { name := "fnDepots", fn := fun _ => fun
  | [d] => { results := [.lit (.bool false)], args := [d] }
  | _ => none }
def FnDepotsWrongFalsely : Prop := fnDepotsRow.holds Try.pinned (OpenSpec.ofChange fnDepotsWrong)

/-- 'laws.FnParties': WHATEVER THE INPUT: true; the input reads as it did. -/
def fnPartiesSpec : ChangeSpec := { name := "fnParties", fn := fun _ => fun
  | [d] => { results := [.lit (.bool true)], args := [d] }
  | _ => none }
def fnPartiesRow : OpenClaim := { program := "ytfonboleaekndaa", sum := "3c69d71534deb2592cdf30c74624e3e936bb91d82f78d1599df9cc56e38bd4d3", func := "loop.example/g03008/laws.FnParties", spec := "fnParties", unfollowed := true, recurses := true, apart := false }
def FnPartiesSaid : Prop := fnPartiesRow.holds Try.pinned (OpenSpec.ofChange fnPartiesSpec)

/-- ITS FALSE NEIGHBOUR: 'it returns false'. Refute it at one input. -/
def fnPartiesWrong : ChangeSpec := { name := "fnParties", fn := fun _ => fun
  | [d] => { results := [.lit (.bool false)], args := [d] }
  | _ => none }
def FnPartiesWrongFalsely : Prop := fnPartiesRow.holds Try.pinned (OpenSpec.ofChange fnPartiesWrong)

/-- 'laws.FnExactLay': WHATEVER THE INPUT: true; the input reads as it did. -/
def fnExactLaySpec : ChangeSpec := { name := "fnExactLay", fn := fun _ => fun
  | [d1, d2, d3, d4] => { results := [.lit (.bool true)], args := [d1, d2, d3, d4] }
  | _ => none }
def fnExactLayRow : OpenClaim := { program := "ytfonboleaekndaa", sum := "3c69d71534deb2592cdf30c74624e3e936bb91d82f78d1599df9cc56e38bd4d3", func := "loop.example/g03008/laws.FnExactLay", spec := "fnExactLay", unfollowed := true, recurses := true, apart := false }
def FnExactLaySaid : Prop := fnExactLayRow.holds Try.pinned (OpenSpec.ofChange fnExactLaySpec)

/-- ITS FALSE NEIGHBOUR: 'it returns false'. Refute it at one input. -/
def fnExactLayWrong : ChangeSpec := { name := "fnExactLay", fn := fun _ => fun
  | [d1, d2, d3, d4] => { results := [.lit (.bool false)], args := [d1, d2, d3, d4] }
  | _ => none }
def FnExactLayWrongFalsely : Prop := fnExactLayRow.holds Try.pinned (OpenSpec.ofChange fnExactLayWrong)

/-- 'laws.FnExactTake': WHATEVER THE INPUT: true; the input reads as it did. -/
def fnExactTakeSpec : ChangeSpec := { name := "fnExactTake", fn := fun _ => fun
  | [d1, d2, d3, d4] => { results := [.lit (.bool true)], args := [d1, d2, d3, d4] }
  | _ => none }
def fnExactTakeRow : OpenClaim := { program := "ytfonboleaekndaa", sum := "3c69d71534deb2592cdf30c74624e3e936bb91d82f78d1599df9cc56e38bd4d3", func := "loop.example/g03008/laws.FnExactTake", spec := "fnExactTake", unfollowed := true, recurses := true, apart := false }
def FnExactTakeSaid : Prop := fnExactTakeRow.holds Try.pinned (OpenSpec.ofChange fnExactTakeSpec)

/-- ITS FALSE NEIGHBOUR: 'it returns false'. Refute it at one input. -/
def fnExactTakeWrong : ChangeSpec := { name := "fnExactTake", fn := fun _ => fun
  | [d1, d2, d3, d4] => { results := [.lit (.bool false)], args := [d1, d2, d3, d4] }
  | _ => none }
def FnExactTakeWrongFalsely : Prop := fnExactTakeRow.holds Try.pinned (OpenSpec.ofChange fnExactTakeWrong)

/- THE SECOND FORM. 'bulk': how many values and letters a reading holds, each counted each time it is reached (what is shared counts as often as it is met; a slice's spare places count too). A statement '..UptoSaid' is the law's where the arguments, and the package variables that the reading takes, are together of bulk at most 1048576: NARROWER than '..Said'. Prove '..Said' where nothing that the law and all that it calls make is longer than what came in: it says more and counts as full. Else prove '..UptoSaid'. A law counts once. -/
mutual
def uptoBulk {H : Type} : DataW H → Nat
  | .lit (.string bytes) => bytes.length + 1
  | .lit _ => 1
  | .nil => 1
  | .ptr d => uptoBulk d + 1
  | .slice elems spare => uptoBulkAll elems + uptoBulkAll spare + 1
  | .agg parts => uptoBulkAll parts + 1
  | .iface _ d => uptoBulk d + 1
  | .map entries => uptoBulkEntries entries + 1
  | .held _ => 1
def uptoBulkAll {H : Type} : List (DataW H) → Nat
  | [] => 0
  | d :: r => uptoBulk d + uptoBulkAll r
def uptoBulkEntries {H : Type} : List (Lit × DataW H) → Nat
  | [] => 0
  | x :: r => uptoBulkEntry x + uptoBulkEntries r
def uptoBulkEntry {H : Type} : Lit × DataW H → Nat
  | (.string bytes, d) => bytes.length + uptoBulk d + 1
  | (_, d) => uptoBulk d + 1
 end
def uptoSmall : (H : Type) → List (DataW H) → Bool := fun _ ds => decide (uptoBulkAll ds ≤ 1048576)
def OpenSpec.upto (s : _root_.Go.ChangeSpec) : _root_.Go.OpenSpec := { _root_.Go.OpenSpec.ofChange s with cond := some uptoSmall }

/-- 'laws.FnExactAreDepots', WHERE WHAT IT READS IS OF BULK AT MOST 1048576: true; the input reads as it did. -/
def fnExactAreDepotsUptoRow : OpenClaim := { program := "ytfonboleaekndaa", sum := "3c69d71534deb2592cdf30c74624e3e936bb91d82f78d1599df9cc56e38bd4d3", func := "loop.example/g03008/laws.FnExactAreDepots", spec := "fnExactAreDepots", apart := false, narrowed := true }
def FnExactAreDepotsUptoSaid : Prop := fnExactAreDepotsUptoRow.holds Try.pinned (OpenSpec.upto fnExactAreDepotsSpec)

/-- 'laws.FnExactFoodAt', WHERE WHAT IT READS IS OF BULK AT MOST 1048576: true; the input reads as it did. -/
def fnExactFoodAtUptoRow : OpenClaim := { program := "ytfonboleaekndaa", sum := "3c69d71534deb2592cdf30c74624e3e936bb91d82f78d1599df9cc56e38bd4d3", func := "loop.example/g03008/laws.FnExactFoodAt", spec := "fnExactFoodAt", apart := false, narrowed := true }
def FnExactFoodAtUptoSaid : Prop := fnExactFoodAtUptoRow.holds Try.pinned (OpenSpec.upto fnExactFoodAtSpec)

/-- 'laws.FnExactTotalFood', WHERE WHAT IT READS IS OF BULK AT MOST 1048576: true; the input reads as it did. -/
def fnExactTotalFoodUptoRow : OpenClaim := { program := "ytfonboleaekndaa", sum := "3c69d71534deb2592cdf30c74624e3e936bb91d82f78d1599df9cc56e38bd4d3", func := "loop.example/g03008/laws.FnExactTotalFood", spec := "fnExactTotalFood", unfollowed := true, recurses := true, apart := false, narrowed := true }
def FnExactTotalFoodUptoSaid : Prop := fnExactTotalFoodUptoRow.holds Try.pinned (OpenSpec.upto fnExactTotalFoodSpec)

/-- 'laws.FnExactIsParty', WHERE WHAT IT READS IS OF BULK AT MOST 1048576: true; the input reads as it did. -/
def fnExactIsPartyUptoRow : OpenClaim := { program := "ytfonboleaekndaa", sum := "3c69d71534deb2592cdf30c74624e3e936bb91d82f78d1599df9cc56e38bd4d3", func := "loop.example/g03008/laws.FnExactIsParty", spec := "fnExactIsParty", apart := false, narrowed := true }
def FnExactIsPartyUptoSaid : Prop := fnExactIsPartyUptoRow.holds Try.pinned (OpenSpec.upto fnExactIsPartySpec)

/-- 'laws.FnExactEat', WHERE WHAT IT READS IS OF BULK AT MOST 1048576: true; the input reads as it did. -/
def fnExactEatUptoRow : OpenClaim := { program := "ytfonboleaekndaa", sum := "3c69d71534deb2592cdf30c74624e3e936bb91d82f78d1599df9cc56e38bd4d3", func := "loop.example/g03008/laws.FnExactEat", spec := "fnExactEat", unfollowed := true, recurses := true, apart := false, narrowed := true }
def FnExactEatUptoSaid : Prop := fnExactEatUptoRow.holds Try.pinned (OpenSpec.upto fnExactEatSpec)

/-- 'laws.FnExactDaysOfFood', WHERE WHAT IT READS IS OF BULK AT MOST 1048576: true; the input reads as it did. -/
def fnExactDaysOfFoodUptoRow : OpenClaim := { program := "ytfonboleaekndaa", sum := "3c69d71534deb2592cdf30c74624e3e936bb91d82f78d1599df9cc56e38bd4d3", func := "loop.example/g03008/laws.FnExactDaysOfFood", spec := "fnExactDaysOfFood", unfollowed := true, recurses := true, apart := false, narrowed := true }
def FnExactDaysOfFoodUptoSaid : Prop := fnExactDaysOfFoodUptoRow.holds Try.pinned (OpenSpec.upto fnExactDaysOfFoodSpec)

/-- 'laws.FnExactRoomFor', WHERE WHAT IT READS IS OF BULK AT MOST 1048576: true; the input reads as it did. -/
def fnExactRoomForUptoRow : OpenClaim := { program := "ytfonboleaekndaa", sum := "3c69d71534deb2592cdf30c74624e3e936bb91d82f78d1599df9cc56e38bd4d3", func := "loop.example/g03008/laws.FnExactRoomFor", spec := "fnExactRoomFor", unfollowed := true, recurses := true, apart := false, narrowed := true }
def FnExactRoomForUptoSaid : Prop := fnExactRoomForUptoRow.holds Try.pinned (OpenSpec.upto fnExactRoomForSpec)

/-- 'laws.FnExactPickUp', WHERE WHAT IT READS IS OF BULK AT MOST 1048576: true; the input reads as it did. -/
def fnExactPickUpUptoRow : OpenClaim := { program := "ytfonboleaekndaa", sum := "3c69d71534deb2592cdf30c74624e3e936bb91d82f78d1599df9cc56e38bd4d3", func := "loop.example/g03008/laws.FnExactPickUp", spec := "fnExactPickUp", unfollowed := true, recurses := true, apart := false, narrowed := true }
def FnExactPickUpUptoSaid : Prop := fnExactPickUpUptoRow.holds Try.pinned (OpenSpec.upto fnExactPickUpSpec)

/-- 'laws.FnExactEqualParties', WHERE WHAT IT READS IS OF BULK AT MOST 1048576: true; the input reads as it did. -/
def fnExactEqualPartiesUptoRow : OpenClaim := { program := "ytfonboleaekndaa", sum := "3c69d71534deb2592cdf30c74624e3e936bb91d82f78d1599df9cc56e38bd4d3", func := "loop.example/g03008/laws.FnExactEqualParties", spec := "fnExactEqualParties", apart := false, narrowed := true }
def FnExactEqualPartiesUptoSaid : Prop := fnExactEqualPartiesUptoRow.holds Try.pinned (OpenSpec.upto fnExactEqualPartiesSpec)

/-- 'laws.FnDepots', WHERE WHAT IT READS IS OF BULK AT MOST 1048576: true; the input reads as it did. -/
def fnDepotsUptoRow : OpenClaim := { program := "ytfonboleaekndaa", sum := "3c69d71534deb2592cdf30c74624e3e936bb91d82f78d1599df9cc56e38bd4d3", func := "loop.example/g03008/laws.FnDepots", spec := "fnDepots", unfollowed := true, recurses := true, apart := false, narrowed := true }
def FnDepotsUptoSaid : Prop := fnDepotsUptoRow.holds Try.pinned (OpenSpec.upto fnDepotsSpec)

/-- 'laws.FnParties', WHERE WHAT IT READS IS OF BULK AT MOST 1048576: true; the input reads as it did. -/
def fnPartiesUptoRow : OpenClaim := { program := "ytfonboleaekndaa", sum := "3c69d71534deb2592cdf30c74624e3e936bb91d82f78d1599df9cc56e38bd4d3", func := "loop.example/g03008/laws.FnParties", spec := "fnParties", unfollowed := true, recurses := true, apart := false, narrowed := true }
def FnPartiesUptoSaid : Prop := fnPartiesUptoRow.holds Try.pinned (OpenSpec.upto fnPartiesSpec)

/-- 'laws.FnExactLay', WHERE WHAT IT READS IS OF BULK AT MOST 1048576: true; the input reads as it did. -/
def fnExactLayUptoRow : OpenClaim := { program := "ytfonboleaekndaa", sum := "3c69d71534deb2592cdf30c74624e3e936bb91d82f78d1599df9cc56e38bd4d3", func := "loop.example/g03008/laws.FnExactLay", spec := "fnExactLay", unfollowed := true, recurses := true, apart := false, narrowed := true }
def FnExactLayUptoSaid : Prop := fnExactLayUptoRow.holds Try.pinned (OpenSpec.upto fnExactLaySpec)

/-- 'laws.FnExactTake', WHERE WHAT IT READS IS OF BULK AT MOST 1048576: true; the input reads as it did. -/
def fnExactTakeUptoRow : OpenClaim := { program := "ytfonboleaekndaa", sum := "3c69d71534deb2592cdf30c74624e3e936bb91d82f78d1599df9cc56e38bd4d3", func := "loop.example/g03008/laws.FnExactTake", spec := "fnExactTake", unfollowed := true, recurses := true, apart := false, narrowed := true }
def FnExactTakeUptoSaid : Prop := fnExactTakeUptoRow.holds Try.pinned (OpenSpec.upto fnExactTakeSpec)

end Rows
end Go.Proofs.Ytfonboleaekndaa

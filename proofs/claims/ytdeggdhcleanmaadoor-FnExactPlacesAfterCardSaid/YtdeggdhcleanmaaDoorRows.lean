/-
  NARROWER THAN 'FOR EVERY INPUT', by the rows' own cells (each row's printed sentence says how): FnExactVisited: laid · FnExactCanBe: laid · FnExactSeen: laid · FnExactPlacesAfter: laid · FnExactAreTents: laid · FnExactPutUp: laid · FnExactTentOf: laid · FnExactBedsFree: laid · FnExactMoveTo: laid.
  DERIVED. THE GIVEN ROWS OF THIS SEAT. 9 by the template 'for every input the law returns true; each argument reads behind the call as it read before'; 0 by the template 'total and deterministic' (their statements: YtdeggdhcleanmaaDoorTotals.lean).
  GIVEN WITH THE SEED: the statements are not yours to turn. If you find one false, say at which input.
  Laid BY PROGRAM, IN A SANDBOX (cutbox-rows.mjs): the forced cells as the released guide's own fill.sh prints them over the translation 1aaef297838df606… (all of the seat's roots in one cut). By AI agents, Wed Nov 11 2026. No macro, syntax, notation, axiom, sorry.
-/
import Derived.Test.YtdeggdhcleanmaaDoorChecked
import GoSem.Claim
import GoSem.ClaimJoined
import GoSem.ClaimMapViews
import Derived.JoinedTies
import Derived.KernelRfl
namespace Go.Proofs.YtdeggdhcleanmaaDoor
/- THE CELL 'sum', in the pinned program and in every row, IS THE sha256 OF THE DUMP (.gsa) THAT YtdeggdhcleanmaaDoorProg.lean LOADS. Nothing in Lean hashes anything: it is a label: what it is worth is what the hold of that sum in a sandbox is worth. -/
noncomputable def Tryd.pinned : Pinned := { name := "ytdeggdhcleanmaadoor", sum := "1aaef297838df606e097f51fbe4ec6a0bb4f45814bdcc7cf68930741e9d26981", checked := Tryd.checked }
namespace Rows
def none {H : Type} : Left H := { results := [], args := [] }

/- WHAT THE LISTED PACKAGE-LEVEL VARIABLES READ AS WHEN THE CALL BEGINS. Each datum BY PROGRAM (the guide's laid-datum.mjs) off the statement by which the dump's own 'gosem.cut.vars' lays the variable. In a bare row this is a premise. The card (YtdeggdhcleanmaaDoorCards.lean) ties it to the program's text. -/
def laid_math_bits_deBruijn64tab {H : Type} : DataW H := .agg [.lit (.int .u8 0), .lit (.int .u8 1), .lit (.int .u8 56), .lit (.int .u8 2), .lit (.int .u8 57), .lit (.int .u8 49), .lit (.int .u8 28), .lit (.int .u8 3), .lit (.int .u8 61), .lit (.int .u8 58), .lit (.int .u8 42), .lit (.int .u8 50), .lit (.int .u8 38), .lit (.int .u8 29), .lit (.int .u8 17), .lit (.int .u8 4), .lit (.int .u8 62), .lit (.int .u8 47), .lit (.int .u8 59), .lit (.int .u8 36), .lit (.int .u8 45), .lit (.int .u8 43), .lit (.int .u8 51), .lit (.int .u8 22), .lit (.int .u8 53), .lit (.int .u8 39), .lit (.int .u8 33), .lit (.int .u8 30), .lit (.int .u8 24), .lit (.int .u8 18), .lit (.int .u8 12), .lit (.int .u8 5), .lit (.int .u8 63), .lit (.int .u8 55), .lit (.int .u8 48), .lit (.int .u8 27), .lit (.int .u8 60), .lit (.int .u8 41), .lit (.int .u8 37), .lit (.int .u8 16), .lit (.int .u8 46), .lit (.int .u8 35), .lit (.int .u8 44), .lit (.int .u8 21), .lit (.int .u8 52), .lit (.int .u8 32), .lit (.int .u8 23), .lit (.int .u8 11), .lit (.int .u8 54), .lit (.int .u8 26), .lit (.int .u8 40), .lit (.int .u8 15), .lit (.int .u8 34), .lit (.int .u8 20), .lit (.int .u8 31), .lit (.int .u8 10), .lit (.int .u8 25), .lit (.int .u8 14), .lit (.int .u8 19), .lit (.int .u8 9), .lit (.int .u8 13), .lit (.int .u8 8), .lit (.int .u8 7), .lit (.int .u8 6)]
def laid_loop_example_g03008_impl_noBed {H : Type} : DataW H := .agg [.lit (.int .i64 (-1)), .lit (.int .i64 (-1))]

/-- 'laws.FnExactVisited': WHATEVER THE INPUT: true; the input reads as it did. -/
def fnExactVisitedSpec : ChangeSpec := { name := "fnExactVisited", fn := fun _ => fun
  | [d] => { results := [.lit (.bool true)], args := [d] }
  | _ => none }
def fnExactVisitedRow : OpenClaim := { program := "ytdeggdhcleanmaadoor", sum := "1aaef297838df606e097f51fbe4ec6a0bb4f45814bdcc7cf68930741e9d26981", func := "loop.example/g03008/laws.FnExactVisited", spec := "fnExactVisited", named := ["math/bits.deBruijn64tab"], apart := false, laid := [("math/bits.deBruijn64tab", laid_math_bits_deBruijn64tab)] }
def FnExactVisitedSaid : Prop := fnExactVisitedRow.holds Tryd.pinned (OpenSpec.ofChange fnExactVisitedSpec)

/-- ITS FALSE NEIGHBOUR: 'it returns false'. Refute it at one input. -/
def fnExactVisitedWrong : ChangeSpec := { name := "fnExactVisited", fn := fun _ => fun
  | [d] => { results := [.lit (.bool false)], args := [d] }
  | _ => none }
def FnExactVisitedWrongFalsely : Prop := fnExactVisitedRow.holds Tryd.pinned (OpenSpec.ofChange fnExactVisitedWrong)

/-- 'laws.FnExactCanBe': WHATEVER THE INPUT: true; the input reads as it did. -/
def fnExactCanBeSpec : ChangeSpec := { name := "fnExactCanBe", fn := fun _ => fun
  | [d1, d2, d3] => { results := [.lit (.bool true)], args := [d1, d2, d3] }
  | _ => none }
def fnExactCanBeRow : OpenClaim := { program := "ytdeggdhcleanmaadoor", sum := "1aaef297838df606e097f51fbe4ec6a0bb4f45814bdcc7cf68930741e9d26981", func := "loop.example/g03008/laws.FnExactCanBe", spec := "fnExactCanBe", unfollowed := true, recurses := true, named := ["math/bits.deBruijn64tab"], apart := false, laid := [("math/bits.deBruijn64tab", laid_math_bits_deBruijn64tab)] }
def FnExactCanBeSaid : Prop := fnExactCanBeRow.holds Tryd.pinned (OpenSpec.ofChange fnExactCanBeSpec)

/-- ITS FALSE NEIGHBOUR: 'it returns false'. Refute it at one input. -/
def fnExactCanBeWrong : ChangeSpec := { name := "fnExactCanBe", fn := fun _ => fun
  | [d1, d2, d3] => { results := [.lit (.bool false)], args := [d1, d2, d3] }
  | _ => none }
def FnExactCanBeWrongFalsely : Prop := fnExactCanBeRow.holds Tryd.pinned (OpenSpec.ofChange fnExactCanBeWrong)

/-- 'laws.FnExactSeen': WHATEVER THE INPUT: true; the input reads as it did. -/
def fnExactSeenSpec : ChangeSpec := { name := "fnExactSeen", fn := fun _ => fun
  | [d1, d2, d3] => { results := [.lit (.bool true)], args := [d1, d2, d3] }
  | _ => none }
def fnExactSeenRow : OpenClaim := { program := "ytdeggdhcleanmaadoor", sum := "1aaef297838df606e097f51fbe4ec6a0bb4f45814bdcc7cf68930741e9d26981", func := "loop.example/g03008/laws.FnExactSeen", spec := "fnExactSeen", unfollowed := true, recurses := true, named := ["math/bits.deBruijn64tab"], apart := false, laid := [("math/bits.deBruijn64tab", laid_math_bits_deBruijn64tab)] }
def FnExactSeenSaid : Prop := fnExactSeenRow.holds Tryd.pinned (OpenSpec.ofChange fnExactSeenSpec)

/-- ITS FALSE NEIGHBOUR: 'it returns false'. Refute it at one input. -/
def fnExactSeenWrong : ChangeSpec := { name := "fnExactSeen", fn := fun _ => fun
  | [d1, d2, d3] => { results := [.lit (.bool false)], args := [d1, d2, d3] }
  | _ => none }
def FnExactSeenWrongFalsely : Prop := fnExactSeenRow.holds Tryd.pinned (OpenSpec.ofChange fnExactSeenWrong)

/-- 'laws.FnExactPlacesAfter': WHATEVER THE INPUT: true; the input reads as it did. -/
def fnExactPlacesAfterSpec : ChangeSpec := { name := "fnExactPlacesAfter", fn := fun _ => fun
  | [d1, d2, d3, d4, d5] => { results := [.lit (.bool true)], args := [d1, d2, d3, d4, d5] }
  | _ => none }
def fnExactPlacesAfterRow : OpenClaim := { program := "ytdeggdhcleanmaadoor", sum := "1aaef297838df606e097f51fbe4ec6a0bb4f45814bdcc7cf68930741e9d26981", func := "loop.example/g03008/laws.FnExactPlacesAfter", spec := "fnExactPlacesAfter", unfollowed := true, recurses := true, named := ["math/bits.deBruijn64tab"], apart := false, laid := [("math/bits.deBruijn64tab", laid_math_bits_deBruijn64tab)] }
def FnExactPlacesAfterSaid : Prop := fnExactPlacesAfterRow.holds Tryd.pinned (OpenSpec.ofChange fnExactPlacesAfterSpec)

/-- ITS FALSE NEIGHBOUR: 'it returns false'. Refute it at one input. -/
def fnExactPlacesAfterWrong : ChangeSpec := { name := "fnExactPlacesAfter", fn := fun _ => fun
  | [d1, d2, d3, d4, d5] => { results := [.lit (.bool false)], args := [d1, d2, d3, d4, d5] }
  | _ => none }
def FnExactPlacesAfterWrongFalsely : Prop := fnExactPlacesAfterRow.holds Tryd.pinned (OpenSpec.ofChange fnExactPlacesAfterWrong)

/-- 'laws.FnExactAreTents': WHATEVER THE INPUT: true; the input reads as it did. -/
def fnExactAreTentsSpec : ChangeSpec := { name := "fnExactAreTents", vars := ["loop.example/g03008/impl.noBed"], fn := fun _ => fun
  | [d, g1] => { results := [.lit (.bool true)], args := [d], vars := [g1] }
  | _ => none }
def fnExactAreTentsRow : OpenClaim := { program := "ytdeggdhcleanmaadoor", sum := "1aaef297838df606e097f51fbe4ec6a0bb4f45814bdcc7cf68930741e9d26981", func := "loop.example/g03008/laws.FnExactAreTents", spec := "fnExactAreTents", named := ["loop.example/g03008/impl.noBed"], apart := false, laid := [("loop.example/g03008/impl.noBed", laid_loop_example_g03008_impl_noBed)] }
def FnExactAreTentsSaid : Prop := fnExactAreTentsRow.holds Tryd.pinned (OpenSpec.ofChange fnExactAreTentsSpec)

/-- ITS FALSE NEIGHBOUR: 'it returns false'. Refute it at one input. -/
def fnExactAreTentsWrong : ChangeSpec := { name := "fnExactAreTents", vars := ["loop.example/g03008/impl.noBed"], fn := fun _ => fun
  | [d, g1] => { results := [.lit (.bool false)], args := [d], vars := [g1] }
  | _ => none }
def FnExactAreTentsWrongFalsely : Prop := fnExactAreTentsRow.holds Tryd.pinned (OpenSpec.ofChange fnExactAreTentsWrong)

/-- 'laws.FnExactPutUp': WHATEVER THE INPUT: true; the input reads as it did. -/
def fnExactPutUpSpec : ChangeSpec := { name := "fnExactPutUp", vars := ["loop.example/g03008/impl.noBed"], fn := fun _ => fun
  | [d1, d2, g1] => { results := [.lit (.bool true)], args := [d1, d2], vars := [g1] }
  | _ => none }
def fnExactPutUpRow : OpenClaim := { program := "ytdeggdhcleanmaadoor", sum := "1aaef297838df606e097f51fbe4ec6a0bb4f45814bdcc7cf68930741e9d26981", func := "loop.example/g03008/laws.FnExactPutUp", spec := "fnExactPutUp", unfollowed := true, recurses := true, named := ["loop.example/g03008/impl.noBed"], apart := false, laid := [("loop.example/g03008/impl.noBed", laid_loop_example_g03008_impl_noBed)] }
def FnExactPutUpSaid : Prop := fnExactPutUpRow.holds Tryd.pinned (OpenSpec.ofChange fnExactPutUpSpec)

/-- ITS FALSE NEIGHBOUR: 'it returns false'. Refute it at one input. -/
def fnExactPutUpWrong : ChangeSpec := { name := "fnExactPutUp", vars := ["loop.example/g03008/impl.noBed"], fn := fun _ => fun
  | [d1, d2, g1] => { results := [.lit (.bool false)], args := [d1, d2], vars := [g1] }
  | _ => none }
def FnExactPutUpWrongFalsely : Prop := fnExactPutUpRow.holds Tryd.pinned (OpenSpec.ofChange fnExactPutUpWrong)

/-- 'laws.FnExactTentOf': WHATEVER THE INPUT: true; the input reads as it did. -/
def fnExactTentOfSpec : ChangeSpec := { name := "fnExactTentOf", vars := ["loop.example/g03008/impl.noBed"], fn := fun _ => fun
  | [d1, d2, g1] => { results := [.lit (.bool true)], args := [d1, d2], vars := [g1] }
  | _ => none }
def fnExactTentOfRow : OpenClaim := { program := "ytdeggdhcleanmaadoor", sum := "1aaef297838df606e097f51fbe4ec6a0bb4f45814bdcc7cf68930741e9d26981", func := "loop.example/g03008/laws.FnExactTentOf", spec := "fnExactTentOf", named := ["loop.example/g03008/impl.noBed"], apart := false, laid := [("loop.example/g03008/impl.noBed", laid_loop_example_g03008_impl_noBed)] }
def FnExactTentOfSaid : Prop := fnExactTentOfRow.holds Tryd.pinned (OpenSpec.ofChange fnExactTentOfSpec)

/-- ITS FALSE NEIGHBOUR: 'it returns false'. Refute it at one input. -/
def fnExactTentOfWrong : ChangeSpec := { name := "fnExactTentOf", vars := ["loop.example/g03008/impl.noBed"], fn := fun _ => fun
  | [d1, d2, g1] => { results := [.lit (.bool false)], args := [d1, d2], vars := [g1] }
  | _ => none }
def FnExactTentOfWrongFalsely : Prop := fnExactTentOfRow.holds Tryd.pinned (OpenSpec.ofChange fnExactTentOfWrong)

/-- 'laws.FnExactBedsFree': WHATEVER THE INPUT: true; the input reads as it did. -/
def fnExactBedsFreeSpec : ChangeSpec := { name := "fnExactBedsFree", vars := ["loop.example/g03008/impl.noBed"], fn := fun _ => fun
  | [d, g1] => { results := [.lit (.bool true)], args := [d], vars := [g1] }
  | _ => none }
def fnExactBedsFreeRow : OpenClaim := { program := "ytdeggdhcleanmaadoor", sum := "1aaef297838df606e097f51fbe4ec6a0bb4f45814bdcc7cf68930741e9d26981", func := "loop.example/g03008/laws.FnExactBedsFree", spec := "fnExactBedsFree", named := ["loop.example/g03008/impl.noBed"], apart := false, laid := [("loop.example/g03008/impl.noBed", laid_loop_example_g03008_impl_noBed)] }
def FnExactBedsFreeSaid : Prop := fnExactBedsFreeRow.holds Tryd.pinned (OpenSpec.ofChange fnExactBedsFreeSpec)

/-- ITS FALSE NEIGHBOUR: 'it returns false'. Refute it at one input. -/
def fnExactBedsFreeWrong : ChangeSpec := { name := "fnExactBedsFree", vars := ["loop.example/g03008/impl.noBed"], fn := fun _ => fun
  | [d, g1] => { results := [.lit (.bool false)], args := [d], vars := [g1] }
  | _ => none }
def FnExactBedsFreeWrongFalsely : Prop := fnExactBedsFreeRow.holds Tryd.pinned (OpenSpec.ofChange fnExactBedsFreeWrong)

/-- 'laws.FnExactMoveTo': WHATEVER THE INPUT: true; the input reads as it did. -/
def fnExactMoveToSpec : ChangeSpec := { name := "fnExactMoveTo", vars := ["loop.example/g03008/impl.noBed"], fn := fun _ => fun
  | [d1, d2, d3, g1] => { results := [.lit (.bool true)], args := [d1, d2, d3], vars := [g1] }
  | _ => none }
def fnExactMoveToRow : OpenClaim := { program := "ytdeggdhcleanmaadoor", sum := "1aaef297838df606e097f51fbe4ec6a0bb4f45814bdcc7cf68930741e9d26981", func := "loop.example/g03008/laws.FnExactMoveTo", spec := "fnExactMoveTo", unfollowed := true, recurses := true, named := ["loop.example/g03008/impl.noBed"], apart := false, laid := [("loop.example/g03008/impl.noBed", laid_loop_example_g03008_impl_noBed)] }
def FnExactMoveToSaid : Prop := fnExactMoveToRow.holds Tryd.pinned (OpenSpec.ofChange fnExactMoveToSpec)

/-- ITS FALSE NEIGHBOUR: 'it returns false'. Refute it at one input. -/
def fnExactMoveToWrong : ChangeSpec := { name := "fnExactMoveTo", vars := ["loop.example/g03008/impl.noBed"], fn := fun _ => fun
  | [d1, d2, d3, g1] => { results := [.lit (.bool false)], args := [d1, d2, d3], vars := [g1] }
  | _ => none }
def FnExactMoveToWrongFalsely : Prop := fnExactMoveToRow.holds Tryd.pinned (OpenSpec.ofChange fnExactMoveToWrong)

/- THE SECOND FORM. 'bulk': how many values and letters a reading holds, each counted each time it is reached (what is shared counts as often as it is met; a slice's spare places count too). A statement '..UptoSaid' is the law's where the arguments, and the package variables that the reading takes, are together of bulk at most 1048576: NARROWER than '..Said'. Prove '..Said' where nothing that the law and all that it calls make is longer than what came in: it says more and counts as full. Else prove '..UptoSaid'. A law counts once. -/
mutual
def uptoBulk {H : Type} : DataW H → Nat
  | .lit (.string bytes) => bytes.length + 1
  | .lit _ => 1
  | .nil => 1
  | .ptr d => uptoBulk d + 1
  | .slice elems spare => uptoBulkAll elems + uptoBulkAll spare + 1
  | .agg parts => uptoBulkAll parts + 1
  | .iface _ d => uptoBulk d + 1
  | .map entries => uptoBulkEntries entries + 1
  | .held _ => 1
def uptoBulkAll {H : Type} : List (DataW H) → Nat
  | [] => 0
  | d :: r => uptoBulk d + uptoBulkAll r
def uptoBulkEntries {H : Type} : List (Lit × DataW H) → Nat
  | [] => 0
  | x :: r => uptoBulkEntry x + uptoBulkEntries r
def uptoBulkEntry {H : Type} : Lit × DataW H → Nat
  | (.string bytes, d) => bytes.length + uptoBulk d + 1
  | (_, d) => uptoBulk d + 1
 end
def uptoSmall : (H : Type) → List (DataW H) → Bool := fun _ ds => decide (uptoBulkAll ds ≤ 1048576)
def OpenSpec.upto (s : _root_.Go.ChangeSpec) : _root_.Go.OpenSpec := { _root_.Go.OpenSpec.ofChange s with cond := some uptoSmall }

/-- 'laws.FnExactVisited', WHERE WHAT IT READS IS OF BULK AT MOST 1048576: true; the input reads as it did. -/
def fnExactVisitedUptoRow : OpenClaim := { program := "ytdeggdhcleanmaadoor", sum := "1aaef297838df606e097f51fbe4ec6a0bb4f45814bdcc7cf68930741e9d26981", func := "loop.example/g03008/laws.FnExactVisited", spec := "fnExactVisited", named := ["math/bits.deBruijn64tab"], apart := false, laid := [("math/bits.deBruijn64tab", laid_math_bits_deBruijn64tab)], narrowed := true }
def FnExactVisitedUptoSaid : Prop := fnExactVisitedUptoRow.holds Tryd.pinned (OpenSpec.upto fnExactVisitedSpec)

/-- 'laws.FnExactCanBe', WHERE WHAT IT READS IS OF BULK AT MOST 1048576: true; the input reads as it did. -/
def fnExactCanBeUptoRow : OpenClaim := { program := "ytdeggdhcleanmaadoor", sum := "1aaef297838df606e097f51fbe4ec6a0bb4f45814bdcc7cf68930741e9d26981", func := "loop.example/g03008/laws.FnExactCanBe", spec := "fnExactCanBe", unfollowed := true, recurses := true, named := ["math/bits.deBruijn64tab"], apart := false, laid := [("math/bits.deBruijn64tab", laid_math_bits_deBruijn64tab)], narrowed := true }
def FnExactCanBeUptoSaid : Prop := fnExactCanBeUptoRow.holds Tryd.pinned (OpenSpec.upto fnExactCanBeSpec)

/-- 'laws.FnExactSeen', WHERE WHAT IT READS IS OF BULK AT MOST 1048576: true; the input reads as it did. -/
def fnExactSeenUptoRow : OpenClaim := { program := "ytdeggdhcleanmaadoor", sum := "1aaef297838df606e097f51fbe4ec6a0bb4f45814bdcc7cf68930741e9d26981", func := "loop.example/g03008/laws.FnExactSeen", spec := "fnExactSeen", unfollowed := true, recurses := true, named := ["math/bits.deBruijn64tab"], apart := false, laid := [("math/bits.deBruijn64tab", laid_math_bits_deBruijn64tab)], narrowed := true }
def FnExactSeenUptoSaid : Prop := fnExactSeenUptoRow.holds Tryd.pinned (OpenSpec.upto fnExactSeenSpec)

/-- 'laws.FnExactPlacesAfter', WHERE WHAT IT READS IS OF BULK AT MOST 1048576: true; the input reads as it did. -/
def fnExactPlacesAfterUptoRow : OpenClaim := { program := "ytdeggdhcleanmaadoor", sum := "1aaef297838df606e097f51fbe4ec6a0bb4f45814bdcc7cf68930741e9d26981", func := "loop.example/g03008/laws.FnExactPlacesAfter", spec := "fnExactPlacesAfter", unfollowed := true, recurses := true, named := ["math/bits.deBruijn64tab"], apart := false, laid := [("math/bits.deBruijn64tab", laid_math_bits_deBruijn64tab)], narrowed := true }
def FnExactPlacesAfterUptoSaid : Prop := fnExactPlacesAfterUptoRow.holds Tryd.pinned (OpenSpec.upto fnExactPlacesAfterSpec)

/-- 'laws.FnExactAreTents', WHERE WHAT IT READS IS OF BULK AT MOST 1048576: true; the input reads as it did. -/
def fnExactAreTentsUptoRow : OpenClaim := { program := "ytdeggdhcleanmaadoor", sum := "1aaef297838df606e097f51fbe4ec6a0bb4f45814bdcc7cf68930741e9d26981", func := "loop.example/g03008/laws.FnExactAreTents", spec := "fnExactAreTents", named := ["loop.example/g03008/impl.noBed"], apart := false, laid := [("loop.example/g03008/impl.noBed", laid_loop_example_g03008_impl_noBed)], narrowed := true }
def FnExactAreTentsUptoSaid : Prop := fnExactAreTentsUptoRow.holds Tryd.pinned (OpenSpec.upto fnExactAreTentsSpec)

/-- 'laws.FnExactPutUp', WHERE WHAT IT READS IS OF BULK AT MOST 1048576: true; the input reads as it did. -/
def fnExactPutUpUptoRow : OpenClaim := { program := "ytdeggdhcleanmaadoor", sum := "1aaef297838df606e097f51fbe4ec6a0bb4f45814bdcc7cf68930741e9d26981", func := "loop.example/g03008/laws.FnExactPutUp", spec := "fnExactPutUp", unfollowed := true, recurses := true, named := ["loop.example/g03008/impl.noBed"], apart := false, laid := [("loop.example/g03008/impl.noBed", laid_loop_example_g03008_impl_noBed)], narrowed := true }
def FnExactPutUpUptoSaid : Prop := fnExactPutUpUptoRow.holds Tryd.pinned (OpenSpec.upto fnExactPutUpSpec)

/-- 'laws.FnExactTentOf', WHERE WHAT IT READS IS OF BULK AT MOST 1048576: true; the input reads as it did. -/
def fnExactTentOfUptoRow : OpenClaim := { program := "ytdeggdhcleanmaadoor", sum := "1aaef297838df606e097f51fbe4ec6a0bb4f45814bdcc7cf68930741e9d26981", func := "loop.example/g03008/laws.FnExactTentOf", spec := "fnExactTentOf", named := ["loop.example/g03008/impl.noBed"], apart := false, laid := [("loop.example/g03008/impl.noBed", laid_loop_example_g03008_impl_noBed)], narrowed := true }
def FnExactTentOfUptoSaid : Prop := fnExactTentOfUptoRow.holds Tryd.pinned (OpenSpec.upto fnExactTentOfSpec)

/-- 'laws.FnExactBedsFree', WHERE WHAT IT READS IS OF BULK AT MOST 1048576: true; the input reads as it did. -/
def fnExactBedsFreeUptoRow : OpenClaim := { program := "ytdeggdhcleanmaadoor", sum := "1aaef297838df606e097f51fbe4ec6a0bb4f45814bdcc7cf68930741e9d26981", func := "loop.example/g03008/laws.FnExactBedsFree", spec := "fnExactBedsFree", named := ["loop.example/g03008/impl.noBed"], apart := false, laid := [("loop.example/g03008/impl.noBed", laid_loop_example_g03008_impl_noBed)], narrowed := true }
def FnExactBedsFreeUptoSaid : Prop := fnExactBedsFreeUptoRow.holds Tryd.pinned (OpenSpec.upto fnExactBedsFreeSpec)

/-- 'laws.FnExactMoveTo', WHERE WHAT IT READS IS OF BULK AT MOST 1048576: true; the input reads as it did. -/
def fnExactMoveToUptoRow : OpenClaim := { program := "ytdeggdhcleanmaadoor", sum := "1aaef297838df606e097f51fbe4ec6a0bb4f45814bdcc7cf68930741e9d26981", func := "loop.example/g03008/laws.FnExactMoveTo", spec := "fnExactMoveTo", unfollowed := true, recurses := true, named := ["loop.example/g03008/impl.noBed"], apart := false, laid := [("loop.example/g03008/impl.noBed", laid_loop_example_g03008_impl_noBed)], narrowed := true }
def FnExactMoveToUptoSaid : Prop := fnExactMoveToUptoRow.holds Tryd.pinned (OpenSpec.upto fnExactMoveToSpec)

end Rows
end Go.Proofs.YtdeggdhcleanmaaDoor

/-
  NARROWER THAN 'FOR EVERY INPUT', by the rows' own cells (each row's printed sentence says how): FnExactVisited: laid · FnExactEventName: laid · FnExactLowestFood: laid · FnExactFirstAt: laid · FnExactStormShare: laid · FnExactOpenShare: laid.
  DERIVED. THE GIVEN ROWS OF THIS SEAT. 6 by the template 'for every input the law returns true; each argument reads behind the call as it read before'; 0 by the template 'total and deterministic' (their statements: YtconlnlbaimghaaDoorTotals.lean).
  GIVEN WITH THE SEED: the statements are not yours to turn. If you find one false, say at which input.
  Laid BY PROGRAM, IN A SANDBOX (cutbox-rows.mjs): the forced cells as the released guide's own fill.sh prints them over the translation 01dea0718ab5345d… (all of the seat's roots in one cut). By AI agents, Wed Nov 11 2026. No macro, syntax, notation, axiom, sorry.
-/
import Derived.Test.YtconlnlbaimghaaDoorChecked
import GoSem.Claim
import GoSem.ClaimJoined
import GoSem.ClaimMapViews
import Derived.JoinedTies
import Derived.KernelRfl
namespace Go.Proofs.YtconlnlbaimghaaDoor
/- THE CELL 'sum', in the pinned program and in every row, IS THE sha256 OF THE DUMP (.gsa) THAT YtconlnlbaimghaaDoorProg.lean LOADS. Nothing in Lean hashes anything: it is a label: what it is worth is what the hold of that sum in a sandbox is worth. -/
noncomputable def Tryd.pinned : Pinned := { name := "ytconlnlbaimghaadoor", sum := "01dea0718ab5345d5df84518d195db51a0bffbf85efe81dcab44635571b4c9db", checked := Tryd.checked }
namespace Rows
def none {H : Type} : Left H := { results := [], args := [] }

/- WHAT THE LISTED PACKAGE-LEVEL VARIABLES READ AS WHEN THE CALL BEGINS. Each datum BY PROGRAM (the guide's laid-datum.mjs) off the statement by which the dump's own 'gosem.cut.vars' lays the variable. In a bare row this is a premise. The card (YtconlnlbaimghaaDoorCards.lean) ties it to the program's text. -/
def laid_math_bits_deBruijn64tab {H : Type} : DataW H := .agg [.lit (.int .u8 0), .lit (.int .u8 1), .lit (.int .u8 56), .lit (.int .u8 2), .lit (.int .u8 57), .lit (.int .u8 49), .lit (.int .u8 28), .lit (.int .u8 3), .lit (.int .u8 61), .lit (.int .u8 58), .lit (.int .u8 42), .lit (.int .u8 50), .lit (.int .u8 38), .lit (.int .u8 29), .lit (.int .u8 17), .lit (.int .u8 4), .lit (.int .u8 62), .lit (.int .u8 47), .lit (.int .u8 59), .lit (.int .u8 36), .lit (.int .u8 45), .lit (.int .u8 43), .lit (.int .u8 51), .lit (.int .u8 22), .lit (.int .u8 53), .lit (.int .u8 39), .lit (.int .u8 33), .lit (.int .u8 30), .lit (.int .u8 24), .lit (.int .u8 18), .lit (.int .u8 12), .lit (.int .u8 5), .lit (.int .u8 63), .lit (.int .u8 55), .lit (.int .u8 48), .lit (.int .u8 27), .lit (.int .u8 60), .lit (.int .u8 41), .lit (.int .u8 37), .lit (.int .u8 16), .lit (.int .u8 46), .lit (.int .u8 35), .lit (.int .u8 44), .lit (.int .u8 21), .lit (.int .u8 52), .lit (.int .u8 32), .lit (.int .u8 23), .lit (.int .u8 11), .lit (.int .u8 54), .lit (.int .u8 26), .lit (.int .u8 40), .lit (.int .u8 15), .lit (.int .u8 34), .lit (.int .u8 20), .lit (.int .u8 31), .lit (.int .u8 10), .lit (.int .u8 25), .lit (.int .u8 14), .lit (.int .u8 19), .lit (.int .u8 9), .lit (.int .u8 13), .lit (.int .u8 8), .lit (.int .u8 7), .lit (.int .u8 6)]
def laid_loop_example_g03008_impl_eventNames {H : Type} : DataW H := .agg [.lit (.string []), .lit (.string [103, 105, 118, 101]), .lit (.string [103, 111]), .lit (.string [119, 97, 105, 116]), .lit (.string [104, 111, 109, 101]), .lit (.string [108, 97, 121]), .lit (.string [116, 97, 107, 101])]
def laid_loop_example_g03008_impl_cover {H : Type} : DataW H := .agg [.lit (.int .i64 (-1)), .lit (.int .i64 0), .lit (.int .i64 0), .lit (.int .i64 0)]
def laid_errors_errorType {H : Type} : DataW H := .iface "internal/reflectlite.rtype" (.agg [.ptr (.lit (.string [101, 114, 114, 111, 114]))])

/-- 'laws.FnExactVisited': WHATEVER THE INPUT: true; the input reads as it did. -/
def fnExactVisitedSpec : ChangeSpec := { name := "fnExactVisited", fn := fun _ => fun
  | [d] => { results := [.lit (.bool true)], args := [d] }
  | _ => none }
def fnExactVisitedRow : OpenClaim := { program := "ytconlnlbaimghaadoor", sum := "01dea0718ab5345d5df84518d195db51a0bffbf85efe81dcab44635571b4c9db", func := "loop.example/g03008/laws.FnExactVisited", spec := "fnExactVisited", named := ["math/bits.deBruijn64tab"], apart := false, laid := [("math/bits.deBruijn64tab", laid_math_bits_deBruijn64tab)] }
def FnExactVisitedSaid : Prop := fnExactVisitedRow.holds Tryd.pinned (OpenSpec.ofChange fnExactVisitedSpec)

/-- ITS FALSE NEIGHBOUR: 'it returns false'. Refute it at one input. -/
def fnExactVisitedWrong : ChangeSpec := { name := "fnExactVisited", fn := fun _ => fun
  | [d] => { results := [.lit (.bool false)], args := [d] }
  | _ => none }
def FnExactVisitedWrongFalsely : Prop := fnExactVisitedRow.holds Tryd.pinned (OpenSpec.ofChange fnExactVisitedWrong)

/-- 'laws.FnExactEventName': WHATEVER THE INPUT: true; the input reads as it did. -/
def fnExactEventNameSpec : ChangeSpec := { name := "fnExactEventName", vars := ["loop.example/g03008/impl.eventNames"], fn := fun _ => fun
  | [d, g1] => { results := [.lit (.bool true)], args := [d], vars := [g1] }
  | _ => none }
def fnExactEventNameRow : OpenClaim := { program := "ytconlnlbaimghaadoor", sum := "01dea0718ab5345d5df84518d195db51a0bffbf85efe81dcab44635571b4c9db", func := "loop.example/g03008/laws.FnExactEventName", spec := "fnExactEventName", named := ["loop.example/g03008/impl.eventNames"], apart := false, laid := [("loop.example/g03008/impl.eventNames", laid_loop_example_g03008_impl_eventNames)] }
def FnExactEventNameSaid : Prop := fnExactEventNameRow.holds Tryd.pinned (OpenSpec.ofChange fnExactEventNameSpec)

/-- ITS FALSE NEIGHBOUR: 'it returns false'. Refute it at one input. -/
def fnExactEventNameWrong : ChangeSpec := { name := "fnExactEventName", vars := ["loop.example/g03008/impl.eventNames"], fn := fun _ => fun
  | [d, g1] => { results := [.lit (.bool false)], args := [d], vars := [g1] }
  | _ => none }
def FnExactEventNameWrongFalsely : Prop := fnExactEventNameRow.holds Tryd.pinned (OpenSpec.ofChange fnExactEventNameWrong)

/-- 'laws.FnExactLowestFood': WHATEVER THE INPUT: true; the input reads as it did. -/
def fnExactLowestFoodSpec : ChangeSpec := { name := "fnExactLowestFood", vars := ["loop.example/g03008/impl.cover"], fn := fun _ => fun
  | [d, g1] => { results := [.lit (.bool true)], args := [d], vars := [g1] }
  | _ => none }
def fnExactLowestFoodRow : OpenClaim := { program := "ytconlnlbaimghaadoor", sum := "01dea0718ab5345d5df84518d195db51a0bffbf85efe81dcab44635571b4c9db", func := "loop.example/g03008/laws.FnExactLowestFood", spec := "fnExactLowestFood", unfollowed := true, recurses := true, named := ["loop.example/g03008/impl.cover"], apart := false, laid := [("loop.example/g03008/impl.cover", laid_loop_example_g03008_impl_cover)] }
def FnExactLowestFoodSaid : Prop := fnExactLowestFoodRow.holds Tryd.pinned (OpenSpec.ofChange fnExactLowestFoodSpec)

/-- ITS FALSE NEIGHBOUR: 'it returns false'. Refute it at one input. -/
def fnExactLowestFoodWrong : ChangeSpec := { name := "fnExactLowestFood", vars := ["loop.example/g03008/impl.cover"], fn := fun _ => fun
  | [d, g1] => { results := [.lit (.bool false)], args := [d], vars := [g1] }
  | _ => none }
def FnExactLowestFoodWrongFalsely : Prop := fnExactLowestFoodRow.holds Tryd.pinned (OpenSpec.ofChange fnExactLowestFoodWrong)

/-- 'laws.FnExactFirstAt': WHATEVER THE INPUT: true; the input reads as it did. -/
def fnExactFirstAtSpec : ChangeSpec := { name := "fnExactFirstAt", vars := ["loop.example/g03008/impl.cover"], fn := fun _ => fun
  | [d1, d2, g1] => { results := [.lit (.bool true)], args := [d1, d2], vars := [g1] }
  | _ => none }
def fnExactFirstAtRow : OpenClaim := { program := "ytconlnlbaimghaadoor", sum := "01dea0718ab5345d5df84518d195db51a0bffbf85efe81dcab44635571b4c9db", func := "loop.example/g03008/laws.FnExactFirstAt", spec := "fnExactFirstAt", unfollowed := true, recurses := true, named := ["loop.example/g03008/impl.cover"], apart := false, laid := [("loop.example/g03008/impl.cover", laid_loop_example_g03008_impl_cover)] }
def FnExactFirstAtSaid : Prop := fnExactFirstAtRow.holds Tryd.pinned (OpenSpec.ofChange fnExactFirstAtSpec)

/-- ITS FALSE NEIGHBOUR: 'it returns false'. Refute it at one input. -/
def fnExactFirstAtWrong : ChangeSpec := { name := "fnExactFirstAt", vars := ["loop.example/g03008/impl.cover"], fn := fun _ => fun
  | [d1, d2, g1] => { results := [.lit (.bool false)], args := [d1, d2], vars := [g1] }
  | _ => none }
def FnExactFirstAtWrongFalsely : Prop := fnExactFirstAtRow.holds Tryd.pinned (OpenSpec.ofChange fnExactFirstAtWrong)

/-- 'laws.FnExactStormShare': WHATEVER THE INPUT: true; the input reads as it did. -/
def fnExactStormShareSpec : ChangeSpec := { name := "fnExactStormShare", fn := fun _ => fun
  | [d] => { results := [.lit (.bool true)], args := [d] }
  | _ => none }
def fnExactStormShareRow : OpenClaim := { program := "ytconlnlbaimghaadoor", sum := "01dea0718ab5345d5df84518d195db51a0bffbf85efe81dcab44635571b4c9db", func := "loop.example/g03008/laws.FnExactStormShare", spec := "fnExactStormShare", inPlace := ["internal/reflectlite.ValueOf", "(internal/reflectlite.Value).Type", "(internal/reflectlite.Value).IsNil", "internal/reflectlite.TypeOf", "(internal/reflectlite.Value).Elem", "(internal/reflectlite.Value).Set"], unfollowed := true, recurses := true, named := ["errors.errorType"], apart := false, laid := [("errors.errorType", laid_errors_errorType)] }
def FnExactStormShareSaid : Prop := fnExactStormShareRow.holds Tryd.pinned (OpenSpec.ofChange fnExactStormShareSpec)

/-- ITS FALSE NEIGHBOUR: 'it returns false'. Refute it at one input. -/
def fnExactStormShareWrong : ChangeSpec := { name := "fnExactStormShare", fn := fun _ => fun
  | [d] => { results := [.lit (.bool false)], args := [d] }
  | _ => none }
def FnExactStormShareWrongFalsely : Prop := fnExactStormShareRow.holds Tryd.pinned (OpenSpec.ofChange fnExactStormShareWrong)

/-- 'laws.FnExactOpenShare': WHATEVER THE INPUT: true; the input reads as it did. -/
def fnExactOpenShareSpec : ChangeSpec := { name := "fnExactOpenShare", fn := fun _ => fun
  | [d] => { results := [.lit (.bool true)], args := [d] }
  | _ => none }
def fnExactOpenShareRow : OpenClaim := { program := "ytconlnlbaimghaadoor", sum := "01dea0718ab5345d5df84518d195db51a0bffbf85efe81dcab44635571b4c9db", func := "loop.example/g03008/laws.FnExactOpenShare", spec := "fnExactOpenShare", inPlace := ["internal/reflectlite.ValueOf", "(internal/reflectlite.Value).Type", "(internal/reflectlite.Value).IsNil", "internal/reflectlite.TypeOf", "(internal/reflectlite.Value).Elem", "(internal/reflectlite.Value).Set"], unfollowed := true, recurses := true, named := ["errors.errorType"], apart := false, laid := [("errors.errorType", laid_errors_errorType)] }
def FnExactOpenShareSaid : Prop := fnExactOpenShareRow.holds Tryd.pinned (OpenSpec.ofChange fnExactOpenShareSpec)

/-- ITS FALSE NEIGHBOUR: 'it returns false'. Refute it at one input. -/
def fnExactOpenShareWrong : ChangeSpec := { name := "fnExactOpenShare", fn := fun _ => fun
  | [d] => { results := [.lit (.bool false)], args := [d] }
  | _ => none }
def FnExactOpenShareWrongFalsely : Prop := fnExactOpenShareRow.holds Tryd.pinned (OpenSpec.ofChange fnExactOpenShareWrong)

/- THE SECOND FORM. 'bulk': how many values and letters a reading holds, each counted each time it is reached (what is shared counts as often as it is met; a slice's spare places count too). A statement '..UptoSaid' is the law's where the arguments, and the package variables that the reading takes, are together of bulk at most 1048576: NARROWER than '..Said'. Prove '..Said' where nothing that the law and all that it calls make is longer than what came in: it says more and counts as full. Else prove '..UptoSaid'. A law counts once. -/
mutual
def uptoBulk {H : Type} : DataW H → Nat
  | .lit (.string bytes) => bytes.length + 1
  | .lit _ => 1
  | .nil => 1
  | .ptr d => uptoBulk d + 1
  | .slice elems spare => uptoBulkAll elems + uptoBulkAll spare + 1
  | .agg parts => uptoBulkAll parts + 1
  | .iface _ d => uptoBulk d + 1
  | .map entries => uptoBulkEntries entries + 1
  | .held _ => 1
def uptoBulkAll {H : Type} : List (DataW H) → Nat
  | [] => 0
  | d :: r => uptoBulk d + uptoBulkAll r
def uptoBulkEntries {H : Type} : List (Lit × DataW H) → Nat
  | [] => 0
  | x :: r => uptoBulkEntry x + uptoBulkEntries r
def uptoBulkEntry {H : Type} : Lit × DataW H → Nat
  | (.string bytes, d) => bytes.length + uptoBulk d + 1
  | (_, d) => uptoBulk d + 1
 end
def uptoSmall : (H : Type) → List (DataW H) → Bool := fun _ ds => decide (uptoBulkAll ds ≤ 1048576)
def OpenSpec.upto (s : _root_.Go.ChangeSpec) : _root_.Go.OpenSpec := { _root_.Go.OpenSpec.ofChange s with cond := some uptoSmall }

/-- 'laws.FnExactVisited', WHERE WHAT IT READS IS OF BULK AT MOST 1048576: true; the input reads as it did. -/
def fnExactVisitedUptoRow : OpenClaim := { program := "ytconlnlbaimghaadoor", sum := "01dea0718ab5345d5df84518d195db51a0bffbf85efe81dcab44635571b4c9db", func := "loop.example/g03008/laws.FnExactVisited", spec := "fnExactVisited", named := ["math/bits.deBruijn64tab"], apart := false, laid := [("math/bits.deBruijn64tab", laid_math_bits_deBruijn64tab)], narrowed := true }
def FnExactVisitedUptoSaid : Prop := fnExactVisitedUptoRow.holds Tryd.pinned (OpenSpec.upto fnExactVisitedSpec)

/-- 'laws.FnExactEventName', WHERE WHAT IT READS IS OF BULK AT MOST 1048576: true; the input reads as it did. -/
def fnExactEventNameUptoRow : OpenClaim := { program := "ytconlnlbaimghaadoor", sum := "01dea0718ab5345d5df84518d195db51a0bffbf85efe81dcab44635571b4c9db", func := "loop.example/g03008/laws.FnExactEventName", spec := "fnExactEventName", named := ["loop.example/g03008/impl.eventNames"], apart := false, laid := [("loop.example/g03008/impl.eventNames", laid_loop_example_g03008_impl_eventNames)], narrowed := true }
def FnExactEventNameUptoSaid : Prop := fnExactEventNameUptoRow.holds Tryd.pinned (OpenSpec.upto fnExactEventNameSpec)

/-- 'laws.FnExactLowestFood', WHERE WHAT IT READS IS OF BULK AT MOST 1048576: true; the input reads as it did. -/
def fnExactLowestFoodUptoRow : OpenClaim := { program := "ytconlnlbaimghaadoor", sum := "01dea0718ab5345d5df84518d195db51a0bffbf85efe81dcab44635571b4c9db", func := "loop.example/g03008/laws.FnExactLowestFood", spec := "fnExactLowestFood", unfollowed := true, recurses := true, named := ["loop.example/g03008/impl.cover"], apart := false, laid := [("loop.example/g03008/impl.cover", laid_loop_example_g03008_impl_cover)], narrowed := true }
def FnExactLowestFoodUptoSaid : Prop := fnExactLowestFoodUptoRow.holds Tryd.pinned (OpenSpec.upto fnExactLowestFoodSpec)

/-- 'laws.FnExactFirstAt', WHERE WHAT IT READS IS OF BULK AT MOST 1048576: true; the input reads as it did. -/
def fnExactFirstAtUptoRow : OpenClaim := { program := "ytconlnlbaimghaadoor", sum := "01dea0718ab5345d5df84518d195db51a0bffbf85efe81dcab44635571b4c9db", func := "loop.example/g03008/laws.FnExactFirstAt", spec := "fnExactFirstAt", unfollowed := true, recurses := true, named := ["loop.example/g03008/impl.cover"], apart := false, laid := [("loop.example/g03008/impl.cover", laid_loop_example_g03008_impl_cover)], narrowed := true }
def FnExactFirstAtUptoSaid : Prop := fnExactFirstAtUptoRow.holds Tryd.pinned (OpenSpec.upto fnExactFirstAtSpec)

/-- 'laws.FnExactStormShare', WHERE WHAT IT READS IS OF BULK AT MOST 1048576: true; the input reads as it did. -/
def fnExactStormShareUptoRow : OpenClaim := { program := "ytconlnlbaimghaadoor", sum := "01dea0718ab5345d5df84518d195db51a0bffbf85efe81dcab44635571b4c9db", func := "loop.example/g03008/laws.FnExactStormShare", spec := "fnExactStormShare", inPlace := ["internal/reflectlite.ValueOf", "(internal/reflectlite.Value).Type", "(internal/reflectlite.Value).IsNil", "internal/reflectlite.TypeOf", "(internal/reflectlite.Value).Elem", "(internal/reflectlite.Value).Set"], unfollowed := true, recurses := true, named := ["errors.errorType"], apart := false, laid := [("errors.errorType", laid_errors_errorType)], narrowed := true }
def FnExactStormShareUptoSaid : Prop := fnExactStormShareUptoRow.holds Tryd.pinned (OpenSpec.upto fnExactStormShareSpec)

/-- 'laws.FnExactOpenShare', WHERE WHAT IT READS IS OF BULK AT MOST 1048576: true; the input reads as it did. -/
def fnExactOpenShareUptoRow : OpenClaim := { program := "ytconlnlbaimghaadoor", sum := "01dea0718ab5345d5df84518d195db51a0bffbf85efe81dcab44635571b4c9db", func := "loop.example/g03008/laws.FnExactOpenShare", spec := "fnExactOpenShare", inPlace := ["internal/reflectlite.ValueOf", "(internal/reflectlite.Value).Type", "(internal/reflectlite.Value).IsNil", "internal/reflectlite.TypeOf", "(internal/reflectlite.Value).Elem", "(internal/reflectlite.Value).Set"], unfollowed := true, recurses := true, named := ["errors.errorType"], apart := false, laid := [("errors.errorType", laid_errors_errorType)], narrowed := true }
def FnExactOpenShareUptoSaid : Prop := fnExactOpenShareUptoRow.holds Tryd.pinned (OpenSpec.upto fnExactOpenShareSpec)

end Rows
end Go.Proofs.YtconlnlbaimghaaDoor

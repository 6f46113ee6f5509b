/-
  NARROWER THAN 'FOR EVERY INPUT', by the rows' own cells (each row's printed sentence says how): FnExactIsWritten: laid.
  DERIVED. THE GIVEN ROWS OF THIS SEAT. 1 by the template 'for every input the law returns true; each argument reads behind the call as it read before'; 0 by the template 'total and deterministic' (their statements: YtochohoihmfanaaDoorTotals.lean).
  GIVEN WITH THE SEED: the statements are not yours to turn. If you find one false, say at which input.
  Laid BY PROGRAM, IN A SANDBOX (cutbox-rows.mjs): the forced cells as the released guide's own fill.sh prints them over the translation 89724995c62af89a… (all of the seat's roots in one cut). By AI agents, Wed Nov 11 2026. No macro, syntax, notation, axiom, sorry.
-/
import Derived.Test.YtochohoihmfanaaDoorChecked
import GoSem.Claim
import GoSem.ClaimJoined
import GoSem.ClaimMapViews
import Derived.JoinedTies
import Derived.KernelRfl
namespace Go.Proofs.YtochohoihmfanaaDoor
/- THE CELL 'sum', in the pinned program and in every row, IS THE sha256 OF THE DUMP (.gsa) THAT YtochohoihmfanaaDoorProg.lean LOADS. Nothing in Lean hashes anything: it is a label: what it is worth is what the hold of that sum in a sandbox is worth. -/
noncomputable def Tryd.pinned : Pinned := { name := "ytochohoihmfanaadoor", sum := "89724995c62af89aa32330e677f0115b2f5c9cf8100e14bc151d7d75c688a9e1", checked := Tryd.checked }
namespace Rows
def none {H : Type} : Left H := { results := [], args := [] }

/- WHAT THE LISTED PACKAGE-LEVEL VARIABLES READ AS WHEN THE CALL BEGINS. Each datum BY PROGRAM (the guide's laid-datum.mjs) off the statement by which the dump's own 'gosem.cut.vars' lays the variable. In a bare row this is a premise. The card (YtochohoihmfanaaDoorCards.lean) ties it to the program's text. -/
def laid_loop_example_g03008_impl_cover {H : Type} : DataW H := .agg [.lit (.int .i64 (-1)), .lit (.int .i64 0), .lit (.int .i64 0), .lit (.int .i64 0)]

/-- 'laws.FnExactIsWritten': WHATEVER THE INPUT: true; the input reads as it did. -/
def fnExactIsWrittenSpec : ChangeSpec := { name := "fnExactIsWritten", vars := ["loop.example/g03008/impl.cover"], fn := fun _ => fun
  | [d, g1] => { results := [.lit (.bool true)], args := [d], vars := [g1] }
  | _ => none }
def fnExactIsWrittenRow : OpenClaim := { program := "ytochohoihmfanaadoor", sum := "89724995c62af89aa32330e677f0115b2f5c9cf8100e14bc151d7d75c688a9e1", func := "loop.example/g03008/laws.FnExactIsWritten", spec := "fnExactIsWritten", unfollowed := true, recurses := true, named := ["loop.example/g03008/impl.cover"], apart := false, laid := [("loop.example/g03008/impl.cover", laid_loop_example_g03008_impl_cover)] }
def FnExactIsWrittenSaid : Prop := fnExactIsWrittenRow.holds Tryd.pinned (OpenSpec.ofChange fnExactIsWrittenSpec)

/-- ITS FALSE NEIGHBOUR: 'it returns false'. Refute it at one input. -/
def fnExactIsWrittenWrong : ChangeSpec := { name := "fnExactIsWritten", vars := ["loop.example/g03008/impl.cover"], fn := fun _ => fun
  | [d, g1] => { results := [.lit (.bool false)], args := [d], vars := [g1] }
  | _ => none }
def FnExactIsWrittenWrongFalsely : Prop := fnExactIsWrittenRow.holds Tryd.pinned (OpenSpec.ofChange fnExactIsWrittenWrong)

/- THE SECOND FORM. 'bulk': how many values and letters a reading holds, each counted each time it is reached (what is shared counts as often as it is met; a slice's spare places count too). A statement '..UptoSaid' is the law's where the arguments, and the package variables that the reading takes, are together of bulk at most 1048576: NARROWER than '..Said'. Prove '..Said' where nothing that the law and all that it calls make is longer than what came in: it says more and counts as full. Else prove '..UptoSaid'. A law counts once. -/
mutual
def uptoBulk {H : Type} : DataW H → Nat
  | .lit (.string bytes) => bytes.length + 1
  | .lit _ => 1
  | .nil => 1
  | .ptr d => uptoBulk d + 1
  | .slice elems spare => uptoBulkAll elems + uptoBulkAll spare + 1
  | .agg parts => uptoBulkAll parts + 1
  | .iface _ d => uptoBulk d + 1
  | .map entries => uptoBulkEntries entries + 1
  | .held _ => 1
def uptoBulkAll {H : Type} : List (DataW H) → Nat
  | [] => 0
  | d :: r => uptoBulk d + uptoBulkAll r
def uptoBulkEntries {H : Type} : List (Lit × DataW H) → Nat
  | [] => 0
  | x :: r => uptoBulkEntry x + uptoBulkEntries r
def uptoBulkEntry {H : Type} : Lit × DataW H → Nat
  | (.string bytes, d) => bytes.length + uptoBulk d + 1
  | (_, d) => uptoBulk d + 1
 end
def uptoSmall : (H : Type) → List (DataW H) → Bool := fun _ ds => decide (uptoBulkAll ds ≤ 1048576)
def OpenSpec.upto (s : _root_.Go.ChangeSpec) : _root_.Go.OpenSpec := { _root_.Go.OpenSpec.ofChange s with cond := some uptoSmall }

/-- 'laws.FnExactIsWritten', WHERE WHAT IT READS IS OF BULK AT MOST 1048576: true; the input reads as it did. -/
def fnExactIsWrittenUptoRow : OpenClaim := { program := "ytochohoihmfanaadoor", sum := "89724995c62af89aa32330e677f0115b2f5c9cf8100e14bc151d7d75c688a9e1", func := "loop.example/g03008/laws.FnExactIsWritten", spec := "fnExactIsWritten", unfollowed := true, recurses := true, named := ["loop.example/g03008/impl.cover"], apart := false, laid := [("loop.example/g03008/impl.cover", laid_loop_example_g03008_impl_cover)], narrowed := true }
def FnExactIsWrittenUptoSaid : Prop := fnExactIsWrittenUptoRow.holds Tryd.pinned (OpenSpec.upto fnExactIsWrittenSpec)

end Rows
end Go.Proofs.YtochohoihmfanaaDoor

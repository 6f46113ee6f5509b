/-
  No cell of these rows narrows 'for every input' (looked for: loops, veiled, ifaces, maps, wideKeys, modest, calm, conditions, laid).
  DERIVED. THE GIVEN ROWS OF THIS SEAT. 2 by the template 'for every input the law returns true; each argument reads behind the call as it read before'; 0 by the template 'total and deterministic' (their statements: YtedijkkbphbnoaaTotals.lean).
  GIVEN WITH THE SEED: the statements are not yours to turn. If you find one false, say at which input.
  Laid BY PROGRAM, IN A SANDBOX (cutbox-rows.mjs): the forced cells as the released guide's own fill.sh prints them over the translation a57c640c73ddf5d5… (all of the seat's roots in one cut). By AI agents, Wed Nov 11 2026. No macro, syntax, notation, axiom, sorry.
-/
import Derived.Test.YtedijkkbphbnoaaChecked
import GoSem.Claim
import GoSem.ClaimJoined
import GoSem.ClaimMapViews
import Derived.JoinedTies
import Derived.KernelRfl
namespace Go.Proofs.Ytedijkkbphbnoaa
/- THE CELL 'sum', in the pinned program and in every row, IS THE sha256 OF THE DUMP (.gsa) THAT YtedijkkbphbnoaaProg.lean LOADS. Nothing in Lean hashes anything: it is a label: what it is worth is what the hold of that sum in a sandbox is worth. -/
noncomputable def Try.pinned : Pinned := { name := "ytedijkkbphbnoaa", sum := "a57c640c73ddf5d5b77fcc59282db69b571565eba8ac85b7592f36c50e6bf2b5", checked := Try.checked }
namespace Rows
def none {H : Type} : Left H := { results := [], args := [] }

/-- 'laws.FnExactRopeTeams': WHATEVER THE INPUT: true; the input reads as it did. -/
def fnExactRopeTeamsSpec : ChangeSpec := { name := "fnExactRopeTeams", fn := fun _ => fun
  | [d] => { results := [.lit (.bool true)], args := [d] }
  | _ => none }
def fnExactRopeTeamsRow : OpenClaim := { program := "ytedijkkbphbnoaa", sum := "a57c640c73ddf5d5b77fcc59282db69b571565eba8ac85b7592f36c50e6bf2b5", func := "loop.example/g03008/laws.FnExactRopeTeams", spec := "fnExactRopeTeams", unfollowed := true, recurses := true, apart := false }
def FnExactRopeTeamsSaid : Prop := fnExactRopeTeamsRow.holds Try.pinned (OpenSpec.ofChange fnExactRopeTeamsSpec)

/-- ITS FALSE NEIGHBOUR: 'it returns false'. Refute it at one input. -/
def fnExactRopeTeamsWrong : ChangeSpec := { name := "fnExactRopeTeams", fn := fun _ => fun
  | [d] => { results := [.lit (.bool false)], args := [d] }
  | _ => none }
def FnExactRopeTeamsWrongFalsely : Prop := fnExactRopeTeamsRow.holds Try.pinned (OpenSpec.ofChange fnExactRopeTeamsWrong)

/-- 'laws.FnExactCanRope': WHATEVER THE INPUT: true; the input reads as it did. -/
def fnExactCanRopeSpec : ChangeSpec := { name := "fnExactCanRope", fn := fun _ => fun
  | [d] => { results := [.lit (.bool true)], args := [d] }
  | _ => none }
def fnExactCanRopeRow : OpenClaim := { program := "ytedijkkbphbnoaa", sum := "a57c640c73ddf5d5b77fcc59282db69b571565eba8ac85b7592f36c50e6bf2b5", func := "loop.example/g03008/laws.FnExactCanRope", spec := "fnExactCanRope", unfollowed := true, recurses := true, apart := false }
def FnExactCanRopeSaid : Prop := fnExactCanRopeRow.holds Try.pinned (OpenSpec.ofChange fnExactCanRopeSpec)

/-- ITS FALSE NEIGHBOUR: 'it returns false'. Refute it at one input. -/
def fnExactCanRopeWrong : ChangeSpec := { name := "fnExactCanRope", fn := fun _ => fun
  | [d] => { results := [.lit (.bool false)], args := [d] }
  | _ => none }
def FnExactCanRopeWrongFalsely : Prop := fnExactCanRopeRow.holds Try.pinned (OpenSpec.ofChange fnExactCanRopeWrong)

/- THE SECOND FORM. 'bulk': how many values and letters a reading holds, each counted each time it is reached (what is shared counts as often as it is met; a slice's spare places count too). A statement '..UptoSaid' is the law's where the arguments, and the package variables that the reading takes, are together of bulk at most 1048576: NARROWER than '..Said'. Prove '..Said' where nothing that the law and all that it calls make is longer than what came in: it says more and counts as full. Else prove '..UptoSaid'. A law counts once. -/
mutual
def uptoBulk {H : Type} : DataW H → Nat
  | .lit (.string bytes) => bytes.length + 1
  | .lit _ => 1
  | .nil => 1
  | .ptr d => uptoBulk d + 1
  | .slice elems spare => uptoBulkAll elems + uptoBulkAll spare + 1
  | .agg parts => uptoBulkAll parts + 1
  | .iface _ d => uptoBulk d + 1
  | .map entries => uptoBulkEntries entries + 1
  | .held _ => 1
def uptoBulkAll {H : Type} : List (DataW H) → Nat
  | [] => 0
  | d :: r => uptoBulk d + uptoBulkAll r
def uptoBulkEntries {H : Type} : List (Lit × DataW H) → Nat
  | [] => 0
  | x :: r => uptoBulkEntry x + uptoBulkEntries r
def uptoBulkEntry {H : Type} : Lit × DataW H → Nat
  | (.string bytes, d) => bytes.length + uptoBulk d + 1
  | (_, d) => uptoBulk d + 1
 end
def uptoSmall : (H : Type) → List (DataW H) → Bool := fun _ ds => decide (uptoBulkAll ds ≤ 1048576)
def OpenSpec.upto (s : _root_.Go.ChangeSpec) : _root_.Go.OpenSpec := { _root_.Go.OpenSpec.ofChange s with cond := some uptoSmall }

/-- 'laws.FnExactRopeTeams', WHERE WHAT IT READS IS OF BULK AT MOST 1048576: true; the input reads as it did. -/
def fnExactRopeTeamsUptoRow : OpenClaim := { program := "ytedijkkbphbnoaa", sum := "a57c640c73ddf5d5b77fcc59282db69b571565eba8ac85b7592f36c50e6bf2b5", func := "loop.example/g03008/laws.FnExactRopeTeams", spec := "fnExactRopeTeams", unfollowed := true, recurses := true, apart := false, narrowed := true }
def FnExactRopeTeamsUptoSaid : Prop := fnExactRopeTeamsUptoRow.holds Try.pinned (OpenSpec.upto fnExactRopeTeamsSpec)

/-- 'laws.FnExactCanRope', WHERE WHAT IT READS IS OF BULK AT MOST 1048576: true; the input reads as it did. -/
def fnExactCanRopeUptoRow : OpenClaim := { program := "ytedijkkbphbnoaa", sum := "a57c640c73ddf5d5b77fcc59282db69b571565eba8ac85b7592f36c50e6bf2b5", func := "loop.example/g03008/laws.FnExactCanRope", spec := "fnExactCanRope", unfollowed := true, recurses := true, apart := false, narrowed := true }
def FnExactCanRopeUptoSaid : Prop := fnExactCanRopeUptoRow.holds Try.pinned (OpenSpec.upto fnExactCanRopeSpec)

end Rows
end Go.Proofs.Ytedijkkbphbnoaa

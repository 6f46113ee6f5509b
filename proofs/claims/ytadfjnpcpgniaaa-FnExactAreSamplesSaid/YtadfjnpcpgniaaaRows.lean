/-
  No cell of these rows narrows 'for every input' (looked for: loops, veiled, ifaces, maps, wideKeys, modest, calm, conditions, laid).
  DERIVED. THE GIVEN ROWS OF THIS SEAT. 8 by the template 'for every input the law returns true; each argument reads behind the call as it read before'; 0 by the template 'total and deterministic' (their statements: YtadfjnpcpgniaaaTotals.lean).
  GIVEN WITH THE SEED: the statements are not yours to turn. If you find one false, say at which input.
  Laid BY PROGRAM, IN A SANDBOX (cutbox-rows.mjs): the forced cells as the released guide's own fill.sh prints them over the translation 30767535ecbe49ca… (all of the seat's roots in one cut). By AI agents, Wed Nov 11 2026. No macro, syntax, notation, axiom, sorry.
-/
import Derived.Test.YtadfjnpcpgniaaaChecked
import GoSem.Claim
import GoSem.ClaimJoined
import GoSem.ClaimMapViews
import Derived.JoinedTies
import Derived.KernelRfl
namespace Go.Proofs.Ytadfjnpcpgniaaa
/- THE CELL 'sum', in the pinned program and in every row, IS THE sha256 OF THE DUMP (.gsa) THAT YtadfjnpcpgniaaaProg.lean LOADS. Nothing in Lean hashes anything: it is a label: what it is worth is what the hold of that sum in a sandbox is worth. -/
noncomputable def Try.pinned : Pinned := { name := "ytadfjnpcpgniaaa", sum := "30767535ecbe49ca1e0466d27fe4291ab78dfb86f94b41b2ebf141c4efc3f488", checked := Try.checked }
namespace Rows
def none {H : Type} : Left H := { results := [], args := [] }

/-- 'laws.FnExactAreSamples': WHATEVER THE INPUT: true; the input reads as it did. -/
def fnExactAreSamplesSpec : ChangeSpec := { name := "fnExactAreSamples", fn := fun _ => fun
  | [d] => { results := [.lit (.bool true)], args := [d] }
  | _ => none }
def fnExactAreSamplesRow : OpenClaim := { program := "ytadfjnpcpgniaaa", sum := "30767535ecbe49ca1e0466d27fe4291ab78dfb86f94b41b2ebf141c4efc3f488", func := "loop.example/g03008/laws.FnExactAreSamples", spec := "fnExactAreSamples", apart := false }
def FnExactAreSamplesSaid : Prop := fnExactAreSamplesRow.holds Try.pinned (OpenSpec.ofChange fnExactAreSamplesSpec)

/-- ITS FALSE NEIGHBOUR: 'it returns false'. Refute it at one input. -/
def fnExactAreSamplesWrong : ChangeSpec := { name := "fnExactAreSamples", fn := fun _ => fun
  | [d] => { results := [.lit (.bool false)], args := [d] }
  | _ => none }
def FnExactAreSamplesWrongFalsely : Prop := fnExactAreSamplesRow.holds Try.pinned (OpenSpec.ofChange fnExactAreSamplesWrong)

/-- 'laws.FnExactWeightOf': WHATEVER THE INPUT: true; the input reads as it did. -/
def fnExactWeightOfSpec : ChangeSpec := { name := "fnExactWeightOf", fn := fun _ => fun
  | [d1, d2] => { results := [.lit (.bool true)], args := [d1, d2] }
  | _ => none }
def fnExactWeightOfRow : OpenClaim := { program := "ytadfjnpcpgniaaa", sum := "30767535ecbe49ca1e0466d27fe4291ab78dfb86f94b41b2ebf141c4efc3f488", func := "loop.example/g03008/laws.FnExactWeightOf", spec := "fnExactWeightOf", unfollowed := true, recurses := true, apart := false }
def FnExactWeightOfSaid : Prop := fnExactWeightOfRow.holds Try.pinned (OpenSpec.ofChange fnExactWeightOfSpec)

/-- ITS FALSE NEIGHBOUR: 'it returns false'. Refute it at one input. -/
def fnExactWeightOfWrong : ChangeSpec := { name := "fnExactWeightOf", fn := fun _ => fun
  | [d1, d2] => { results := [.lit (.bool false)], args := [d1, d2] }
  | _ => none }
def FnExactWeightOfWrongFalsely : Prop := fnExactWeightOfRow.holds Try.pinned (OpenSpec.ofChange fnExactWeightOfWrong)

/-- 'laws.FnExactWorthOf': WHATEVER THE INPUT: true; the input reads as it did. -/
def fnExactWorthOfSpec : ChangeSpec := { name := "fnExactWorthOf", fn := fun _ => fun
  | [d1, d2] => { results := [.lit (.bool true)], args := [d1, d2] }
  | _ => none }
def fnExactWorthOfRow : OpenClaim := { program := "ytadfjnpcpgniaaa", sum := "30767535ecbe49ca1e0466d27fe4291ab78dfb86f94b41b2ebf141c4efc3f488", func := "loop.example/g03008/laws.FnExactWorthOf", spec := "fnExactWorthOf", unfollowed := true, recurses := true, apart := false }
def FnExactWorthOfSaid : Prop := fnExactWorthOfRow.holds Try.pinned (OpenSpec.ofChange fnExactWorthOfSpec)

/-- ITS FALSE NEIGHBOUR: 'it returns false'. Refute it at one input. -/
def fnExactWorthOfWrong : ChangeSpec := { name := "fnExactWorthOf", fn := fun _ => fun
  | [d1, d2] => { results := [.lit (.bool false)], args := [d1, d2] }
  | _ => none }
def FnExactWorthOfWrongFalsely : Prop := fnExactWorthOfRow.holds Try.pinned (OpenSpec.ofChange fnExactWorthOfWrong)

/-- 'laws.FnExactGreedyLoad': WHATEVER THE INPUT: true; the input reads as it did. -/
def fnExactGreedyLoadSpec : ChangeSpec := { name := "fnExactGreedyLoad", fn := fun _ => fun
  | [d1, d2] => { results := [.lit (.bool true)], args := [d1, d2] }
  | _ => none }
def fnExactGreedyLoadRow : OpenClaim := { program := "ytadfjnpcpgniaaa", sum := "30767535ecbe49ca1e0466d27fe4291ab78dfb86f94b41b2ebf141c4efc3f488", func := "loop.example/g03008/laws.FnExactGreedyLoad", spec := "fnExactGreedyLoad", apart := false }
def FnExactGreedyLoadSaid : Prop := fnExactGreedyLoadRow.holds Try.pinned (OpenSpec.ofChange fnExactGreedyLoadSpec)

/-- ITS FALSE NEIGHBOUR: 'it returns false'. Refute it at one input. -/
def fnExactGreedyLoadWrong : ChangeSpec := { name := "fnExactGreedyLoad", fn := fun _ => fun
  | [d1, d2] => { results := [.lit (.bool false)], args := [d1, d2] }
  | _ => none }
def FnExactGreedyLoadWrongFalsely : Prop := fnExactGreedyLoadRow.holds Try.pinned (OpenSpec.ofChange fnExactGreedyLoadWrong)

/-- 'laws.FnExactBestLoad': WHATEVER THE INPUT: true; the input reads as it did. -/
def fnExactBestLoadSpec : ChangeSpec := { name := "fnExactBestLoad", fn := fun _ => fun
  | [d1, d2] => { results := [.lit (.bool true)], args := [d1, d2] }
  | _ => none }
def fnExactBestLoadRow : OpenClaim := { program := "ytadfjnpcpgniaaa", sum := "30767535ecbe49ca1e0466d27fe4291ab78dfb86f94b41b2ebf141c4efc3f488", func := "loop.example/g03008/laws.FnExactBestLoad", spec := "fnExactBestLoad", unfollowed := true, recurses := true, apart := false }
def FnExactBestLoadSaid : Prop := fnExactBestLoadRow.holds Try.pinned (OpenSpec.ofChange fnExactBestLoadSpec)

/-- ITS FALSE NEIGHBOUR: 'it returns false'. Refute it at one input. -/
def fnExactBestLoadWrong : ChangeSpec := { name := "fnExactBestLoad", fn := fun _ => fun
  | [d1, d2] => { results := [.lit (.bool false)], args := [d1, d2] }
  | _ => none }
def FnExactBestLoadWrongFalsely : Prop := fnExactBestLoadRow.holds Try.pinned (OpenSpec.ofChange fnExactBestLoadWrong)

/-- 'laws.FnExactBestWorth': WHATEVER THE INPUT: true; the input reads as it did. -/
def fnExactBestWorthSpec : ChangeSpec := { name := "fnExactBestWorth", fn := fun _ => fun
  | [d1, d2] => { results := [.lit (.bool true)], args := [d1, d2] }
  | _ => none }
def fnExactBestWorthRow : OpenClaim := { program := "ytadfjnpcpgniaaa", sum := "30767535ecbe49ca1e0466d27fe4291ab78dfb86f94b41b2ebf141c4efc3f488", func := "loop.example/g03008/laws.FnExactBestWorth", spec := "fnExactBestWorth", unfollowed := true, recurses := true, apart := false }
def FnExactBestWorthSaid : Prop := fnExactBestWorthRow.holds Try.pinned (OpenSpec.ofChange fnExactBestWorthSpec)

/-- ITS FALSE NEIGHBOUR: 'it returns false'. Refute it at one input. -/
def fnExactBestWorthWrong : ChangeSpec := { name := "fnExactBestWorth", fn := fun _ => fun
  | [d1, d2] => { results := [.lit (.bool false)], args := [d1, d2] }
  | _ => none }
def FnExactBestWorthWrongFalsely : Prop := fnExactBestWorthRow.holds Try.pinned (OpenSpec.ofChange fnExactBestWorthWrong)

/-- 'laws.FnSamples': WHATEVER THE INPUT: true; the input reads as it did. -/
def fnSamplesSpec : ChangeSpec := { name := "fnSamples", fn := fun _ => fun
  | [d] => { results := [.lit (.bool true)], args := [d] }
  | _ => none }
def fnSamplesRow : OpenClaim := { program := "ytadfjnpcpgniaaa", sum := "30767535ecbe49ca1e0466d27fe4291ab78dfb86f94b41b2ebf141c4efc3f488", func := "loop.example/g03008/laws.FnSamples", spec := "fnSamples", unfollowed := true, recurses := true, apart := false }
def FnSamplesSaid : Prop := fnSamplesRow.holds Try.pinned (OpenSpec.ofChange fnSamplesSpec)

/-- ITS FALSE NEIGHBOUR: 'it returns false'. Refute it at one input. -/
def fnSamplesWrong : ChangeSpec := { name := "fnSamples", fn := fun _ => fun
  | [d] => { results := [.lit (.bool false)], args := [d] }
  | _ => none }
def FnSamplesWrongFalsely : Prop := fnSamplesRow.holds Try.pinned (OpenSpec.ofChange fnSamplesWrong)

/-- 'laws.FnExactSamePages': WHATEVER THE INPUT: true; the input reads as it did. -/
def fnExactSamePagesSpec : ChangeSpec := { name := "fnExactSamePages", fn := fun _ => fun
  | [d1, d2] => { results := [.lit (.bool true)], args := [d1, d2] }
  | _ => none }
def fnExactSamePagesRow : OpenClaim := { program := "ytadfjnpcpgniaaa", sum := "30767535ecbe49ca1e0466d27fe4291ab78dfb86f94b41b2ebf141c4efc3f488", func := "loop.example/g03008/laws.FnExactSamePages", spec := "fnExactSamePages", unfollowed := true, recurses := true, apart := false }
def FnExactSamePagesSaid : Prop := fnExactSamePagesRow.holds Try.pinned (OpenSpec.ofChange fnExactSamePagesSpec)

/-- ITS FALSE NEIGHBOUR: 'it returns false'. Refute it at one input. -/
def fnExactSamePagesWrong : ChangeSpec := { name := "fnExactSamePages", fn := fun _ => fun
  | [d1, d2] => { results := [.lit (.bool false)], args := [d1, d2] }
  | _ => none }
def FnExactSamePagesWrongFalsely : Prop := fnExactSamePagesRow.holds Try.pinned (OpenSpec.ofChange fnExactSamePagesWrong)

/- THE SECOND FORM. 'bulk': how many values and letters a reading holds, each counted each time it is reached (what is shared counts as often as it is met; a slice's spare places count too). A statement '..UptoSaid' is the law's where the arguments, and the package variables that the reading takes, are together of bulk at most 1048576: NARROWER than '..Said'. Prove '..Said' where nothing that the law and all that it calls make is longer than what came in: it says more and counts as full. Else prove '..UptoSaid'. A law counts once. -/
mutual
def uptoBulk {H : Type} : DataW H → Nat
  | .lit (.string bytes) => bytes.length + 1
  | .lit _ => 1
  | .nil => 1
  | .ptr d => uptoBulk d + 1
  | .slice elems spare => uptoBulkAll elems + uptoBulkAll spare + 1
  | .agg parts => uptoBulkAll parts + 1
  | .iface _ d => uptoBulk d + 1
  | .map entries => uptoBulkEntries entries + 1
  | .held _ => 1
def uptoBulkAll {H : Type} : List (DataW H) → Nat
  | [] => 0
  | d :: r => uptoBulk d + uptoBulkAll r
def uptoBulkEntries {H : Type} : List (Lit × DataW H) → Nat
  | [] => 0
  | x :: r => uptoBulkEntry x + uptoBulkEntries r
def uptoBulkEntry {H : Type} : Lit × DataW H → Nat
  | (.string bytes, d) => bytes.length + uptoBulk d + 1
  | (_, d) => uptoBulk d + 1
 end
def uptoSmall : (H : Type) → List (DataW H) → Bool := fun _ ds => decide (uptoBulkAll ds ≤ 1048576)
def OpenSpec.upto (s : _root_.Go.ChangeSpec) : _root_.Go.OpenSpec := { _root_.Go.OpenSpec.ofChange s with cond := some uptoSmall }

/-- 'laws.FnExactAreSamples', WHERE WHAT IT READS IS OF BULK AT MOST 1048576: true; the input reads as it did. -/
def fnExactAreSamplesUptoRow : OpenClaim := { program := "ytadfjnpcpgniaaa", sum := "30767535ecbe49ca1e0466d27fe4291ab78dfb86f94b41b2ebf141c4efc3f488", func := "loop.example/g03008/laws.FnExactAreSamples", spec := "fnExactAreSamples", apart := false, narrowed := true }
def FnExactAreSamplesUptoSaid : Prop := fnExactAreSamplesUptoRow.holds Try.pinned (OpenSpec.upto fnExactAreSamplesSpec)

/-- 'laws.FnExactWeightOf', WHERE WHAT IT READS IS OF BULK AT MOST 1048576: true; the input reads as it did. -/
def fnExactWeightOfUptoRow : OpenClaim := { program := "ytadfjnpcpgniaaa", sum := "30767535ecbe49ca1e0466d27fe4291ab78dfb86f94b41b2ebf141c4efc3f488", func := "loop.example/g03008/laws.FnExactWeightOf", spec := "fnExactWeightOf", unfollowed := true, recurses := true, apart := false, narrowed := true }
def FnExactWeightOfUptoSaid : Prop := fnExactWeightOfUptoRow.holds Try.pinned (OpenSpec.upto fnExactWeightOfSpec)

/-- 'laws.FnExactWorthOf', WHERE WHAT IT READS IS OF BULK AT MOST 1048576: true; the input reads as it did. -/
def fnExactWorthOfUptoRow : OpenClaim := { program := "ytadfjnpcpgniaaa", sum := "30767535ecbe49ca1e0466d27fe4291ab78dfb86f94b41b2ebf141c4efc3f488", func := "loop.example/g03008/laws.FnExactWorthOf", spec := "fnExactWorthOf", unfollowed := true, recurses := true, apart := false, narrowed := true }
def FnExactWorthOfUptoSaid : Prop := fnExactWorthOfUptoRow.holds Try.pinned (OpenSpec.upto fnExactWorthOfSpec)

/-- 'laws.FnExactGreedyLoad', WHERE WHAT IT READS IS OF BULK AT MOST 1048576: true; the input reads as it did. -/
def fnExactGreedyLoadUptoRow : OpenClaim := { program := "ytadfjnpcpgniaaa", sum := "30767535ecbe49ca1e0466d27fe4291ab78dfb86f94b41b2ebf141c4efc3f488", func := "loop.example/g03008/laws.FnExactGreedyLoad", spec := "fnExactGreedyLoad", apart := false, narrowed := true }
def FnExactGreedyLoadUptoSaid : Prop := fnExactGreedyLoadUptoRow.holds Try.pinned (OpenSpec.upto fnExactGreedyLoadSpec)

/-- 'laws.FnExactBestLoad', WHERE WHAT IT READS IS OF BULK AT MOST 1048576: true; the input reads as it did. -/
def fnExactBestLoadUptoRow : OpenClaim := { program := "ytadfjnpcpgniaaa", sum := "30767535ecbe49ca1e0466d27fe4291ab78dfb86f94b41b2ebf141c4efc3f488", func := "loop.example/g03008/laws.FnExactBestLoad", spec := "fnExactBestLoad", unfollowed := true, recurses := true, apart := false, narrowed := true }
def FnExactBestLoadUptoSaid : Prop := fnExactBestLoadUptoRow.holds Try.pinned (OpenSpec.upto fnExactBestLoadSpec)

/-- 'laws.FnExactBestWorth', WHERE WHAT IT READS IS OF BULK AT MOST 1048576: true; the input reads as it did. -/
def fnExactBestWorthUptoRow : OpenClaim := { program := "ytadfjnpcpgniaaa", sum := "30767535ecbe49ca1e0466d27fe4291ab78dfb86f94b41b2ebf141c4efc3f488", func := "loop.example/g03008/laws.FnExactBestWorth", spec := "fnExactBestWorth", unfollowed := true, recurses := true, apart := false, narrowed := true }
def FnExactBestWorthUptoSaid : Prop := fnExactBestWorthUptoRow.holds Try.pinned (OpenSpec.upto fnExactBestWorthSpec)

/-- 'laws.FnSamples', WHERE WHAT IT READS IS OF BULK AT MOST 1048576: true; the input reads as it did. -/
def fnSamplesUptoRow : OpenClaim := { program := "ytadfjnpcpgniaaa", sum := "30767535ecbe49ca1e0466d27fe4291ab78dfb86f94b41b2ebf141c4efc3f488", func := "loop.example/g03008/laws.FnSamples", spec := "fnSamples", unfollowed := true, recurses := true, apart := false, narrowed := true }
def FnSamplesUptoSaid : Prop := fnSamplesUptoRow.holds Try.pinned (OpenSpec.upto fnSamplesSpec)

/-- 'laws.FnExactSamePages', WHERE WHAT IT READS IS OF BULK AT MOST 1048576: true; the input reads as it did. -/
def fnExactSamePagesUptoRow : OpenClaim := { program := "ytadfjnpcpgniaaa", sum := "30767535ecbe49ca1e0466d27fe4291ab78dfb86f94b41b2ebf141c4efc3f488", func := "loop.example/g03008/laws.FnExactSamePages", spec := "fnExactSamePages", unfollowed := true, recurses := true, apart := false, narrowed := true }
def FnExactSamePagesUptoSaid : Prop := fnExactSamePagesUptoRow.holds Try.pinned (OpenSpec.upto fnExactSamePagesSpec)

end Rows
end Go.Proofs.Ytadfjnpcpgniaaa

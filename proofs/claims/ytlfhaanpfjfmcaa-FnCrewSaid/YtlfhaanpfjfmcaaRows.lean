/-
  No cell of these rows narrows 'for every input' (looked for: loops, veiled, ifaces, maps, wideKeys, modest, calm, conditions, laid).
  DERIVED. THE GIVEN ROWS OF THIS SEAT. 7 by the template 'for every input the law returns true; each argument reads behind the call as it read before'; 0 by the template 'total and deterministic' (their statements: YtlfhaanpfjfmcaaTotals.lean).
  GIVEN WITH THE SEED: the statements are not yours to turn. If you find one false, say at which input.
  Laid BY PROGRAM, IN A SANDBOX (cutbox-rows.mjs): the forced cells as the released guide's own fill.sh prints them over the translation d6c0b839d2ccf127… (all of the seat's roots in one cut). By AI agents, Wed Nov 11 2026. No macro, syntax, notation, axiom, sorry.
-/
import Derived.Test.YtlfhaanpfjfmcaaChecked
import GoSem.Claim
import GoSem.ClaimJoined
import GoSem.ClaimMapViews
import Derived.JoinedTies
import Derived.KernelRfl
namespace Go.Proofs.Ytlfhaanpfjfmcaa
/- THE CELL 'sum', in the pinned program and in every row, IS THE sha256 OF THE DUMP (.gsa) THAT YtlfhaanpfjfmcaaProg.lean LOADS. Nothing in Lean hashes anything: it is a label: what it is worth is what the hold of that sum in a sandbox is worth. -/
noncomputable def Try.pinned : Pinned := { name := "ytlfhaanpfjfmcaa", sum := "d6c0b839d2ccf127209bcec39eec7ce9bb569da2aa2109cf192e546295dabb16", checked := Try.checked }
namespace Rows
def none {H : Type} : Left H := { results := [], args := [] }

/-- 'laws.FnCrew': WHATEVER THE INPUT: true; the input reads as it did. -/
def fnCrewSpec : ChangeSpec := { name := "fnCrew", fn := fun _ => fun
  | [d] => { results := [.lit (.bool true)], args := [d] }
  | _ => none }
def fnCrewRow : OpenClaim := { program := "ytlfhaanpfjfmcaa", sum := "d6c0b839d2ccf127209bcec39eec7ce9bb569da2aa2109cf192e546295dabb16", func := "loop.example/g03008/laws.FnCrew", spec := "fnCrew", unfollowed := true, recurses := true, apart := false }
def FnCrewSaid : Prop := fnCrewRow.holds Try.pinned (OpenSpec.ofChange fnCrewSpec)

/-- ITS FALSE NEIGHBOUR: 'it returns false'. Refute it at one input. -/
def fnCrewWrong : ChangeSpec := { name := "fnCrew", fn := fun _ => fun
  | [d] => { results := [.lit (.bool false)], args := [d] }
  | _ => none }
def FnCrewWrongFalsely : Prop := fnCrewRow.holds Try.pinned (OpenSpec.ofChange fnCrewWrong)

/-- 'laws.FnExactAreCrew': WHATEVER THE INPUT: true; the input reads as it did. -/
def fnExactAreCrewSpec : ChangeSpec := { name := "fnExactAreCrew", fn := fun _ => fun
  | [d] => { results := [.lit (.bool true)], args := [d] }
  | _ => none }
def fnExactAreCrewRow : OpenClaim := { program := "ytlfhaanpfjfmcaa", sum := "d6c0b839d2ccf127209bcec39eec7ce9bb569da2aa2109cf192e546295dabb16", func := "loop.example/g03008/laws.FnExactAreCrew", spec := "fnExactAreCrew", apart := false }
def FnExactAreCrewSaid : Prop := fnExactAreCrewRow.holds Try.pinned (OpenSpec.ofChange fnExactAreCrewSpec)

/-- ITS FALSE NEIGHBOUR: 'it returns false'. Refute it at one input. -/
def fnExactAreCrewWrong : ChangeSpec := { name := "fnExactAreCrew", fn := fun _ => fun
  | [d] => { results := [.lit (.bool false)], args := [d] }
  | _ => none }
def FnExactAreCrewWrongFalsely : Prop := fnExactAreCrewRow.holds Try.pinned (OpenSpec.ofChange fnExactAreCrewWrong)

/-- 'laws.FnExactNeedOf': WHATEVER THE INPUT: true; the input reads as it did. -/
def fnExactNeedOfSpec : ChangeSpec := { name := "fnExactNeedOf", fn := fun _ => fun
  | [d] => { results := [.lit (.bool true)], args := [d] }
  | _ => none }
def fnExactNeedOfRow : OpenClaim := { program := "ytlfhaanpfjfmcaa", sum := "d6c0b839d2ccf127209bcec39eec7ce9bb569da2aa2109cf192e546295dabb16", func := "loop.example/g03008/laws.FnExactNeedOf", spec := "fnExactNeedOf", unfollowed := true, recurses := true, apart := false }
def FnExactNeedOfSaid : Prop := fnExactNeedOfRow.holds Try.pinned (OpenSpec.ofChange fnExactNeedOfSpec)

/-- ITS FALSE NEIGHBOUR: 'it returns false'. Refute it at one input. -/
def fnExactNeedOfWrong : ChangeSpec := { name := "fnExactNeedOf", fn := fun _ => fun
  | [d] => { results := [.lit (.bool false)], args := [d] }
  | _ => none }
def FnExactNeedOfWrongFalsely : Prop := fnExactNeedOfRow.holds Try.pinned (OpenSpec.ofChange fnExactNeedOfWrong)

/-- 'laws.FnExactCapOf': WHATEVER THE INPUT: true; the input reads as it did. -/
def fnExactCapOfSpec : ChangeSpec := { name := "fnExactCapOf", fn := fun _ => fun
  | [d] => { results := [.lit (.bool true)], args := [d] }
  | _ => none }
def fnExactCapOfRow : OpenClaim := { program := "ytlfhaanpfjfmcaa", sum := "d6c0b839d2ccf127209bcec39eec7ce9bb569da2aa2109cf192e546295dabb16", func := "loop.example/g03008/laws.FnExactCapOf", spec := "fnExactCapOf", unfollowed := true, recurses := true, apart := false }
def FnExactCapOfSaid : Prop := fnExactCapOfRow.holds Try.pinned (OpenSpec.ofChange fnExactCapOfSpec)

/-- ITS FALSE NEIGHBOUR: 'it returns false'. Refute it at one input. -/
def fnExactCapOfWrong : ChangeSpec := { name := "fnExactCapOf", fn := fun _ => fun
  | [d] => { results := [.lit (.bool false)], args := [d] }
  | _ => none }
def FnExactCapOfWrongFalsely : Prop := fnExactCapOfRow.holds Try.pinned (OpenSpec.ofChange fnExactCapOfWrong)

/-- 'laws.FnExactSetIll': WHATEVER THE INPUT: true; the input reads as it did. -/
def fnExactSetIllSpec : ChangeSpec := { name := "fnExactSetIll", fn := fun _ => fun
  | [d1, d2, d3] => { results := [.lit (.bool true)], args := [d1, d2, d3] }
  | _ => none }
def fnExactSetIllRow : OpenClaim := { program := "ytlfhaanpfjfmcaa", sum := "d6c0b839d2ccf127209bcec39eec7ce9bb569da2aa2109cf192e546295dabb16", func := "loop.example/g03008/laws.FnExactSetIll", spec := "fnExactSetIll", apart := false }
def FnExactSetIllSaid : Prop := fnExactSetIllRow.holds Try.pinned (OpenSpec.ofChange fnExactSetIllSpec)

/-- ITS FALSE NEIGHBOUR: 'it returns false'. Refute it at one input. -/
def fnExactSetIllWrong : ChangeSpec := { name := "fnExactSetIll", fn := fun _ => fun
  | [d1, d2, d3] => { results := [.lit (.bool false)], args := [d1, d2, d3] }
  | _ => none }
def FnExactSetIllWrongFalsely : Prop := fnExactSetIllRow.holds Try.pinned (OpenSpec.ofChange fnExactSetIllWrong)

/-- 'laws.FnExactHealthy': WHATEVER THE INPUT: true; the input reads as it did. -/
def fnExactHealthySpec : ChangeSpec := { name := "fnExactHealthy", fn := fun _ => fun
  | [d] => { results := [.lit (.bool true)], args := [d] }
  | _ => none }
def fnExactHealthyRow : OpenClaim := { program := "ytlfhaanpfjfmcaa", sum := "d6c0b839d2ccf127209bcec39eec7ce9bb569da2aa2109cf192e546295dabb16", func := "loop.example/g03008/laws.FnExactHealthy", spec := "fnExactHealthy", apart := false }
def FnExactHealthySaid : Prop := fnExactHealthyRow.holds Try.pinned (OpenSpec.ofChange fnExactHealthySpec)

/-- ITS FALSE NEIGHBOUR: 'it returns false'. Refute it at one input. -/
def fnExactHealthyWrong : ChangeSpec := { name := "fnExactHealthy", fn := fun _ => fun
  | [d] => { results := [.lit (.bool false)], args := [d] }
  | _ => none }
def FnExactHealthyWrongFalsely : Prop := fnExactHealthyRow.holds Try.pinned (OpenSpec.ofChange fnExactHealthyWrong)

/-- 'laws.FnExactStrongest': WHATEVER THE INPUT: true; the input reads as it did. -/
def fnExactStrongestSpec : ChangeSpec := { name := "fnExactStrongest", fn := fun _ => fun
  | [d] => { results := [.lit (.bool true)], args := [d] }
  | _ => none }
def fnExactStrongestRow : OpenClaim := { program := "ytlfhaanpfjfmcaa", sum := "d6c0b839d2ccf127209bcec39eec7ce9bb569da2aa2109cf192e546295dabb16", func := "loop.example/g03008/laws.FnExactStrongest", spec := "fnExactStrongest", apart := false }
def FnExactStrongestSaid : Prop := fnExactStrongestRow.holds Try.pinned (OpenSpec.ofChange fnExactStrongestSpec)

/-- ITS FALSE NEIGHBOUR: 'it returns false'. Refute it at one input. -/
def fnExactStrongestWrong : ChangeSpec := { name := "fnExactStrongest", fn := fun _ => fun
  | [d] => { results := [.lit (.bool false)], args := [d] }
  | _ => none }
def FnExactStrongestWrongFalsely : Prop := fnExactStrongestRow.holds Try.pinned (OpenSpec.ofChange fnExactStrongestWrong)

/- THE SECOND FORM. 'bulk': how many values and letters a reading holds, each counted each time it is reached (what is shared counts as often as it is met; a slice's spare places count too). A statement '..UptoSaid' is the law's where the arguments, and the package variables that the reading takes, are together of bulk at most 1048576: NARROWER than '..Said'. Prove '..Said' where nothing that the law and all that it calls make is longer than what came in: it says more and counts as full. Else prove '..UptoSaid'. A law counts once. -/
mutual
def uptoBulk {H : Type} : DataW H → Nat
  | .lit (.string bytes) => bytes.length + 1
  | .lit _ => 1
  | .nil => 1
  | .ptr d => uptoBulk d + 1
  | .slice elems spare => uptoBulkAll elems + uptoBulkAll spare + 1
  | .agg parts => uptoBulkAll parts + 1
  | .iface _ d => uptoBulk d + 1
  | .map entries => uptoBulkEntries entries + 1
  | .held _ => 1
def uptoBulkAll {H : Type} : List (DataW H) → Nat
  | [] => 0
  | d :: r => uptoBulk d + uptoBulkAll r
def uptoBulkEntries {H : Type} : List (Lit × DataW H) → Nat
  | [] => 0
  | x :: r => uptoBulkEntry x + uptoBulkEntries r
def uptoBulkEntry {H : Type} : Lit × DataW H → Nat
  | (.string bytes, d) => bytes.length + uptoBulk d + 1
  | (_, d) => uptoBulk d + 1
 end
def uptoSmall : (H : Type) → List (DataW H) → Bool := fun _ ds => decide (uptoBulkAll ds ≤ 1048576)
def OpenSpec.upto (s : _root_.Go.ChangeSpec) : _root_.Go.OpenSpec := { _root_.Go.OpenSpec.ofChange s with cond := some uptoSmall }

/-- 'laws.FnCrew', WHERE WHAT IT READS IS OF BULK AT MOST 1048576: true; the input reads as it did. -/
def fnCrewUptoRow : OpenClaim := { program := "ytlfhaanpfjfmcaa", sum := "d6c0b839d2ccf127209bcec39eec7ce9bb569da2aa2109cf192e546295dabb16", func := "loop.example/g03008/laws.FnCrew", spec := "fnCrew", unfollowed := true, recurses := true, apart := false, narrowed := true }
def FnCrewUptoSaid : Prop := fnCrewUptoRow.holds Try.pinned (OpenSpec.upto fnCrewSpec)

/-- 'laws.FnExactAreCrew', WHERE WHAT IT READS IS OF BULK AT MOST 1048576: true; the input reads as it did. -/
def fnExactAreCrewUptoRow : OpenClaim := { program := "ytlfhaanpfjfmcaa", sum := "d6c0b839d2ccf127209bcec39eec7ce9bb569da2aa2109cf192e546295dabb16", func := "loop.example/g03008/laws.FnExactAreCrew", spec := "fnExactAreCrew", apart := false, narrowed := true }
def FnExactAreCrewUptoSaid : Prop := fnExactAreCrewUptoRow.holds Try.pinned (OpenSpec.upto fnExactAreCrewSpec)

/-- 'laws.FnExactNeedOf', WHERE WHAT IT READS IS OF BULK AT MOST 1048576: true; the input reads as it did. -/
def fnExactNeedOfUptoRow : OpenClaim := { program := "ytlfhaanpfjfmcaa", sum := "d6c0b839d2ccf127209bcec39eec7ce9bb569da2aa2109cf192e546295dabb16", func := "loop.example/g03008/laws.FnExactNeedOf", spec := "fnExactNeedOf", unfollowed := true, recurses := true, apart := false, narrowed := true }
def FnExactNeedOfUptoSaid : Prop := fnExactNeedOfUptoRow.holds Try.pinned (OpenSpec.upto fnExactNeedOfSpec)

/-- 'laws.FnExactCapOf', WHERE WHAT IT READS IS OF BULK AT MOST 1048576: true; the input reads as it did. -/
def fnExactCapOfUptoRow : OpenClaim := { program := "ytlfhaanpfjfmcaa", sum := "d6c0b839d2ccf127209bcec39eec7ce9bb569da2aa2109cf192e546295dabb16", func := "loop.example/g03008/laws.FnExactCapOf", spec := "fnExactCapOf", unfollowed := true, recurses := true, apart := false, narrowed := true }
def FnExactCapOfUptoSaid : Prop := fnExactCapOfUptoRow.holds Try.pinned (OpenSpec.upto fnExactCapOfSpec)

/-- 'laws.FnExactSetIll', WHERE WHAT IT READS IS OF BULK AT MOST 1048576: true; the input reads as it did. -/
def fnExactSetIllUptoRow : OpenClaim := { program := "ytlfhaanpfjfmcaa", sum := "d6c0b839d2ccf127209bcec39eec7ce9bb569da2aa2109cf192e546295dabb16", func := "loop.example/g03008/laws.FnExactSetIll", spec := "fnExactSetIll", apart := false, narrowed := true }
def FnExactSetIllUptoSaid : Prop := fnExactSetIllUptoRow.holds Try.pinned (OpenSpec.upto fnExactSetIllSpec)

/-- 'laws.FnExactHealthy', WHERE WHAT IT READS IS OF BULK AT MOST 1048576: true; the input reads as it did. -/
def fnExactHealthyUptoRow : OpenClaim := { program := "ytlfhaanpfjfmcaa", sum := "d6c0b839d2ccf127209bcec39eec7ce9bb569da2aa2109cf192e546295dabb16", func := "loop.example/g03008/laws.FnExactHealthy", spec := "fnExactHealthy", apart := false, narrowed := true }
def FnExactHealthyUptoSaid : Prop := fnExactHealthyUptoRow.holds Try.pinned (OpenSpec.upto fnExactHealthySpec)

/-- 'laws.FnExactStrongest', WHERE WHAT IT READS IS OF BULK AT MOST 1048576: true; the input reads as it did. -/
def fnExactStrongestUptoRow : OpenClaim := { program := "ytlfhaanpfjfmcaa", sum := "d6c0b839d2ccf127209bcec39eec7ce9bb569da2aa2109cf192e546295dabb16", func := "loop.example/g03008/laws.FnExactStrongest", spec := "fnExactStrongest", apart := false, narrowed := true }
def FnExactStrongestUptoSaid : Prop := fnExactStrongestUptoRow.holds Try.pinned (OpenSpec.upto fnExactStrongestSpec)

end Rows
end Go.Proofs.Ytlfhaanpfjfmcaa

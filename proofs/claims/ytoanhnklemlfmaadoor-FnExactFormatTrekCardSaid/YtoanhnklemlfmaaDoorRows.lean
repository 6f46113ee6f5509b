/-
  NARROWER THAN 'FOR EVERY INPUT', by the rows' own cells (each row's printed sentence says how): FnExactCellText: laid · FnExactParseCell: laid · FnExactWayText: laid · FnExactPartyText: laid · FnExactFormatNumbers: laid · FnExactFormatDepots: laid · FnExactFormatJournal: laid · FnExactFormatCells: laid · FnExactFormatTrek: laid · FnExactStormShare: laid · FnExactOpenShare: laid.
  DERIVED. THE GIVEN ROWS OF THIS SEAT. 11 by the template 'for every input the law returns true; each argument reads behind the call as it read before'; 0 by the template 'total and deterministic' (their statements: YtoanhnklemlfmaaDoorTotals.lean).
  GIVEN WITH THE SEED: the statements are not yours to turn. If you find one false, say at which input.
  Laid BY PROGRAM, IN A SANDBOX (cutbox-rows.mjs): the forced cells as the released guide's own fill.sh prints them over the translation 5835e26a84e41908… (all of the seat's roots in one cut). By AI agents, Wed Nov 11 2026. No macro, syntax, notation, axiom, sorry.
-/
import Derived.Test.YtoanhnklemlfmaaDoorChecked
import GoSem.Claim
import GoSem.ClaimJoined
import GoSem.ClaimMapViews
import Derived.JoinedTies
import Derived.KernelRfl
namespace Go.Proofs.YtoanhnklemlfmaaDoor
/- THE CELL 'sum', in the pinned program and in every row, IS THE sha256 OF THE DUMP (.gsa) THAT YtoanhnklemlfmaaDoorProg.lean LOADS. Nothing in Lean hashes anything: it is a label: what it is worth is what the hold of that sum in a sandbox is worth. -/
noncomputable def Tryd.pinned : Pinned := { name := "ytoanhnklemlfmaadoor", sum := "5835e26a84e419087e317507309ea6bd0f39c977d820cfe625944325304cd9de", checked := Tryd.checked }
namespace Rows
def none {H : Type} : Left H := { results := [], args := [] }

/- WHAT THE LISTED PACKAGE-LEVEL VARIABLES READ AS WHEN THE CALL BEGINS. Each datum BY PROGRAM (the guide's laid-datum.mjs) off the statement by which the dump's own 'gosem.cut.vars' lays the variable. In a bare row this is a premise. The card (YtoanhnklemlfmaaDoorCards.lean) ties it to the program's text. -/
def laid_math_bits_deBruijn32tab {H : Type} : DataW H := .agg [.lit (.int .u8 0), .lit (.int .u8 1), .lit (.int .u8 28), .lit (.int .u8 2), .lit (.int .u8 29), .lit (.int .u8 14), .lit (.int .u8 24), .lit (.int .u8 3), .lit (.int .u8 30), .lit (.int .u8 22), .lit (.int .u8 20), .lit (.int .u8 15), .lit (.int .u8 25), .lit (.int .u8 17), .lit (.int .u8 4), .lit (.int .u8 8), .lit (.int .u8 31), .lit (.int .u8 27), .lit (.int .u8 13), .lit (.int .u8 23), .lit (.int .u8 21), .lit (.int .u8 19), .lit (.int .u8 16), .lit (.int .u8 7), .lit (.int .u8 26), .lit (.int .u8 12), .lit (.int .u8 18), .lit (.int .u8 6), .lit (.int .u8 11), .lit (.int .u8 5), .lit (.int .u8 10), .lit (.int .u8 9)]
def laid_math_bits_deBruijn64tab {H : Type} : DataW H := .agg [.lit (.int .u8 0), .lit (.int .u8 1), .lit (.int .u8 56), .lit (.int .u8 2), .lit (.int .u8 57), .lit (.int .u8 49), .lit (.int .u8 28), .lit (.int .u8 3), .lit (.int .u8 61), .lit (.int .u8 58), .lit (.int .u8 42), .lit (.int .u8 50), .lit (.int .u8 38), .lit (.int .u8 29), .lit (.int .u8 17), .lit (.int .u8 4), .lit (.int .u8 62), .lit (.int .u8 47), .lit (.int .u8 59), .lit (.int .u8 36), .lit (.int .u8 45), .lit (.int .u8 43), .lit (.int .u8 51), .lit (.int .u8 22), .lit (.int .u8 53), .lit (.int .u8 39), .lit (.int .u8 33), .lit (.int .u8 30), .lit (.int .u8 24), .lit (.int .u8 18), .lit (.int .u8 12), .lit (.int .u8 5), .lit (.int .u8 63), .lit (.int .u8 55), .lit (.int .u8 48), .lit (.int .u8 27), .lit (.int .u8 60), .lit (.int .u8 41), .lit (.int .u8 37), .lit (.int .u8 16), .lit (.int .u8 46), .lit (.int .u8 35), .lit (.int .u8 44), .lit (.int .u8 21), .lit (.int .u8 52), .lit (.int .u8 32), .lit (.int .u8 23), .lit (.int .u8 11), .lit (.int .u8 54), .lit (.int .u8 26), .lit (.int .u8 40), .lit (.int .u8 15), .lit (.int .u8 34), .lit (.int .u8 20), .lit (.int .u8 31), .lit (.int .u8 10), .lit (.int .u8 25), .lit (.int .u8 14), .lit (.int .u8 19), .lit (.int .u8 9), .lit (.int .u8 13), .lit (.int .u8 8), .lit (.int .u8 7), .lit (.int .u8 6)]
def laid_internal_strconv_uint64pow10 {H : Type} : DataW H := .agg [.lit (.int .u64 1), .lit (.int .u64 10), .lit (.int .u64 100), .lit (.int .u64 1000), .lit (.int .u64 10000), .lit (.int .u64 100000), .lit (.int .u64 1000000), .lit (.int .u64 10000000), .lit (.int .u64 100000000), .lit (.int .u64 1000000000), .lit (.int .u64 10000000000), .lit (.int .u64 100000000000), .lit (.int .u64 1000000000000), .lit (.int .u64 10000000000000), .lit (.int .u64 100000000000000), .lit (.int .u64 1000000000000000), .lit (.int .u64 10000000000000000), .lit (.int .u64 100000000000000000), .lit (.int .u64 1000000000000000000), .lit (.int .u64 10000000000000000000)]
def laid_errors_errorType {H : Type} : DataW H := .iface "internal/reflectlite.rtype" (.agg [.ptr (.lit (.string [101, 114, 114, 111, 114]))])

/-- 'laws.FnExactCellText': WHATEVER THE INPUT: true; the input reads as it did. -/
def fnExactCellTextSpec : ChangeSpec := { name := "fnExactCellText", fn := fun _ => fun
  | [d1, d2] => { results := [.lit (.bool true)], args := [d1, d2] }
  | _ => none }
def fnExactCellTextRow : OpenClaim := { program := "ytoanhnklemlfmaadoor", sum := "5835e26a84e419087e317507309ea6bd0f39c977d820cfe625944325304cd9de", func := "loop.example/g03008/laws.FnExactCellText", spec := "fnExactCellText", inPlace := ["internal/abi.NoEscape"], unfollowed := true, recurses := true, named := ["internal/strconv.uint64pow10", "math/bits.deBruijn32tab", "math/bits.deBruijn64tab"], apart := false, laid := [("math/bits.deBruijn32tab", laid_math_bits_deBruijn32tab), ("math/bits.deBruijn64tab", laid_math_bits_deBruijn64tab), ("internal/strconv.uint64pow10", laid_internal_strconv_uint64pow10)] }
def FnExactCellTextSaid : Prop := fnExactCellTextRow.holds Tryd.pinned (OpenSpec.ofChange fnExactCellTextSpec)

/-- ITS FALSE NEIGHBOUR: 'it returns false'. Refute it at one input. -/
def fnExactCellTextWrong : ChangeSpec := { name := "fnExactCellText", fn := fun _ => fun
  | [d1, d2] => { results := [.lit (.bool false)], args := [d1, d2] }
  | _ => none }
def FnExactCellTextWrongFalsely : Prop := fnExactCellTextRow.holds Tryd.pinned (OpenSpec.ofChange fnExactCellTextWrong)

/-- 'laws.FnExactParseCell': WHATEVER THE INPUT: true; the input reads as it did. -/
def fnExactParseCellSpec : ChangeSpec := { name := "fnExactParseCell", fn := fun _ => fun
  | [d1, d2] => { results := [.lit (.bool true)], args := [d1, d2] }
  | _ => none }
def fnExactParseCellRow : OpenClaim := { program := "ytoanhnklemlfmaadoor", sum := "5835e26a84e419087e317507309ea6bd0f39c977d820cfe625944325304cd9de", func := "loop.example/g03008/laws.FnExactParseCell", spec := "fnExactParseCell", inPlace := ["internal/abi.NoEscape"], unfollowed := true, recurses := true, named := ["internal/strconv.uint64pow10", "math/bits.deBruijn32tab", "math/bits.deBruijn64tab"], apart := false, laid := [("math/bits.deBruijn32tab", laid_math_bits_deBruijn32tab), ("math/bits.deBruijn64tab", laid_math_bits_deBruijn64tab), ("internal/strconv.uint64pow10", laid_internal_strconv_uint64pow10)] }
def FnExactParseCellSaid : Prop := fnExactParseCellRow.holds Tryd.pinned (OpenSpec.ofChange fnExactParseCellSpec)

/-- ITS FALSE NEIGHBOUR: 'it returns false'. Refute it at one input. -/
def fnExactParseCellWrong : ChangeSpec := { name := "fnExactParseCell", fn := fun _ => fun
  | [d1, d2] => { results := [.lit (.bool false)], args := [d1, d2] }
  | _ => none }
def FnExactParseCellWrongFalsely : Prop := fnExactParseCellRow.holds Tryd.pinned (OpenSpec.ofChange fnExactParseCellWrong)

/-- 'laws.FnExactWayText': WHATEVER THE INPUT: true; the input reads as it did. -/
def fnExactWayTextSpec : ChangeSpec := { name := "fnExactWayText", fn := fun _ => fun
  | [d1, d2] => { results := [.lit (.bool true)], args := [d1, d2] }
  | _ => none }
def fnExactWayTextRow : OpenClaim := { program := "ytoanhnklemlfmaadoor", sum := "5835e26a84e419087e317507309ea6bd0f39c977d820cfe625944325304cd9de", func := "loop.example/g03008/laws.FnExactWayText", spec := "fnExactWayText", inPlace := ["internal/abi.NoEscape"], unfollowed := true, recurses := true, named := ["internal/strconv.uint64pow10", "math/bits.deBruijn32tab", "math/bits.deBruijn64tab"], apart := false, laid := [("math/bits.deBruijn32tab", laid_math_bits_deBruijn32tab), ("math/bits.deBruijn64tab", laid_math_bits_deBruijn64tab), ("internal/strconv.uint64pow10", laid_internal_strconv_uint64pow10)] }
def FnExactWayTextSaid : Prop := fnExactWayTextRow.holds Tryd.pinned (OpenSpec.ofChange fnExactWayTextSpec)

/-- ITS FALSE NEIGHBOUR: 'it returns false'. Refute it at one input. -/
def fnExactWayTextWrong : ChangeSpec := { name := "fnExactWayText", fn := fun _ => fun
  | [d1, d2] => { results := [.lit (.bool false)], args := [d1, d2] }
  | _ => none }
def FnExactWayTextWrongFalsely : Prop := fnExactWayTextRow.holds Tryd.pinned (OpenSpec.ofChange fnExactWayTextWrong)

/-- 'laws.FnExactPartyText': WHATEVER THE INPUT: true; the input reads as it did. -/
def fnExactPartyTextSpec : ChangeSpec := { name := "fnExactPartyText", fn := fun _ => fun
  | [d1, d2] => { results := [.lit (.bool true)], args := [d1, d2] }
  | _ => none }
def fnExactPartyTextRow : OpenClaim := { program := "ytoanhnklemlfmaadoor", sum := "5835e26a84e419087e317507309ea6bd0f39c977d820cfe625944325304cd9de", func := "loop.example/g03008/laws.FnExactPartyText", spec := "fnExactPartyText", inPlace := ["internal/abi.NoEscape"], unfollowed := true, recurses := true, named := ["internal/strconv.uint64pow10", "math/bits.deBruijn32tab", "math/bits.deBruijn64tab"], apart := false, laid := [("math/bits.deBruijn32tab", laid_math_bits_deBruijn32tab), ("math/bits.deBruijn64tab", laid_math_bits_deBruijn64tab), ("internal/strconv.uint64pow10", laid_internal_strconv_uint64pow10)] }
def FnExactPartyTextSaid : Prop := fnExactPartyTextRow.holds Tryd.pinned (OpenSpec.ofChange fnExactPartyTextSpec)

/-- ITS FALSE NEIGHBOUR: 'it returns false'. Refute it at one input. -/
def fnExactPartyTextWrong : ChangeSpec := { name := "fnExactPartyText", fn := fun _ => fun
  | [d1, d2] => { results := [.lit (.bool false)], args := [d1, d2] }
  | _ => none }
def FnExactPartyTextWrongFalsely : Prop := fnExactPartyTextRow.holds Tryd.pinned (OpenSpec.ofChange fnExactPartyTextWrong)

/-- 'laws.FnExactFormatNumbers': WHATEVER THE INPUT: true; the input reads as it did. -/
def fnExactFormatNumbersSpec : ChangeSpec := { name := "fnExactFormatNumbers", fn := fun _ => fun
  | [d] => { results := [.lit (.bool true)], args := [d] }
  | _ => none }
def fnExactFormatNumbersRow : OpenClaim := { program := "ytoanhnklemlfmaadoor", sum := "5835e26a84e419087e317507309ea6bd0f39c977d820cfe625944325304cd9de", func := "loop.example/g03008/laws.FnExactFormatNumbers", spec := "fnExactFormatNumbers", unfollowed := true, recurses := true, named := ["internal/strconv.uint64pow10", "math/bits.deBruijn32tab", "math/bits.deBruijn64tab"], apart := false, laid := [("math/bits.deBruijn32tab", laid_math_bits_deBruijn32tab), ("math/bits.deBruijn64tab", laid_math_bits_deBruijn64tab), ("internal/strconv.uint64pow10", laid_internal_strconv_uint64pow10)] }
def FnExactFormatNumbersSaid : Prop := fnExactFormatNumbersRow.holds Tryd.pinned (OpenSpec.ofChange fnExactFormatNumbersSpec)

/-- ITS FALSE NEIGHBOUR: 'it returns false'. Refute it at one input. -/
def fnExactFormatNumbersWrong : ChangeSpec := { name := "fnExactFormatNumbers", fn := fun _ => fun
  | [d] => { results := [.lit (.bool false)], args := [d] }
  | _ => none }
def FnExactFormatNumbersWrongFalsely : Prop := fnExactFormatNumbersRow.holds Tryd.pinned (OpenSpec.ofChange fnExactFormatNumbersWrong)

/-- 'laws.FnExactFormatDepots': WHATEVER THE INPUT: true; the input reads as it did. -/
def fnExactFormatDepotsSpec : ChangeSpec := { name := "fnExactFormatDepots", fn := fun _ => fun
  | [d1, d2] => { results := [.lit (.bool true)], args := [d1, d2] }
  | _ => none }
def fnExactFormatDepotsRow : OpenClaim := { program := "ytoanhnklemlfmaadoor", sum := "5835e26a84e419087e317507309ea6bd0f39c977d820cfe625944325304cd9de", func := "loop.example/g03008/laws.FnExactFormatDepots", spec := "fnExactFormatDepots", inPlace := ["internal/abi.NoEscape"], unfollowed := true, recurses := true, named := ["internal/strconv.uint64pow10", "math/bits.deBruijn32tab", "math/bits.deBruijn64tab"], apart := false, laid := [("math/bits.deBruijn32tab", laid_math_bits_deBruijn32tab), ("math/bits.deBruijn64tab", laid_math_bits_deBruijn64tab), ("internal/strconv.uint64pow10", laid_internal_strconv_uint64pow10)] }
def FnExactFormatDepotsSaid : Prop := fnExactFormatDepotsRow.holds Tryd.pinned (OpenSpec.ofChange fnExactFormatDepotsSpec)

/-- ITS FALSE NEIGHBOUR: 'it returns false'. Refute it at one input. -/
def fnExactFormatDepotsWrong : ChangeSpec := { name := "fnExactFormatDepots", fn := fun _ => fun
  | [d1, d2] => { results := [.lit (.bool false)], args := [d1, d2] }
  | _ => none }
def FnExactFormatDepotsWrongFalsely : Prop := fnExactFormatDepotsRow.holds Tryd.pinned (OpenSpec.ofChange fnExactFormatDepotsWrong)

/-- 'laws.FnExactFormatJournal': WHATEVER THE INPUT: true; the input reads as it did. -/
def fnExactFormatJournalSpec : ChangeSpec := { name := "fnExactFormatJournal", fn := fun _ => fun
  | [d1, d2] => { results := [.lit (.bool true)], args := [d1, d2] }
  | _ => none }
def fnExactFormatJournalRow : OpenClaim := { program := "ytoanhnklemlfmaadoor", sum := "5835e26a84e419087e317507309ea6bd0f39c977d820cfe625944325304cd9de", func := "loop.example/g03008/laws.FnExactFormatJournal", spec := "fnExactFormatJournal", inPlace := ["internal/abi.NoEscape"], unfollowed := true, recurses := true, named := ["internal/strconv.uint64pow10", "math/bits.deBruijn32tab", "math/bits.deBruijn64tab"], apart := false, laid := [("math/bits.deBruijn32tab", laid_math_bits_deBruijn32tab), ("math/bits.deBruijn64tab", laid_math_bits_deBruijn64tab), ("internal/strconv.uint64pow10", laid_internal_strconv_uint64pow10)] }
def FnExactFormatJournalSaid : Prop := fnExactFormatJournalRow.holds Tryd.pinned (OpenSpec.ofChange fnExactFormatJournalSpec)

/-- ITS FALSE NEIGHBOUR: 'it returns false'. Refute it at one input. -/
def fnExactFormatJournalWrong : ChangeSpec := { name := "fnExactFormatJournal", fn := fun _ => fun
  | [d1, d2] => { results := [.lit (.bool false)], args := [d1, d2] }
  | _ => none }
def FnExactFormatJournalWrongFalsely : Prop := fnExactFormatJournalRow.holds Tryd.pinned (OpenSpec.ofChange fnExactFormatJournalWrong)

/-- 'laws.FnExactFormatCells': WHATEVER THE INPUT: true; the input reads as it did. -/
def fnExactFormatCellsSpec : ChangeSpec := { name := "fnExactFormatCells", fn := fun _ => fun
  | [d1, d2] => { results := [.lit (.bool true)], args := [d1, d2] }
  | _ => none }
def fnExactFormatCellsRow : OpenClaim := { program := "ytoanhnklemlfmaadoor", sum := "5835e26a84e419087e317507309ea6bd0f39c977d820cfe625944325304cd9de", func := "loop.example/g03008/laws.FnExactFormatCells", spec := "fnExactFormatCells", inPlace := ["internal/abi.NoEscape"], unfollowed := true, recurses := true, named := ["internal/strconv.uint64pow10", "math/bits.deBruijn32tab", "math/bits.deBruijn64tab"], apart := false, laid := [("math/bits.deBruijn32tab", laid_math_bits_deBruijn32tab), ("math/bits.deBruijn64tab", laid_math_bits_deBruijn64tab), ("internal/strconv.uint64pow10", laid_internal_strconv_uint64pow10)] }
def FnExactFormatCellsSaid : Prop := fnExactFormatCellsRow.holds Tryd.pinned (OpenSpec.ofChange fnExactFormatCellsSpec)

/-- ITS FALSE NEIGHBOUR: 'it returns false'. Refute it at one input. -/
def fnExactFormatCellsWrong : ChangeSpec := { name := "fnExactFormatCells", fn := fun _ => fun
  | [d1, d2] => { results := [.lit (.bool false)], args := [d1, d2] }
  | _ => none }
def FnExactFormatCellsWrongFalsely : Prop := fnExactFormatCellsRow.holds Tryd.pinned (OpenSpec.ofChange fnExactFormatCellsWrong)

/-- 'laws.FnExactFormatTrek': WHATEVER THE INPUT: true; the input reads as it did. -/
def fnExactFormatTrekSpec : ChangeSpec := { name := "fnExactFormatTrek", fn := fun _ => fun
  | [d] => { results := [.lit (.bool true)], args := [d] }
  | _ => none }
def fnExactFormatTrekRow : OpenClaim := { program := "ytoanhnklemlfmaadoor", sum := "5835e26a84e419087e317507309ea6bd0f39c977d820cfe625944325304cd9de", func := "loop.example/g03008/laws.FnExactFormatTrek", spec := "fnExactFormatTrek", unfollowed := true, recurses := true, named := ["internal/strconv.uint64pow10", "math/bits.deBruijn32tab", "math/bits.deBruijn64tab"], apart := false, laid := [("math/bits.deBruijn32tab", laid_math_bits_deBruijn32tab), ("math/bits.deBruijn64tab", laid_math_bits_deBruijn64tab), ("internal/strconv.uint64pow10", laid_internal_strconv_uint64pow10)] }
def FnExactFormatTrekSaid : Prop := fnExactFormatTrekRow.holds Tryd.pinned (OpenSpec.ofChange fnExactFormatTrekSpec)

/-- ITS FALSE NEIGHBOUR: 'it returns false'. Refute it at one input. -/
def fnExactFormatTrekWrong : ChangeSpec := { name := "fnExactFormatTrek", fn := fun _ => fun
  | [d] => { results := [.lit (.bool false)], args := [d] }
  | _ => none }
def FnExactFormatTrekWrongFalsely : Prop := fnExactFormatTrekRow.holds Tryd.pinned (OpenSpec.ofChange fnExactFormatTrekWrong)

/-- 'laws.FnExactStormShare': WHATEVER THE INPUT: true; the input reads as it did. -/
def fnExactStormShareSpec : ChangeSpec := { name := "fnExactStormShare", fn := fun _ => fun
  | [d] => { results := [.lit (.bool true)], args := [d] }
  | _ => none }
def fnExactStormShareRow : OpenClaim := { program := "ytoanhnklemlfmaadoor", sum := "5835e26a84e419087e317507309ea6bd0f39c977d820cfe625944325304cd9de", func := "loop.example/g03008/laws.FnExactStormShare", spec := "fnExactStormShare", inPlace := ["internal/reflectlite.ValueOf", "(internal/reflectlite.Value).Type", "(internal/reflectlite.Value).IsNil", "internal/reflectlite.TypeOf", "(internal/reflectlite.Value).Elem", "(internal/reflectlite.Value).Set"], unfollowed := true, recurses := true, named := ["errors.errorType"], apart := false, laid := [("errors.errorType", laid_errors_errorType)] }
def FnExactStormShareSaid : Prop := fnExactStormShareRow.holds Tryd.pinned (OpenSpec.ofChange fnExactStormShareSpec)

/-- ITS FALSE NEIGHBOUR: 'it returns false'. Refute it at one input. -/
def fnExactStormShareWrong : ChangeSpec := { name := "fnExactStormShare", fn := fun _ => fun
  | [d] => { results := [.lit (.bool false)], args := [d] }
  | _ => none }
def FnExactStormShareWrongFalsely : Prop := fnExactStormShareRow.holds Tryd.pinned (OpenSpec.ofChange fnExactStormShareWrong)

/-- 'laws.FnExactOpenShare': WHATEVER THE INPUT: true; the input reads as it did. -/
def fnExactOpenShareSpec : ChangeSpec := { name := "fnExactOpenShare", fn := fun _ => fun
  | [d] => { results := [.lit (.bool true)], args := [d] }
  | _ => none }
def fnExactOpenShareRow : OpenClaim := { program := "ytoanhnklemlfmaadoor", sum := "5835e26a84e419087e317507309ea6bd0f39c977d820cfe625944325304cd9de", func := "loop.example/g03008/laws.FnExactOpenShare", spec := "fnExactOpenShare", inPlace := ["internal/reflectlite.ValueOf", "(internal/reflectlite.Value).Type", "(internal/reflectlite.Value).IsNil", "internal/reflectlite.TypeOf", "(internal/reflectlite.Value).Elem", "(internal/reflectlite.Value).Set"], unfollowed := true, recurses := true, named := ["errors.errorType"], apart := false, laid := [("errors.errorType", laid_errors_errorType)] }
def FnExactOpenShareSaid : Prop := fnExactOpenShareRow.holds Tryd.pinned (OpenSpec.ofChange fnExactOpenShareSpec)

/-- ITS FALSE NEIGHBOUR: 'it returns false'. Refute it at one input. -/
def fnExactOpenShareWrong : ChangeSpec := { name := "fnExactOpenShare", fn := fun _ => fun
  | [d] => { results := [.lit (.bool false)], args := [d] }
  | _ => none }
def FnExactOpenShareWrongFalsely : Prop := fnExactOpenShareRow.holds Tryd.pinned (OpenSpec.ofChange fnExactOpenShareWrong)

/- THE SECOND FORM. 'bulk': how many values and letters a reading holds, each counted each time it is reached (what is shared counts as often as it is met; a slice's spare places count too). A statement '..UptoSaid' is the law's where the arguments, and the package variables that the reading takes, are together of bulk at most 1048576: NARROWER than '..Said'. Prove '..Said' where nothing that the law and all that it calls make is longer than what came in: it says more and counts as full. Else prove '..UptoSaid'. A law counts once. -/
mutual
def uptoBulk {H : Type} : DataW H → Nat
  | .lit (.string bytes) => bytes.length + 1
  | .lit _ => 1
  | .nil => 1
  | .ptr d => uptoBulk d + 1
  | .slice elems spare => uptoBulkAll elems + uptoBulkAll spare + 1
  | .agg parts => uptoBulkAll parts + 1
  | .iface _ d => uptoBulk d + 1
  | .map entries => uptoBulkEntries entries + 1
  | .held _ => 1
def uptoBulkAll {H : Type} : List (DataW H) → Nat
  | [] => 0
  | d :: r => uptoBulk d + uptoBulkAll r
def uptoBulkEntries {H : Type} : List (Lit × DataW H) → Nat
  | [] => 0
  | x :: r => uptoBulkEntry x + uptoBulkEntries r
def uptoBulkEntry {H : Type} : Lit × DataW H → Nat
  | (.string bytes, d) => bytes.length + uptoBulk d + 1
  | (_, d) => uptoBulk d + 1
 end
def uptoSmall : (H : Type) → List (DataW H) → Bool := fun _ ds => decide (uptoBulkAll ds ≤ 1048576)
def OpenSpec.upto (s : _root_.Go.ChangeSpec) : _root_.Go.OpenSpec := { _root_.Go.OpenSpec.ofChange s with cond := some uptoSmall }

/-- 'laws.FnExactCellText', WHERE WHAT IT READS IS OF BULK AT MOST 1048576: true; the input reads as it did. -/
def fnExactCellTextUptoRow : OpenClaim := { program := "ytoanhnklemlfmaadoor", sum := "5835e26a84e419087e317507309ea6bd0f39c977d820cfe625944325304cd9de", func := "loop.example/g03008/laws.FnExactCellText", spec := "fnExactCellText", inPlace := ["internal/abi.NoEscape"], unfollowed := true, recurses := true, named := ["internal/strconv.uint64pow10", "math/bits.deBruijn32tab", "math/bits.deBruijn64tab"], apart := false, laid := [("math/bits.deBruijn32tab", laid_math_bits_deBruijn32tab), ("math/bits.deBruijn64tab", laid_math_bits_deBruijn64tab), ("internal/strconv.uint64pow10", laid_internal_strconv_uint64pow10)], narrowed := true }
def FnExactCellTextUptoSaid : Prop := fnExactCellTextUptoRow.holds Tryd.pinned (OpenSpec.upto fnExactCellTextSpec)

/-- 'laws.FnExactParseCell', WHERE WHAT IT READS IS OF BULK AT MOST 1048576: true; the input reads as it did. -/
def fnExactParseCellUptoRow : OpenClaim := { program := "ytoanhnklemlfmaadoor", sum := "5835e26a84e419087e317507309ea6bd0f39c977d820cfe625944325304cd9de", func := "loop.example/g03008/laws.FnExactParseCell", spec := "fnExactParseCell", inPlace := ["internal/abi.NoEscape"], unfollowed := true, recurses := true, named := ["internal/strconv.uint64pow10", "math/bits.deBruijn32tab", "math/bits.deBruijn64tab"], apart := false, laid := [("math/bits.deBruijn32tab", laid_math_bits_deBruijn32tab), ("math/bits.deBruijn64tab", laid_math_bits_deBruijn64tab), ("internal/strconv.uint64pow10", laid_internal_strconv_uint64pow10)], narrowed := true }
def FnExactParseCellUptoSaid : Prop := fnExactParseCellUptoRow.holds Tryd.pinned (OpenSpec.upto fnExactParseCellSpec)

/-- 'laws.FnExactWayText', WHERE WHAT IT READS IS OF BULK AT MOST 1048576: true; the input reads as it did. -/
def fnExactWayTextUptoRow : OpenClaim := { program := "ytoanhnklemlfmaadoor", sum := "5835e26a84e419087e317507309ea6bd0f39c977d820cfe625944325304cd9de", func := "loop.example/g03008/laws.FnExactWayText", spec := "fnExactWayText", inPlace := ["internal/abi.NoEscape"], unfollowed := true, recurses := true, named := ["internal/strconv.uint64pow10", "math/bits.deBruijn32tab", "math/bits.deBruijn64tab"], apart := false, laid := [("math/bits.deBruijn32tab", laid_math_bits_deBruijn32tab), ("math/bits.deBruijn64tab", laid_math_bits_deBruijn64tab), ("internal/strconv.uint64pow10", laid_internal_strconv_uint64pow10)], narrowed := true }
def FnExactWayTextUptoSaid : Prop := fnExactWayTextUptoRow.holds Tryd.pinned (OpenSpec.upto fnExactWayTextSpec)

/-- 'laws.FnExactPartyText', WHERE WHAT IT READS IS OF BULK AT MOST 1048576: true; the input reads as it did. -/
def fnExactPartyTextUptoRow : OpenClaim := { program := "ytoanhnklemlfmaadoor", sum := "5835e26a84e419087e317507309ea6bd0f39c977d820cfe625944325304cd9de", func := "loop.example/g03008/laws.FnExactPartyText", spec := "fnExactPartyText", inPlace := ["internal/abi.NoEscape"], unfollowed := true, recurses := true, named := ["internal/strconv.uint64pow10", "math/bits.deBruijn32tab", "math/bits.deBruijn64tab"], apart := false, laid := [("math/bits.deBruijn32tab", laid_math_bits_deBruijn32tab), ("math/bits.deBruijn64tab", laid_math_bits_deBruijn64tab), ("internal/strconv.uint64pow10", laid_internal_strconv_uint64pow10)], narrowed := true }
def FnExactPartyTextUptoSaid : Prop := fnExactPartyTextUptoRow.holds Tryd.pinned (OpenSpec.upto fnExactPartyTextSpec)

/-- 'laws.FnExactFormatNumbers', WHERE WHAT IT READS IS OF BULK AT MOST 1048576: true; the input reads as it did. -/
def fnExactFormatNumbersUptoRow : OpenClaim := { program := "ytoanhnklemlfmaadoor", sum := "5835e26a84e419087e317507309ea6bd0f39c977d820cfe625944325304cd9de", func := "loop.example/g03008/laws.FnExactFormatNumbers", spec := "fnExactFormatNumbers", unfollowed := true, recurses := true, named := ["internal/strconv.uint64pow10", "math/bits.deBruijn32tab", "math/bits.deBruijn64tab"], apart := false, laid := [("math/bits.deBruijn32tab", laid_math_bits_deBruijn32tab), ("math/bits.deBruijn64tab", laid_math_bits_deBruijn64tab), ("internal/strconv.uint64pow10", laid_internal_strconv_uint64pow10)], narrowed := true }
def FnExactFormatNumbersUptoSaid : Prop := fnExactFormatNumbersUptoRow.holds Tryd.pinned (OpenSpec.upto fnExactFormatNumbersSpec)

/-- 'laws.FnExactFormatDepots', WHERE WHAT IT READS IS OF BULK AT MOST 1048576: true; the input reads as it did. -/
def fnExactFormatDepotsUptoRow : OpenClaim := { program := "ytoanhnklemlfmaadoor", sum := "5835e26a84e419087e317507309ea6bd0f39c977d820cfe625944325304cd9de", func := "loop.example/g03008/laws.FnExactFormatDepots", spec := "fnExactFormatDepots", inPlace := ["internal/abi.NoEscape"], unfollowed := true, recurses := true, named := ["internal/strconv.uint64pow10", "math/bits.deBruijn32tab", "math/bits.deBruijn64tab"], apart := false, laid := [("math/bits.deBruijn32tab", laid_math_bits_deBruijn32tab), ("math/bits.deBruijn64tab", laid_math_bits_deBruijn64tab), ("internal/strconv.uint64pow10", laid_internal_strconv_uint64pow10)], narrowed := true }
def FnExactFormatDepotsUptoSaid : Prop := fnExactFormatDepotsUptoRow.holds Tryd.pinned (OpenSpec.upto fnExactFormatDepotsSpec)

/-- 'laws.FnExactFormatJournal', WHERE WHAT IT READS IS OF BULK AT MOST 1048576: true; the input reads as it did. -/
def fnExactFormatJournalUptoRow : OpenClaim := { program := "ytoanhnklemlfmaadoor", sum := "5835e26a84e419087e317507309ea6bd0f39c977d820cfe625944325304cd9de", func := "loop.example/g03008/laws.FnExactFormatJournal", spec := "fnExactFormatJournal", inPlace := ["internal/abi.NoEscape"], unfollowed := true, recurses := true, named := ["internal/strconv.uint64pow10", "math/bits.deBruijn32tab", "math/bits.deBruijn64tab"], apart := false, laid := [("math/bits.deBruijn32tab", laid_math_bits_deBruijn32tab), ("math/bits.deBruijn64tab", laid_math_bits_deBruijn64tab), ("internal/strconv.uint64pow10", laid_internal_strconv_uint64pow10)], narrowed := true }
def FnExactFormatJournalUptoSaid : Prop := fnExactFormatJournalUptoRow.holds Tryd.pinned (OpenSpec.upto fnExactFormatJournalSpec)

/-- 'laws.FnExactFormatCells', WHERE WHAT IT READS IS OF BULK AT MOST 1048576: true; the input reads as it did. -/
def fnExactFormatCellsUptoRow : OpenClaim := { program := "ytoanhnklemlfmaadoor", sum := "5835e26a84e419087e317507309ea6bd0f39c977d820cfe625944325304cd9de", func := "loop.example/g03008/laws.FnExactFormatCells", spec := "fnExactFormatCells", inPlace := ["internal/abi.NoEscape"], unfollowed := true, recurses := true, named := ["internal/strconv.uint64pow10", "math/bits.deBruijn32tab", "math/bits.deBruijn64tab"], apart := false, laid := [("math/bits.deBruijn32tab", laid_math_bits_deBruijn32tab), ("math/bits.deBruijn64tab", laid_math_bits_deBruijn64tab), ("internal/strconv.uint64pow10", laid_internal_strconv_uint64pow10)], narrowed := true }
def FnExactFormatCellsUptoSaid : Prop := fnExactFormatCellsUptoRow.holds Tryd.pinned (OpenSpec.upto fnExactFormatCellsSpec)

/-- 'laws.FnExactFormatTrek', WHERE WHAT IT READS IS OF BULK AT MOST 1048576: true; the input reads as it did. -/
def fnExactFormatTrekUptoRow : OpenClaim := { program := "ytoanhnklemlfmaadoor", sum := "5835e26a84e419087e317507309ea6bd0f39c977d820cfe625944325304cd9de", func := "loop.example/g03008/laws.FnExactFormatTrek", spec := "fnExactFormatTrek", unfollowed := true, recurses := true, named := ["internal/strconv.uint64pow10", "math/bits.deBruijn32tab", "math/bits.deBruijn64tab"], apart := false, laid := [("math/bits.deBruijn32tab", laid_math_bits_deBruijn32tab), ("math/bits.deBruijn64tab", laid_math_bits_deBruijn64tab), ("internal/strconv.uint64pow10", laid_internal_strconv_uint64pow10)], narrowed := true }
def FnExactFormatTrekUptoSaid : Prop := fnExactFormatTrekUptoRow.holds Tryd.pinned (OpenSpec.upto fnExactFormatTrekSpec)

/-- 'laws.FnExactStormShare', WHERE WHAT IT READS IS OF BULK AT MOST 1048576: true; the input reads as it did. -/
def fnExactStormShareUptoRow : OpenClaim := { program := "ytoanhnklemlfmaadoor", sum := "5835e26a84e419087e317507309ea6bd0f39c977d820cfe625944325304cd9de", func := "loop.example/g03008/laws.FnExactStormShare", spec := "fnExactStormShare", inPlace := ["internal/reflectlite.ValueOf", "(internal/reflectlite.Value).Type", "(internal/reflectlite.Value).IsNil", "internal/reflectlite.TypeOf", "(internal/reflectlite.Value).Elem", "(internal/reflectlite.Value).Set"], unfollowed := true, recurses := true, named := ["errors.errorType"], apart := false, laid := [("errors.errorType", laid_errors_errorType)], narrowed := true }
def FnExactStormShareUptoSaid : Prop := fnExactStormShareUptoRow.holds Tryd.pinned (OpenSpec.upto fnExactStormShareSpec)

/-- 'laws.FnExactOpenShare', WHERE WHAT IT READS IS OF BULK AT MOST 1048576: true; the input reads as it did. -/
def fnExactOpenShareUptoRow : OpenClaim := { program := "ytoanhnklemlfmaadoor", sum := "5835e26a84e419087e317507309ea6bd0f39c977d820cfe625944325304cd9de", func := "loop.example/g03008/laws.FnExactOpenShare", spec := "fnExactOpenShare", inPlace := ["internal/reflectlite.ValueOf", "(internal/reflectlite.Value).Type", "(internal/reflectlite.Value).IsNil", "internal/reflectlite.TypeOf", "(internal/reflectlite.Value).Elem", "(internal/reflectlite.Value).Set"], unfollowed := true, recurses := true, named := ["errors.errorType"], apart := false, laid := [("errors.errorType", laid_errors_errorType)], narrowed := true }
def FnExactOpenShareUptoSaid : Prop := fnExactOpenShareUptoRow.holds Tryd.pinned (OpenSpec.upto fnExactOpenShareSpec)

end Rows
end Go.Proofs.YtoanhnklemlfmaaDoor

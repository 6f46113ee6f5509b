/- The law EventName: the program's EventName answers as its model, for every argument. No condition. -/
import Derived.Test.YtconlnlbaimghaaDoorCards
import Derived.Test.YtconlnlbaimghaaDoorTie
import Derived.Test.YtconlnlbaimghaaDoorENm
import Derived.WalkKit
import Derived.ProofKit
import Derived.OpenShut
import Derived.ShutString
import Derived.ChangeOld
import Derived.Below
import Derived.Deep.DeepHandedRow
import Derived.Deep.DeepWitnessRowRef
import Derived.Lib.LaidTab
import Derived.Stop.LaidErr
import Derived.SevenTiedAt
import Derived.RowKitTokens
namespace Go.Proofs.YtconlnlbaimghaaDoor.fnExactEventName
open Go.ChangeShapes Go.WideShapes Go.ChangeAt Go.RowKit
open Go.ChangeMaps (open_string shut_string)
set_option linter.unusedVariables false

theorem own : ownKnob Tryd.prog.godebug = none := by kernel_rfl
theorem laidOut : laidOutB Tryd.prog = true := by kernel_rfl

theorem vG0 : Tryd.prog.globalNamed "loop.example/g03008/impl.eventNames" = some 0 := by kernel_rfl
theorem vT0 : (Tryd.prog.globals[0]?).map (·.type) = some 61 := by kernel_rfl
def vVals : Array Value := #[.string ⟨#[]⟩, .string ⟨#[103, 105, 118, 101]⟩, .string ⟨#[103, 111]⟩, .string ⟨#[119, 97, 105, 116]⟩, .string ⟨#[104, 111, 109, 101]⟩, .string ⟨#[108, 97, 121]⟩, .string ⟨#[116, 97, 107, 101]⟩]
def vD {H : Type} : DataW H := .agg [.lit (.string []), .lit (.string [103, 105, 118, 101]), .lit (.string [103, 111]), .lit (.string [119, 97, 105, 116]), .lit (.string [104, 111, 109, 101]), .lit (.string [108, 97, 121]), .lit (.string [116, 97, 107, 101])]
theorem var_on {w w' : World} {B g : Nat} {n : String} {cs : Array Value} (hg : Tryd.prog.globalNamed n = some g) (h : w.var? Tryd.prog n = some cs) (hb : Below B w w') (hB : w.heap.size ≤ B) : w'.var? Tryd.prog n = some cs := by
  unfold World.var? at h ⊢
  rw [hg] at h ⊢
  simp only [Option.bind_some] at h ⊢
  by_cases hlt : g < w.heap.size
  · rw [hb.block g (by omega)]; exact h
  · rw [Array.getElem?_eq_none (by omega)] at h; simp at h
theorem vars_read {H : Type} (enc : TypeId × Value → H) {W : World} (h0 : W.var? Tryd.prog "loop.example/g03008/impl.eventNames" = some vVals) (sp : Nat → Bool) :
    DataW.TrodVars enc Tryd.prog W sp ["loop.example/g03008/impl.eventNames"] [vD] [.cell 0 0, .cell 0 1, .cell 0 2, .cell 0 3, .cell 0 4, .cell 0 5, .cell 0 6] := ⟨0, 61, vVals, 8, [], [], vG0, vT0, h0, by kernel_rfl, rfl, rfl⟩
theorem sents {W : World} (h : laidMetH Tryd.prog Rows.fnExactEventNameRow.laid W) : W.var? Tryd.prog "loop.example/g03008/impl.eventNames" = some vVals :=
  StrT.strs_of_head (zs := [[], [103, 105, 118, 101], [103, 111], [119, 97, 105, 116], [104, 111, 109, 101], [108, 97, 121], [116, 97, 107, 101]]) vG0 vT0 Tryd.underlying61 Tryd.underlying9 (by kernel_rfl) (by kernel_rfl) h
set_option maxRecDepth 20000 in
theorem walk (w : World) (a : Int) (_ha : (Lit.int IntKind.i64 a).wf = true) (hL : laidMetH Tryd.prog Rows.fnExactEventNameRow.laid w) :
    Calls Tryd.prog 4 #[.int .i64 a] w fun e w' => e = .returned (.bool true) ∧ Below w.heap.size w w' := by
  have hs := Lib.hid (sents hL)
  clear hL
  have HI := Lib.hid fun w' (h : w'.var? Tryd.prog "loop.example/g03008/impl.eventNames" = some vVals) => ENm.iName_any w' a (World.var?_cell vG0 h)
  have HS := Lib.hid (ENm.sName_any w a)
  go_enter Tryd.func4, Tryd.ntmps4
  go_wp2_with fail
  refine HS.out.mono ?_
  rintro e w' ⟨rfl, hg⟩
  have HB : Hid (Below w.heap.size w w') := Lib.hid ((Below.refl _ _).grown hg (Nat.le_refl _) (fun k h => by cases h))
  have HV := Lib.hid (var_on vG0 hs.out HB.out (Nat.le_refl _))
  clear hg hs
  go_wp2_with fail
  refine (HI.out w' HV.out).mono ?_
  rintro e w'' ⟨rfl, rfl⟩
  go_wp2
  go_ret
  exact ⟨rfl, HB.out⟩

set_option maxRecDepth 100000 in
/-- What the walk gives, for every argument. -/
theorem contract (H : Type) (enc : TypeId × Value → H) (W : World) (base : Nat) (args : Array Value) (ds gs : List (DataW H)) (before : List MemPlace)
    (hval : ∀ (j : Nat) t v, Tryd.f4.params[j]? = some t → args[j]? = some v → Value.okWide Tryd.prog W .any base t v)
    (hW : DataW.Whole enc Tryd.prog Tryd.f4.params.toList Rows.fnExactEventNameSpec.vars false W args.toList ds gs before) (hL : laidMetH Tryd.prog Rows.fnExactEventNameRow.laid W) :
    Calls Tryd.prog 4 args W fun e W' => ∃ v, e = .returned v ∧ Rows.fnExactEventNameSpec.post enc Tryd.prog Tryd.f4 false true false false W args v W' := by
  have hW' := hW
  obtain ⟨p, q, hA0, hV, rfl, hfz, hnd⟩ := hW
  have hA : DataW.TrodAll enc Tryd.prog W 0 (fun _ => true) true Tryd.f4.params.toList args.toList ds p := hA0
  rw [Tryd.params4] at hA hval
  obtain ⟨v0, vs0, d0, ds0, p0, q0, hargs, rfl, rfl, h0, r0⟩ := trodAll_cons hA
  obtain ⟨rfl, rfl, rfl⟩ := trodAll_nil r0
  obtain rfl : args = #[v0] := by cases args; simp_all
  have hV1 : DataW.TrodVars enc Tryd.prog W (fun _ => true) ["loop.example/g03008/impl.eventNames"] gs q := hV
  have y0 := sents hL
  obtain ⟨rfl, rfl⟩ := hV1.unique (vars_read enc y0 _)
  obtain ⟨a0, rfl, rfl, rfl, w0⟩ := open_int Tryd.underlying3 (hval 0 3 v0 rfl rfl) h0
  clear hA0
  refine (walk W a0 w0 hL).mono fun e W' ⟨he, bel⟩ => ?_
  subst he
  exact ⟨_, rfl, _, _, _, [], _, [.cell 0 0, .cell 0 1, .cell 0 2, .cell 0 3, .cell 0 4, .cell 0 5, .cell 0 6], hW', trodAll_mk1 (shut_bool Tryd.underlying4 _), (trodAll_cons_mk (shut_int Tryd.underlying3 w0) trodAll_mk0), vars_read enc (var_on vG0 y0 bel (Nat.le_refl _)) _, bel.frame _, fun h => by cases h⟩

/-- So many blocks has the settled world. -/
noncomputable def low : Nat := (World.holding Tryd.prog default ⟨#[], #[], []⟩).heap.size
/-- A world for the witness: the settled one, the listed variables holding what their initialisers lay. -/
noncomputable def laidWorld (os : Os) : World :=
  let w0 := World.holding Tryd.prog os ⟨#[], #[], []⟩
  { w0 with heap := (w0.heap.modify 0 fun
      | .cells _ t frozen => .cells #[.string ⟨#[]⟩, .string ⟨#[103, 105, 118, 101]⟩, .string ⟨#[103, 111]⟩, .string ⟨#[119, 97, 105, 116]⟩, .string ⟨#[104, 111, 109, 101]⟩, .string ⟨#[108, 97, 121]⟩, .string ⟨#[116, 97, 107, 101]⟩] t frozen
      | o => o) }
theorem laid_met (os : Os) : laidMet Tryd.prog Rows.fnExactEventNameRow.laid ((laidWorld os).forCall (fun _ _ => 0) ⟨#[], #[.int .i64 0], []⟩).memory :=
  laidMet_of_run' 8 (by kernel_rfl) (by kernel_rfl)
theorem reads (os : Os) {H : Type} (enc : TypeId × Value → H) : ∃ places, DataW.whole enc Tryd.prog ((laidWorld os).forCall (fun _ _ => 0) ⟨#[], #[.int .i64 0], []⟩).memory Tryd.f4.params.toList Rows.fnExactEventNameSpec.vars false (#[.int .i64 0] : Array Value).toList 8 = some ([.lit (.int .i64 0)], [vD], places) :=
  ⟨[.cell 0 0, .cell 0 1, .cell 0 2, .cell 0 3, .cell 0 4, .cell 0 5, .cell 0 6], by kernel_rfl⟩

set_option maxRecDepth 100000 in
theorem lifted (os : Os) (started : os.Started) (H : Type) (enc : TypeId × Value → H) (F : Stop.Interp) :
    ReturnsInHanded {} Tryd.checked os 4 .any ((OpenSpec.ofChange Rows.fnExactEventNameSpec).preRow enc Tryd.prog Tryd.f4 Rows.fnExactEventNameRow.domain false Rows.fnExactEventNameRow.laid) (((OpenSpec.ofChange Rows.fnExactEventNameSpec).at F).post enc Tryd.prog Tryd.f4 false true false false) := by
  obtain ⟨places, hx⟩ := reads os enc
  refine returnsInHanded_of_row (C := Tryd.checked) (s := (OpenSpec.ofChange Rows.fnExactEventNameSpec)) own started (by kernel_rfl) Tryd.func4
    (witness_row_at (enc := enc) (C := Tryd.checked) false (laidWorld os) #[.int .i64 0] rfl (by kernel_rfl) (by kernel_rfl) (by kernel_rfl)
      (OpenSpec.preRow_of_cond 8 hx (by kernel_rfl) (fun k hk => by cases hk) (by kernel_rfl) (laid_met os))) ?_
  intro W base args ds gs before hval hW _ _ _ hL _ _
  exact contract H enc W base args ds gs before hval hW hL

set_option maxRecDepth 100000 in
theorem said : Rows.FnExactEventNameSaid :=
  OpenClaim.holds_of_cond 4 Tryd.f4 rfl rfl rfl rfl rfl rfl rfl ⟨rfl, rfl, rfl, rfl, rfl⟩ rfl rfl rfl rfl rfl (by kernel_rfl) Tryd.func4 (by kernel_rfl)
    (of_decide_eq_true (by kernel_rfl)) (by unfold Func.isWrapper; first | (rw [if_pos (by decide +kernel)]; kernel_rfl) | (rw [if_neg (by decide +kernel)]; exact ⟨rfl, rfl⟩))
    (fun os started H enc _ F => by rw [OpenClaim.pre_eq_preRow]; exact lifted os started H enc F)

/-- No parameter wants a stand-in. -/
theorem plain (f : FuncId) (fn : Func) (hf : Tryd.pinned.checked.prog.funcNamed "loop.example/g03008/laws.FnExactEventName" = some f) (hfn : Tryd.pinned.checked.prog.funcs[f]? = some fn) :
    true = Tryd.pinned.checked.prog.looks [] ∧ ∀ (j : Nat) t, fn.params[j]? = some t → Tryd.pinned.checked.prog.wantsStandIn t = false := by
  obtain rfl : f = 4 := Option.some.inj ((show Tryd.prog.funcNamed "loop.example/g03008/laws.FnExactEventName" = some 4 by kernel_rfl).symm.trans hf) |>.symm
  obtain rfl : fn = Tryd.f4 := (Option.some.inj (Tryd.func4.symm.trans hfn)).symm
  refine ⟨by kernel_rfl, fun j t ht => ?_⟩
  rw [Tryd.params4] at ht
  have hm := Array.mem_of_getElem? ht
  simp only [List.mem_toArray, List.mem_cons, List.not_mem_nil, or_false] at hm
  subst hm
  exact (show Tryd.prog.wantsStandIn 3 = false by kernel_rfl)
theorem proved : Rows.FnExactEventNameCardSaid :=
  Claim7.holds_tied_plain_at .later [] _ _ _ _ said (fun _ h => by cases h) (by kernel_rfl) (fun _ h => by cases h) fnExactEventName_row_tie rfl ⟨rfl, rfl⟩ (by kernel_rfl) rfl plain (by kernel_rfl)
#print axioms proved
end Go.Proofs.YtconlnlbaimghaaDoor.fnExactEventName

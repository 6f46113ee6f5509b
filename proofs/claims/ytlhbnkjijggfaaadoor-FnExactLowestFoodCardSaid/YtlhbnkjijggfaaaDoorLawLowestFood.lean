/- The law FnExactLowestFood: the program's LowestFood answers as its model, for every argument; it writes into no argument, and its answer owns its memory. No condition. -/
import Derived.Test.YtlhbnkjijggfaaaDoorCards
import Derived.Test.YtlhbnkjijggfaaaDoorTie
import Derived.Test.YtlhbnkjijggfaaaDoorRowE
import Derived.Test.YtlhbnkjijggfaaaDoorLawsQ
import Derived.Test.YtlhbnkjijggfaaaDoorSzQ
import Derived.Test.YtlhbnkjijggfaaaDoorPlv
import Derived.Test.YtlhbnkjijggfaaaDoorJrM
import Derived.WalkKit
import Derived.ProofKit
import Derived.OpenShut
import Derived.ShutString
import Derived.ChangeOld
import Derived.Below
import Derived.Deep.DeepHandedRow
import Derived.Deep.DeepWitnessRowRef
import Derived.Lib.LaidTab
import Derived.Stop.LaidErr
import Derived.SevenTiedAt
import Derived.RowKitTokens
namespace Go.Proofs.YtlhbnkjijggfaaaDoor.fnExactLowestFood
open Go.ChangeShapes Go.WideShapes Go.ChangeAt Go.RowKit
open Go.ChangeMaps (open_string shut_string)
set_option linter.unusedVariables false

theorem own : ownKnob Tryd.prog.godebug = none := by kernel_rfl
theorem laidOut : laidOutB Tryd.prog = true := by kernel_rfl

theorem vG0 : Tryd.prog.globalNamed "loop.example/g03008/impl.cover" = some 0 := by kernel_rfl
theorem vT0 : (Tryd.prog.globals[0]?).map (·.type) = some 64 := by kernel_rfl
def vVals : Array Value := #[.int .i64 (-1), .int .i64 (0), .int .i64 (0), .int .i64 (0)]
def vD {H : Type} : DataW H := .agg [.lit (.int .i64 (-1)), .lit (.int .i64 0), .lit (.int .i64 0), .lit (.int .i64 0)]
theorem var_on {w w' : World} {B g : Nat} {n : String} {cs : Array Value} (hg : Tryd.prog.globalNamed n = some g) (h : w.var? Tryd.prog n = some cs) (hb : Below B w w') (hB : w.heap.size ≤ B) : w'.var? Tryd.prog n = some cs := by
  unfold World.var? at h ⊢
  rw [hg] at h ⊢
  simp only [Option.bind_some] at h ⊢
  by_cases hlt : g < w.heap.size
  · rw [hb.block g (by omega)]; exact h
  · rw [Array.getElem?_eq_none (by omega)] at h; simp at h
theorem vars_read {H : Type} (enc : TypeId × Value → H) {W : World} (h0 : W.var? Tryd.prog "loop.example/g03008/impl.cover" = some vVals) (sp : Nat → Bool) :
    DataW.TrodVars enc Tryd.prog W sp ["loop.example/g03008/impl.cover"] [vD] [.cell 0 0, .cell 0 1, .cell 0 2, .cell 0 3] := ⟨0, 64, vVals, 8, [], [], vG0, vT0, h0, by kernel_rfl, rfl, rfl⟩
theorem sents {W : World} (h : laidMetH Tryd.prog Rows.fnExactLowestFoodRow.laid W) : W.var? Tryd.prog "loop.example/g03008/impl.cover" = some vVals :=
  Plv.of_head vG0 vT0 (Plv.only_ints4 Tryd.underlying64 Tryd.underlying3 (by kernel_rfl) (by kernel_rfl) ⟨rfl, rfl⟩ ⟨rfl, rfl⟩ ⟨rfl, rfl⟩ ⟨rfl, rfl⟩) h
open Kit Rw
set_option maxRecDepth 100000 in
set_option maxHeartbeats 4000000 in
theorem walk (w : World) (aL_a : Option Addr) (aL_len aL_cap : Nat) (aL_L : List Rg.I4) (aL_h : aL_L.length = aL_len ∧ Rg.SeesG Rg.enc4 w (.slice aL_a aL_len aL_cap) aL_L) (hL : laidMetH Tryd.prog Rows.fnExactLowestFoodRow.laid w) :
    Calls Tryd.prog 7 #[.slice aL_a aL_len aL_cap] w fun e w' => e = .returned (.bool true) ∧ Below w.heap.size w w' := by
  have HVS := Lib.hid (sents hL); clear hL
  obtain ⟨aL_e, aL_s0⟩ := aL_h; have aL_S := Lib.hid aL_s0; have aL_len0 := aL_s0.len; subst aL_e; clear aL_s0
  by_cases aL_l : (aL_L.length : Int) ≤ (1048576 : Int)
  rotate_left
  ·
    have HB0 : Hid (Below w.heap.size w w) := Below.refl _ _
    go_enter Tryd.func7, Tryd.ntmps7
    go_wp2_with fail
    refine (LawsQ.szQ_no w _ _ (1048576 : Int) (aL_S.out.below HB0.out) (by omega) (by omega) (by omega)).mono ?_
    rintro e w1 ⟨rfl, hg⟩
    have HB1 := Lib.hid (HB0.out.grown hg HB0.out.size (fun _ h => by cases h)); clear HB0
    clear hg
    go_wp2
    go_ret
    exact ⟨rfl, HB1.out⟩
  have HB0 : Hid (Below w.heap.size w w) := Below.refl _ _
  go_enter Tryd.func7, Tryd.ntmps7
  go_wp2_with fail
  refine (LawsQ.szQ_yes w _ _ (1048576 : Int) (aL_S.out.below HB0.out) (by omega) (by omega) (by omega)).mono ?_
  rintro e w1 ⟨rfl, hg⟩
  have HB1 := Lib.hid (HB0.out.grown hg HB0.out.size (fun _ h => by cases h)); clear HB0
  clear hg
  go_wp2_with fail
  refine (LawsQ.to_any w1 (.slice aL_a aL_L.length aL_cap) aL_L (aL_S.out.below HB1.out) (by (try simp only [LawsQ.marksQ_len]); omega)).mono ?_
  rintro e w2 ⟨u1, rfl, ho, hg⟩
  have Ou1 := Lib.hid (ho.lower HB1.out.size)
  have HB2 := Lib.hid (HB1.out.grown hg HB1.out.size (fun _ h => by cases h)); clear HB1
  clear ho hg
  go_wp2_with fail
  refine (Jrn.sLowest_any w2 _ _   (Ou1.out.sees)).mono ?_
  rintro e w3 ⟨rfl, hg⟩
  have HB3 := Lib.hid (HB2.out.grown hg HB2.out.size (fun _ h => by cases h)); clear HB2
  have Ou1 := Lib.hid (Ou1.out.grown hg)
  clear hg
  clear Ou1
  go_wp2_with fail
  refine (LawsQ.to_any w3 (.slice aL_a aL_L.length aL_cap) aL_L (aL_S.out.below HB3.out) (by (try simp only [LawsQ.marksQ_len]); omega)).mono ?_
  rintro e w4 ⟨u2, rfl, ho, hg⟩
  have Ou2 := Lib.hid (ho.lower HB3.out.size)
  have HB4 := Lib.hid (HB3.out.grown hg HB3.out.size (fun _ h => by cases h)); clear HB3
  clear ho hg
  go_wp2_with fail
  refine (Jrn.iLowest_any w4 _ _   (Ou2.out.sees) (World.var?_cell vG0 (var_on vG0 HVS.out HB4.out (Nat.le_refl _)))).mono ?_
  rintro e w5 ⟨rfl, hg⟩
  have HB5 := Lib.hid (HB4.out.grown hg HB4.out.size (fun _ h => by cases h)); clear HB4
  have Ou2 := Lib.hid (Ou2.out.grown hg)
  clear hg
  go_wp2_with fail
  refine (LawsQ.to_any w5 (.slice aL_a aL_L.length aL_cap) aL_L (aL_S.out.below HB5.out) (by (try simp only [LawsQ.marksQ_len]); omega)).mono ?_
  rintro e w6 ⟨u3, rfl, ho, hg⟩
  have A_u3_u2 := Lib.hid (Rg.apart_lt ho.lt Ou2.out.lt (Nat.le_refl _))
  have Ou3 := Lib.hid (ho.lower HB5.out.size)
  have HB6 := Lib.hid (HB5.out.grown hg HB5.out.size (fun _ h => by cases h)); clear HB5
  have Ou2 := Lib.hid (Ou2.out.grown hg)
  clear ho hg
  go_wp2_with fail
  refine (LawsQ.eq_same w6 (u2) (u3) aL_L (Ou2.out.sees) (Ou3.out.sees)).mono ?_
  rintro e w7 ⟨rfl, hg⟩
  have HB7 := Lib.hid (HB6.out.grown hg HB6.out.size (fun _ h => by cases h)); clear HB6
  have Ou2 := Lib.hid (Ou2.out.grown hg)
  have Ou3 := Lib.hid (Ou3.out.grown hg)
  clear hg
  clear Ou3
  clear Ou2
  go_wp2
  go_ret
  exact ⟨rfl, HB7.out⟩

set_option maxRecDepth 100000 in
/-- What the walk gives, for every argument. -/
theorem contract (H : Type) (enc : TypeId × Value → H) (W : World) (base : Nat) (args : Array Value) (ds gs : List (DataW H)) (before : List MemPlace)
    (hval : ∀ (j : Nat) t v, Tryd.f7.params[j]? = some t → args[j]? = some v → Value.okWide Tryd.prog W .any base t v)
    (hW : DataW.Whole enc Tryd.prog Tryd.f7.params.toList Rows.fnExactLowestFoodSpec.vars false W args.toList ds gs before) (hL : laidMetH Tryd.prog Rows.fnExactLowestFoodRow.laid W) :
    Calls Tryd.prog 7 args W fun e W' => ∃ v, e = .returned v ∧ Rows.fnExactLowestFoodSpec.post enc Tryd.prog Tryd.f7 false true false false W args v W' := by
  have hW' := hW
  obtain ⟨p, q, hA0, hV, rfl, hfz, hnd⟩ := hW
  have hA : DataW.TrodAll enc Tryd.prog W 0 (fun _ => true) true Tryd.f7.params.toList args.toList ds p := hA0
  rw [Tryd.params7] at hA hval
  obtain ⟨v0, vs0, d0, ds0, p0, q0, hargs, rfl, rfl, h0, r0⟩ := trodAll_cons hA
  obtain ⟨rfl, rfl, rfl⟩ := trodAll_nil r0
  obtain rfl : args = #[v0] := by cases args; simp_all
  have hV1 : DataW.TrodVars enc Tryd.prog W (fun _ => true) ["loop.example/g03008/impl.cover"] gs q := hV
  have y0 := sents hL
  obtain ⟨rfl, rfl⟩ := hV1.unique (vars_read enc y0 _)
  obtain ⟨a0, len0, cap0, rfl⟩ := okWide_slice Tryd.underlying22 (hval 0 22 v0 rfl rfl)
  have k0 := h0
  have lt0 : ∀ x ∈ p0, x.block < W.heap.size := by obtain ⟨m, hm⟩ := k0; exact DataW.trod_lt m _ _ _ hm
  obtain ⟨z0, w0⟩ := Rg.row_openG (e := Rg.enc4) Tryd.underlying22 (by kernel_rfl) (Rg.enc4_open Tryd.underlying68 (by kernel_rfl) Tryd.underlying3 Tryd.underlying3 Tryd.underlying3 Tryd.underlying3) h0
  clear hA0
  refine (walk W a0 len0 cap0 z0 w0 hL).mono fun e W' ⟨he, bel⟩ => ?_
  subst he
  exact ⟨_, rfl, _, _, _, [], _, [.cell 0 0, .cell 0 1, .cell 0 2, .cell 0 3], hW', trodAll_mk1 (shut_bool Tryd.underlying4 _), (trodAll_cons_mk (Below.trod laidOut (by kernel_rfl) (of_decide_eq_true (by kernel_rfl)) k0 bel lt0) trodAll_mk0), vars_read enc (var_on vG0 y0 bel (Nat.le_refl _)) _, bel.frame _, fun h => by cases h⟩

/-- So many blocks has the settled world. -/
noncomputable def low : Nat := (World.holding Tryd.prog default ⟨#[], #[], []⟩).heap.size
/-- A world for the witness: the settled one, the listed variables holding what their initialisers lay. -/
noncomputable def laidWorld (os : Os) : World :=
  let w0 := World.holding Tryd.prog os ⟨#[], #[], []⟩
  { w0 with heap := (w0.heap.modify 0 fun
      | .cells _ t frozen => .cells #[.int .i64 (-1), .int .i64 (0), .int .i64 (0), .int .i64 (0)] t frozen
      | o => o) }
theorem laid_met (os : Os) : laidMet Tryd.prog Rows.fnExactLowestFoodRow.laid ((laidWorld os).forCall (fun _ _ => 0) ⟨#[], #[.slice none 0 0], []⟩).memory :=
  laidMet_of_run' 8 (by kernel_rfl) (by kernel_rfl)
theorem reads (os : Os) {H : Type} (enc : TypeId × Value → H) : ∃ places, DataW.whole enc Tryd.prog ((laidWorld os).forCall (fun _ _ => 0) ⟨#[], #[.slice none 0 0], []⟩).memory Tryd.f7.params.toList Rows.fnExactLowestFoodSpec.vars false (#[.slice none 0 0] : Array Value).toList 8 = some ([.nil], [vD], places) :=
  ⟨[.cell 0 0, .cell 0 1, .cell 0 2, .cell 0 3], by kernel_rfl⟩

set_option maxRecDepth 100000 in
theorem lifted (os : Os) (started : os.Started) (H : Type) (enc : TypeId × Value → H) (F : Stop.Interp) :
    ReturnsInHanded {} Tryd.checked os 7 .any ((OpenSpec.ofChange Rows.fnExactLowestFoodSpec).preRow enc Tryd.prog Tryd.f7 Rows.fnExactLowestFoodRow.domain false Rows.fnExactLowestFoodRow.laid) (((OpenSpec.ofChange Rows.fnExactLowestFoodSpec).at F).post enc Tryd.prog Tryd.f7 false true false false) := by
  obtain ⟨places, hx⟩ := reads os enc
  refine returnsInHanded_of_row (C := Tryd.checked) (s := (OpenSpec.ofChange Rows.fnExactLowestFoodSpec)) own started (by kernel_rfl) Tryd.func7
    (witness_row_at (enc := enc) (C := Tryd.checked) false (laidWorld os) #[.slice none 0 0] rfl (by kernel_rfl) (by kernel_rfl) (by kernel_rfl)
      (OpenSpec.preRow_of_cond 8 hx (by kernel_rfl) (fun k hk => by cases hk) (by kernel_rfl) (laid_met os))) ?_
  intro W base args ds gs before hval hW _ _ _ hL _ _
  exact contract H enc W base args ds gs before hval hW hL

set_option maxRecDepth 100000 in
theorem said : Rows.FnExactLowestFoodSaid :=
  OpenClaim.holds_of_cond 7 Tryd.f7 rfl rfl rfl rfl rfl rfl rfl ⟨rfl, rfl, rfl, rfl, rfl⟩ rfl rfl rfl rfl rfl (by kernel_rfl) Tryd.func7 (by kernel_rfl)
    (of_decide_eq_true (by kernel_rfl)) (by unfold Func.isWrapper; first | (rw [if_pos (by decide +kernel)]; kernel_rfl) | (rw [if_neg (by decide +kernel)]; exact ⟨rfl, rfl⟩))
    (fun os started H enc _ F => by rw [OpenClaim.pre_eq_preRow]; exact lifted os started H enc F)

/-- No parameter wants a stand-in. -/
theorem plain (f : FuncId) (fn : Func) (hf : Tryd.pinned.checked.prog.funcNamed "loop.example/g03008/laws.FnExactLowestFood" = some f) (hfn : Tryd.pinned.checked.prog.funcs[f]? = some fn) :
    false = Tryd.pinned.checked.prog.looks [] ∧ ∀ (j : Nat) t, fn.params[j]? = some t → Tryd.pinned.checked.prog.wantsStandIn t = false := by
  obtain rfl : f = 7 := Option.some.inj ((show Tryd.prog.funcNamed "loop.example/g03008/laws.FnExactLowestFood" = some 7 by kernel_rfl).symm.trans hf) |>.symm
  obtain rfl : fn = Tryd.f7 := (Option.some.inj (Tryd.func7.symm.trans hfn)).symm
  refine ⟨by kernel_rfl, fun j t ht => ?_⟩
  rw [Tryd.params7] at ht
  have hm := Array.mem_of_getElem? ht
  simp only [List.mem_toArray, List.mem_cons, List.not_mem_nil, or_false] at hm
  subst hm
  exact (show Tryd.prog.wantsStandIn 22 = false by kernel_rfl)
theorem proved : Rows.FnExactLowestFoodCardSaid :=
  Claim7.holds_tied_plain_at .later [] _ _ _ _ said (fun _ h => by cases h) (by kernel_rfl) (fun _ h => by cases h) fnExactLowestFood_row_tie rfl ⟨rfl, rfl⟩ (by kernel_rfl) rfl plain (by kernel_rfl)
#print axioms proved
end Go.Proofs.YtlhbnkjijggfaaaDoor.fnExactLowestFood

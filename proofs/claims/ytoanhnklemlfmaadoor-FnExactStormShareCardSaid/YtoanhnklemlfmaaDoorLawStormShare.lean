/- The law FnExactStormShare: the program's StormShare answers as its model, for every argument; it writes into no argument, and its answer owns its memory. No condition. -/
import Derived.Test.YtoanhnklemlfmaaDoorCards
import Derived.Test.YtoanhnklemlfmaaDoorTie
import Derived.Test.YtoanhnklemlfmaaDoorOpenG
import Derived.Test.YtoanhnklemlfmaaDoorRowE
import Derived.Test.YtoanhnklemlfmaaDoorLawsBo
import Derived.Test.YtoanhnklemlfmaaDoorMea
import Derived.WalkKit
import Derived.ProofKit
import Derived.OpenShut
import Derived.ShutString
import Derived.ChangeOld
import Derived.Below
import Derived.Deep.DeepHandedRow
import Derived.Deep.DeepWitnessRowRef
import Derived.Lib.LaidTab
import Derived.Stop.LaidErr
import Derived.SevenTiedAt
import Derived.RowKitTokens
import Derived.LaidHandle
import Derived.LaidLaws
import Derived.JoinedOf
import Derived.Stop.Joined
namespace Go.Proofs.YtoanhnklemlfmaaDoor.fnExactStormShare
open Go.ChangeShapes Go.WideShapes Go.ChangeAt Go.RowKit
open Go.ChangeMaps (open_string shut_string)
set_option linter.unusedVariables false

theorem own : ownKnob Tryd.prog.godebug = none := by kernel_rfl
theorem laidOut : laidOutB Tryd.prog = true := by kernel_rfl

theorem et : Tryd.prog.globalNamed "errors.errorType" = some 0 := by kernel_rfl
theorem rt : (Tryd.prog.cutTypes.find? (·.1 == "internal/reflectlite.rtype")).map (·.2) = some 188 := by kernel_rfl
theorem oneRow : ((List.range 238).filter fun t => Tryd.prog.rowNamed t [101, 114, 114, 111, 114]) = [125] := by kernel_rfl
theorem tysize : Tryd.prog.types.size = 238 := by kernel_rfl
theorem handle {W : World} (h : laidMetH Tryd.prog Rows.fnExactStormShareRow.laid W) : Eas.ErrT W := by
  have h' : laidMet Tryd.prog [] W ∧ handlesMet Tryd.prog Rows.fnExactStormShareRow.laid W := h
  obtain ⟨name, u, ty, e1, e2, e3, e4, e5⟩ := h'.2 _ (List.mem_singleton.2 rfl)
  have en : name = [101, 114, 114, 111, 114] := (Option.some.inj e1).symm
  subst en
  obtain rfl := Option.some.inj (rt.symm.trans e2)
  have hm : ty ∈ (List.range 238).filter fun t => Tryd.prog.rowNamed t [101, 114, 114, 111, 114] := List.mem_filter.2 ⟨List.mem_range.2 (by rw [← tysize]; exact e3), e4⟩
  rw [oneRow] at hm
  obtain rfl := List.mem_singleton.1 hm
  have hh : typeHandle Tryd.prog 125 = .pointer (some ⟨4, 125, none⟩) := by kernel_rfl
  rw [hh] at e5
  simpa [Eas.ErrT] using World.var?_cell et e5 0
open Kit Rw
set_option maxRecDepth 100000 in
set_option maxHeartbeats 4000000 in
theorem walk (w : World) (aPast_a : Option Addr) (aPast_len aPast_cap : Nat) (aPast_L : List Bool) (aPast_h : aPast_L.length = aPast_len ∧ Rg.SeesG Rg.encB w (.slice aPast_a aPast_len aPast_cap) aPast_L) (hL : laidMetH Tryd.prog Rows.fnExactStormShareRow.laid w) :
    Calls Tryd.prog 12 #[.slice aPast_a aPast_len aPast_cap] w fun e w' => e = .returned (.bool true) ∧ Below w.heap.size w w' := by
  have HER := Lib.hid (handle hL); clear hL
  obtain ⟨aPast_e, aPast_s0⟩ := aPast_h; have aPast_S := Lib.hid aPast_s0; have aPast_len0 := aPast_s0.len; subst aPast_e; clear aPast_s0
  by_cases aPast_l : aPast_L.length ≤ 1048576
  rotate_left
  ·
    have HB0 : Hid (Below w.heap.size w w) := Below.refl _ _
    go_enter Tryd.func12, Tryd.ntmps12
    go_wp2
    go_ret
    exact ⟨rfl, by have := HB0.out; exact this⟩
  have HB0 : Hid (Below w.heap.size w w) := Below.refl _ _
  go_enter Tryd.func12, Tryd.ntmps12
  go_wp2_with fail
  refine (LawsBo.to_any w (.slice aPast_a aPast_L.length aPast_cap) aPast_L (aPast_S.out.below HB0.out) (by (try simp only [LawsBo.marksB_len]); omega)).mono ?_
  rintro e w1 ⟨u1, rfl, ho, hg⟩
  have Ou1 := Lib.hid (ho.lower HB0.out.size)
  have HB1 := Lib.hid (HB0.out.grown hg HB0.out.size (fun _ h => by cases h)); clear HB0
  clear ho hg
  go_wp2_with fail
  refine (Mea.sStorm_any w1 _ aPast_L (Ou1.out.sees) (by (try simp only [LawsBo.marksB_len]); omega)).mono ?_
  rintro e w2 ⟨rfl, hg⟩
  have HB2 := Lib.hid (HB1.out.grown hg HB1.out.size (fun _ h => by cases h)); clear HB1
  have Ou1 := Lib.hid (Ou1.out.grown hg)
  clear hg
  clear Ou1
  go_wp2_with fail
  refine (LawsBo.to_any w2 (.slice aPast_a aPast_L.length aPast_cap) aPast_L (aPast_S.out.below HB2.out) (by (try simp only [LawsBo.marksB_len]); omega)).mono ?_
  rintro e w3 ⟨u2, rfl, ho, hg⟩
  have Ou2 := Lib.hid (ho.lower HB2.out.size)
  have HB3 := Lib.hid (HB2.out.grown hg HB2.out.size (fun _ h => by cases h)); clear HB2
  clear ho hg
  go_wp2_with fail
  refine (Mea.iStorm_any w3 _ aPast_L (Ou2.out.sees) (by (try simp only [LawsBo.marksB_len]); omega) (Eas.errT_grown HER.out (below_grown HB3.out))).mono ?_
  rintro e w4 ⟨rfl, hg⟩
  have HB4 := Lib.hid (HB3.out.grown hg HB3.out.size (fun _ h => by cases h)); clear HB3
  have Ou2 := Lib.hid (Ou2.out.grown hg)
  clear hg
  go_wp2_with fail
  refine (LawsBo.to_any w4 (.slice aPast_a aPast_L.length aPast_cap) aPast_L (aPast_S.out.below HB4.out) (by (try simp only [LawsBo.marksB_len]); omega)).mono ?_
  rintro e w5 ⟨u3, rfl, ho, hg⟩
  have A_u3_u2 := Lib.hid (Rg.apart_lt ho.lt Ou2.out.lt (Nat.le_refl _))
  have Ou3 := Lib.hid (ho.lower HB4.out.size)
  have HB5 := Lib.hid (HB4.out.grown hg HB4.out.size (fun _ h => by cases h)); clear HB4
  have Ou2 := Lib.hid (Ou2.out.grown hg)
  clear ho hg
  go_wp2_with fail
  refine (LawsBo.eq_same w5 (u2) (u3) aPast_L (Ou2.out.sees) (Ou3.out.sees)).mono ?_
  rintro e w6 ⟨rfl, hg⟩
  have HB6 := Lib.hid (HB5.out.grown hg HB5.out.size (fun _ h => by cases h)); clear HB5
  have Ou2 := Lib.hid (Ou2.out.grown hg)
  have Ou3 := Lib.hid (Ou3.out.grown hg)
  clear hg
  clear Ou3
  clear Ou2
  go_wp2
  go_ret
  exact ⟨rfl, HB6.out⟩

set_option maxRecDepth 100000 in
/-- What the walk gives, for every argument. -/
theorem contract (H : Type) (enc : TypeId × Value → H) (W : World) (base : Nat) (args : Array Value) (ds gs : List (DataW H)) (before : List MemPlace)
    (hval : ∀ (j : Nat) t v, Tryd.f12.params[j]? = some t → args[j]? = some v → Value.okWide Tryd.prog W .any base t v)
    (hW : DataW.Whole enc Tryd.prog Tryd.f12.params.toList Rows.fnExactStormShareSpec.vars false W args.toList ds gs before) (hL : laidMetH Tryd.prog Rows.fnExactStormShareRow.laid W) :
    Calls Tryd.prog 12 args W fun e W' => ∃ v, e = .returned v ∧ Rows.fnExactStormShareSpec.post enc Tryd.prog Tryd.f12 false true false false W args v W' := by
  have hW' := hW
  obtain ⟨p, q, hA0, hV, rfl, hfz, hnd⟩ := hW
  have hA : DataW.TrodAll enc Tryd.prog W 0 (fun _ => true) true Tryd.f12.params.toList args.toList ds p := hA0
  rw [Tryd.params12] at hA hval
  obtain ⟨v0, vs0, d0, ds0, p0, q0, hargs, rfl, rfl, h0, r0⟩ := trodAll_cons hA
  obtain ⟨rfl, rfl, rfl⟩ := trodAll_nil r0
  obtain rfl : args = #[v0] := by cases args; simp_all
  obtain ⟨rfl, rfl⟩ := trodVars_none hV
  obtain ⟨a0, len0, cap0, rfl⟩ := okWide_slice Tryd.underlying38 (hval 0 38 v0 rfl rfl)
  have k0 := h0
  have lt0 : ∀ x ∈ p0, x.block < W.heap.size := by obtain ⟨m, hm⟩ := k0; exact DataW.trod_lt m _ _ _ hm
  obtain ⟨z0, w0⟩ := Rg.row_openG (e := Rg.encB) Tryd.underlying38 (by kernel_rfl) (Rg.encB_open Tryd.underlying4) h0
  clear hA0
  refine (walk W a0 len0 cap0 z0 w0 hL).mono fun e W' ⟨he, bel⟩ => ?_
  subst he
  exact ⟨_, rfl, _, _, _, [], _, [], hW', trodAll_mk1 (shut_bool Tryd.underlying4 _), (trodAll_cons_mk (Below.trod laidOut (by kernel_rfl) (of_decide_eq_true (by kernel_rfl)) k0 bel lt0) trodAll_mk0), rfl, bel.frame _, fun h => by cases h⟩

/-- So many blocks has the settled world. -/
noncomputable def low : Nat := (World.holding Tryd.prog default ⟨#[], #[], []⟩).heap.size
/-- A world for the witness: the settled one, the listed variables holding what their initialisers lay. -/
noncomputable def laidWorld (os : Os) : World :=
  let w0 := World.holding Tryd.prog os ⟨#[], #[], []⟩
  { w0 with heap := (w0.heap.modify 0 fun
      | .cells _ t frozen => .cells #[.iface 188 (.agg #[.pointer (some ⟨4, 125, none⟩)])] t frozen
      | o => o) }
theorem laid_met (os : Os) : laidMetH Tryd.prog Rows.fnExactStormShareRow.laid ((laidWorld os).forCall (fun _ _ => 0) ⟨#[], #[.slice none 0 0], []⟩).memory :=
  laidMetH_of_parts (laidMet_nil _ _) (by kernel_rfl)
theorem reads (os : Os) {H : Type} (enc : TypeId × Value → H) : ∃ places, DataW.whole enc Tryd.prog ((laidWorld os).forCall (fun _ _ => 0) ⟨#[], #[.slice none 0 0], []⟩).memory Tryd.f12.params.toList Rows.fnExactStormShareSpec.vars false (#[.slice none 0 0] : Array Value).toList 8 = some ([.nil], [], places) :=
  ⟨[], by kernel_rfl⟩

set_option maxRecDepth 100000 in
theorem lifted (os : Os) (started : os.Started) (H : Type) (enc : TypeId × Value → H) (F : Stop.Interp) :
    ReturnsInHanded {} Tryd.checked os 12 .any ((OpenSpec.ofChange Rows.fnExactStormShareSpec).preRow enc Tryd.prog Tryd.f12 Rows.fnExactStormShareRow.domain false Rows.fnExactStormShareRow.laid) (((OpenSpec.ofChange Rows.fnExactStormShareSpec).at F).post enc Tryd.prog Tryd.f12 false true false false) := by
  obtain ⟨places, hx⟩ := reads os enc
  refine returnsInHanded_of_row (C := Tryd.checked) (s := (OpenSpec.ofChange Rows.fnExactStormShareSpec)) own started (by kernel_rfl) Tryd.func12
    (witness_row_at (enc := enc) (C := Tryd.checked) false (laidWorld os) #[.slice none 0 0] rfl (by kernel_rfl) (by kernel_rfl) (by kernel_rfl)
      (OpenSpec.preRow_of_cond 8 hx (by kernel_rfl) (fun k hk => by cases hk) (by kernel_rfl) (laid_met os))) ?_
  intro W base args ds gs before hval hW _ _ _ hL _ _
  exact contract H enc W base args ds gs before hval hW hL

set_option maxRecDepth 100000 in
theorem said : Rows.FnExactStormShareSaid :=
  OpenClaim.holds_of_cond 12 Tryd.f12 rfl rfl rfl rfl rfl rfl rfl ⟨rfl, rfl, rfl, rfl, rfl⟩ rfl rfl rfl rfl rfl (by kernel_rfl) Tryd.func12 (by kernel_rfl)
    (of_decide_eq_true (by kernel_rfl)) (by unfold Func.isWrapper; first | (rw [if_pos (by decide +kernel)]; kernel_rfl) | (rw [if_neg (by decide +kernel)]; exact ⟨rfl, rfl⟩))
    (fun os started H enc _ F => by rw [OpenClaim.pre_eq_preRow]; exact lifted os started H enc F)

/-- No parameter wants a stand-in. -/
theorem plain (f : FuncId) (fn : Func) (hf : Tryd.pinned.checked.prog.funcNamed "loop.example/g03008/laws.FnExactStormShare" = some f) (hfn : Tryd.pinned.checked.prog.funcs[f]? = some fn) :
    true = Tryd.pinned.checked.prog.looks [] ∧ ∀ (j : Nat) t, fn.params[j]? = some t → Tryd.pinned.checked.prog.wantsStandIn t = false := by
  obtain rfl : f = 12 := Option.some.inj ((show Tryd.prog.funcNamed "loop.example/g03008/laws.FnExactStormShare" = some 12 by kernel_rfl).symm.trans hf) |>.symm
  obtain rfl : fn = Tryd.f12 := (Option.some.inj (Tryd.func12.symm.trans hfn)).symm
  refine ⟨by kernel_rfl, fun j t ht => ?_⟩
  rw [Tryd.params12] at ht
  have hm := Array.mem_of_getElem? ht
  simp only [List.mem_toArray, List.mem_cons, List.not_mem_nil, or_false] at hm
  subst hm
  exact (show Tryd.prog.wantsStandIn 38 = false by kernel_rfl)
theorem proved : Rows.FnExactStormShareCardSaid :=
  Claim7.holds_tied_plain_at .later [] _ _ _ _ said (fun _ h => by cases h) (by kernel_rfl) (fun _ h => by cases h) fnExactStormShare_row_tie rfl ⟨rfl, rfl⟩ (by kernel_rfl) rfl plain (by kernel_rfl)
#print axioms proved
end Go.Proofs.YtoanhnklemlfmaaDoor.fnExactStormShare

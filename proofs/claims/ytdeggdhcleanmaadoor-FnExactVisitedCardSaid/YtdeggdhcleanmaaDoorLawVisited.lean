/- The law FnExactVisited: the program's Visited answers as its model, for every argument; it writes into no argument, and its answer owns its memory. No condition. -/
import Derived.Test.YtdeggdhcleanmaaDoorCards
import Derived.Test.YtdeggdhcleanmaaDoorTie
import Derived.Test.YtdeggdhcleanmaaDoorRowE
import Derived.Test.YtdeggdhcleanmaaDoorLawsI
import Derived.Test.YtdeggdhcleanmaaDoorLawsQ
import Derived.Test.YtdeggdhcleanmaaDoorSzQ
import Derived.Test.YtdeggdhcleanmaaDoorVis
import Derived.WalkKit
import Derived.ProofKit
import Derived.OpenShut
import Derived.ShutString
import Derived.ChangeOld
import Derived.Below
import Derived.Deep.DeepHandedRow
import Derived.Deep.DeepWitnessRowRef
import Derived.Lib.LaidTab
import Derived.Stop.LaidErr
import Derived.SevenTiedAt
import Derived.RowKitTokens
namespace Go.Proofs.YtdeggdhcleanmaaDoor.fnExactVisited
open Go.ChangeShapes Go.WideShapes Go.ChangeAt Go.RowKit
open Go.ChangeMaps (open_string shut_string)
set_option linter.unusedVariables false

theorem own : ownKnob Tryd.prog.godebug = none := by kernel_rfl
theorem laidOut : laidOutB Tryd.prog = true := by kernel_rfl

theorem gTab : Tryd.prog.globalNamed "math/bits.deBruijn64tab" = some 1 := by kernel_rfl
theorem gTabType : (Tryd.prog.globals[1]?).map (·.type) = some 119 := by kernel_rfl
theorem cellsA : Tryd.prog.cellsOf 119 = 64 := by kernel_rfl
theorem cellsU : Tryd.prog.cellsOf 5 = 1 := by kernel_rfl
theorem table {W : World} (h : laidMetH Tryd.prog Rows.fnExactVisitedRow.laid W) : Pc.TabD W :=
  Lib.tabIs_of_head (rest := []) gTab gTabType Tryd.underlying119 Tryd.underlying5 cellsU cellsA h
open Kit Rw
set_option maxRecDepth 100000 in
set_option maxHeartbeats 4000000 in
theorem walk (w : World) (aL_a : Option Addr) (aL_len aL_cap : Nat) (aL_L : List Rg.I4) (aL_h : aL_L.length = aL_len ∧ Rg.SeesG Rg.enc4 w (.slice aL_a aL_len aL_cap) aL_L) (hL : laidMetH Tryd.prog Rows.fnExactVisitedRow.laid w) :
    Calls Tryd.prog 3 #[.slice aL_a aL_len aL_cap] w fun e w' => e = .returned (.bool true) ∧ Below w.heap.size w w' := by
  have HTB := Lib.hid (table hL); clear hL
  obtain ⟨aL_e, aL_s0⟩ := aL_h; have aL_S := Lib.hid aL_s0; have aL_len0 := aL_s0.len; subst aL_e; clear aL_s0
  by_cases aL_l : (aL_L.length : Int) ≤ (1048576 : Int)
  rotate_left
  ·
    have HB0 : Hid (Below w.heap.size w w) := Below.refl _ _
    go_enter Tryd.func3, Tryd.ntmps3
    go_wp2_with fail
    refine (LawsQ.szQ_no w _ _ (1048576 : Int) (aL_S.out.below HB0.out) (by omega) (by omega) (by omega)).mono ?_
    rintro e w1 ⟨rfl, hg⟩
    have HB1 := Lib.hid (HB0.out.grown hg HB0.out.size (fun _ h => by cases h)); clear HB0
    clear hg
    go_wp2
    go_ret
    exact ⟨rfl, HB1.out⟩
  have HB0 : Hid (Below w.heap.size w w) := Below.refl _ _
  go_enter Tryd.func3, Tryd.ntmps3
  go_wp2_with fail
  refine (LawsQ.szQ_yes w _ _ (1048576 : Int) (aL_S.out.below HB0.out) (by omega) (by omega) (by omega)).mono ?_
  rintro e w1 ⟨rfl, hg⟩
  have HB1 := Lib.hid (HB0.out.grown hg HB0.out.size (fun _ h => by cases h)); clear HB0
  clear hg
  go_wp2_with fail
  refine (LawsQ.to_any w1 (.slice aL_a aL_L.length aL_cap) aL_L (aL_S.out.below HB1.out) (by have h9 := Pc.vis_len aL_L; (try simp only [LawsI.marksI_len, LawsQ.marksQ_len]); omega)).mono ?_
  rintro e w2 ⟨u1, rfl, ho, hg⟩
  have Ou1 := Lib.hid (ho.lower HB1.out.size)
  have HB2 := Lib.hid (HB1.out.grown hg HB1.out.size (fun _ h => by cases h)); clear HB1
  clear ho hg
  go_wp2_with fail
  refine (Pc.sVis_any w2 _ aL_L (Ou1.out.sees)).mono ?_
  rintro e w3 ⟨u2, rfl, ho, hg⟩
  have A_u2_u1 := Lib.hid (Rg.apart_lt ho.lt Ou1.out.lt (Nat.le_refl _))
  have Ou2 := Lib.hid (ho.lower HB2.out.size)
  have HB3 := Lib.hid (HB2.out.grown hg HB2.out.size (fun _ h => by cases h)); clear HB2
  have Ou1 := Lib.hid (Ou1.out.grown hg)
  clear ho hg
  clear Ou1
  go_wp2_with fail
  refine (LawsQ.to_any w3 (.slice aL_a aL_L.length aL_cap) aL_L (aL_S.out.below HB3.out) (by have h9 := Pc.vis_len aL_L; (try simp only [LawsI.marksI_len, LawsQ.marksQ_len]); omega)).mono ?_
  rintro e w4 ⟨u3, rfl, ho, hg⟩
  have A_u3_u2 := Lib.hid (Rg.apart_lt ho.lt Ou2.out.lt (Nat.le_refl _))
  have Ou3 := Lib.hid (ho.lower HB3.out.size)
  have HB4 := Lib.hid (HB3.out.grown hg HB3.out.size (fun _ h => by cases h)); clear HB3
  have Ou2 := Lib.hid (Ou2.out.grown hg)
  clear ho hg
  go_wp2_with fail
  refine (Pc.iVisV_any w4 _ aL_L (Ou3.out.sees) (HTB.out.below HB4.out (Nat.le_refl _))).mono ?_
  rintro e w5 ⟨u4, rfl, ho, hg⟩
  have A_u4_u2 := Lib.hid (Rg.apart_lt ho.lt Ou2.out.lt (Nat.le_refl _))
  have A_u4_u3 := Lib.hid (Rg.apart_lt ho.lt Ou3.out.lt (Nat.le_refl _))
  have Ou4 := Lib.hid (ho.lower HB4.out.size)
  have HB5 := Lib.hid (HB4.out.grown hg HB4.out.size (fun _ h => by cases h)); clear HB4
  have Ou2 := Lib.hid (Ou2.out.grown hg)
  have Ou3 := Lib.hid (Ou3.out.grown hg)
  clear ho hg
  go_wp2_with fail
  refine (LawsI.eq_same w5 (u4) (u2) (Pc.vis aL_L) (Ou4.out.sees) (Ou2.out.sees)).mono ?_
  rintro e w6 ⟨rfl, hg⟩
  have HB6 := Lib.hid (HB5.out.grown hg HB5.out.size (fun _ h => by cases h)); clear HB5
  have Ou2 := Lib.hid (Ou2.out.grown hg)
  have Ou3 := Lib.hid (Ou3.out.grown hg)
  have Ou4 := Lib.hid (Ou4.out.grown hg)
  clear hg
  go_wp2_with fail
  refine (LawsQ.to_any w6 (.slice aL_a aL_L.length aL_cap) aL_L (aL_S.out.below HB6.out) (by have h9 := Pc.vis_len aL_L; (try simp only [LawsI.marksI_len, LawsQ.marksQ_len]); omega)).mono ?_
  rintro e w7 ⟨u5, rfl, ho, hg⟩
  have A_u5_u2 := Lib.hid (Rg.apart_lt ho.lt Ou2.out.lt (Nat.le_refl _))
  have A_u5_u3 := Lib.hid (Rg.apart_lt ho.lt Ou3.out.lt (Nat.le_refl _))
  have A_u5_u4 := Lib.hid (Rg.apart_lt ho.lt Ou4.out.lt (Nat.le_refl _))
  have Ou5 := Lib.hid (ho.lower HB6.out.size)
  have HB7 := Lib.hid (HB6.out.grown hg HB6.out.size (fun _ h => by cases h)); clear HB6
  have Ou2 := Lib.hid (Ou2.out.grown hg)
  have Ou3 := Lib.hid (Ou3.out.grown hg)
  have Ou4 := Lib.hid (Ou4.out.grown hg)
  clear ho hg
  go_wp2_with fail
  refine (LawsQ.eq_same w7 (u3) (u5) aL_L (Ou3.out.sees) (Ou5.out.sees)).mono ?_
  rintro e w8 ⟨rfl, hg⟩
  have HB8 := Lib.hid (HB7.out.grown hg HB7.out.size (fun _ h => by cases h)); clear HB7
  have Ou2 := Lib.hid (Ou2.out.grown hg)
  have Ou3 := Lib.hid (Ou3.out.grown hg)
  have Ou4 := Lib.hid (Ou4.out.grown hg)
  have Ou5 := Lib.hid (Ou5.out.grown hg)
  clear hg
  clear Ou5
  go_wp2_with fail
  refine (LawsQ.mark_any w8 w.heap.size (u3) aL_L (1) Ou3.out (by have h9 := Pc.vis_len aL_L; (try simp only [LawsI.marksI_len, LawsQ.marksQ_len]); omega)).mono ?_
  rintro e w9 ⟨rfl, ho, hg⟩
  have HB9 := Lib.hid (HB8.out.grown hg HB8.out.size (fun c hc => (Ou3.out.lt c hc).1)); clear HB8
  have Ou2 := Lib.hid (Ou2.out.kept hg (A_u3_u2.out.2))
  have Ou4 := Lib.hid (Ou4.out.kept hg (A_u4_u3.out.1))
  have Ou3 := Lib.hid ho; clear ho hg
  go_wp2_with fail
  refine (LawsI.eq_same w9 (u4) (u2) (Pc.vis aL_L) (Ou4.out.sees) (Ou2.out.sees)).mono ?_
  rintro e w10 ⟨rfl, hg⟩
  have HB10 := Lib.hid (HB9.out.grown hg HB9.out.size (fun _ h => by cases h)); clear HB9
  have Ou2 := Lib.hid (Ou2.out.grown hg)
  have Ou3 := Lib.hid (Ou3.out.grown hg)
  have Ou4 := Lib.hid (Ou4.out.grown hg)
  clear hg
  clear Ou3
  go_wp2_with fail
  refine (LawsI.mark_any w10 w.heap.size (u4) (Pc.vis aL_L) (1) Ou4.out (by have h9 := Pc.vis_len aL_L; (try simp only [LawsI.marksI_len, LawsQ.marksQ_len]); omega)).mono ?_
  rintro e w11 ⟨rfl, ho, hg⟩
  have HB11 := Lib.hid (HB10.out.grown hg HB10.out.size (fun c hc => (Ou4.out.lt c hc).1)); clear HB10
  have Ou2 := Lib.hid (Ou2.out.kept hg (A_u4_u2.out.2))
  have Ou4 := Lib.hid ho; clear ho hg
  go_wp2_with fail
  refine (LawsI.held_any w11 (u4) (1) ((Pc.vis aL_L)).length (Ou4.out.sees) (by have h9 := Pc.vis_len aL_L; (try simp only [LawsI.marksI_len, LawsQ.marksQ_len]); omega)).mono ?_
  rintro e w12 ⟨rfl, hg⟩
  have HB12 := Lib.hid (HB11.out.grown hg HB11.out.size (fun _ h => by cases h)); clear HB11
  have Ou2 := Lib.hid (Ou2.out.grown hg)
  have Ou4 := Lib.hid (Ou4.out.grown hg)
  clear hg
  go_wp2_with fail
  refine (LawsQ.to_any w12 (.slice aL_a aL_L.length aL_cap) aL_L (aL_S.out.below HB12.out) (by have h9 := Pc.vis_len aL_L; (try simp only [LawsI.marksI_len, LawsQ.marksQ_len]); omega)).mono ?_
  rintro e w13 ⟨u6, rfl, ho, hg⟩
  have A_u6_u2 := Lib.hid (Rg.apart_lt ho.lt Ou2.out.lt (Nat.le_refl _))
  have A_u6_u4 := Lib.hid (Rg.apart_lt ho.lt Ou4.out.lt (Nat.le_refl _))
  have Ou6 := Lib.hid (ho.lower HB12.out.size)
  have HB13 := Lib.hid (HB12.out.grown hg HB12.out.size (fun _ h => by cases h)); clear HB12
  have Ou2 := Lib.hid (Ou2.out.grown hg)
  have Ou4 := Lib.hid (Ou4.out.grown hg)
  clear ho hg
  go_wp2_with fail
  refine (Pc.iVisV_any w13 _ aL_L (Ou6.out.sees) (HTB.out.below HB13.out (Nat.le_refl _))).mono ?_
  rintro e w14 ⟨u7, rfl, ho, hg⟩
  have A_u7_u2 := Lib.hid (Rg.apart_lt ho.lt Ou2.out.lt (Nat.le_refl _))
  have A_u7_u4 := Lib.hid (Rg.apart_lt ho.lt Ou4.out.lt (Nat.le_refl _))
  have A_u7_u6 := Lib.hid (Rg.apart_lt ho.lt Ou6.out.lt (Nat.le_refl _))
  have Ou7 := Lib.hid (ho.lower HB13.out.size)
  have HB14 := Lib.hid (HB13.out.grown hg HB13.out.size (fun _ h => by cases h)); clear HB13
  have Ou2 := Lib.hid (Ou2.out.grown hg)
  have Ou4 := Lib.hid (Ou4.out.grown hg)
  have Ou6 := Lib.hid (Ou6.out.grown hg)
  clear ho hg
  clear Ou6
  go_wp2_with fail
  refine (LawsI.eq_same w14 (u7) (u2) (Pc.vis aL_L) (Ou7.out.sees) (Ou2.out.sees)).mono ?_
  rintro e w15 ⟨rfl, hg⟩
  have HB15 := Lib.hid (HB14.out.grown hg HB14.out.size (fun _ h => by cases h)); clear HB14
  have Ou2 := Lib.hid (Ou2.out.grown hg)
  have Ou4 := Lib.hid (Ou4.out.grown hg)
  have Ou7 := Lib.hid (Ou7.out.grown hg)
  clear hg
  clear Ou2
  clear Ou7
  go_wp2_with fail
  refine (LawsI.held_any w15 (u4) (1) ((Pc.vis aL_L)).length (Ou4.out.sees) (by have h9 := Pc.vis_len aL_L; (try simp only [LawsI.marksI_len, LawsQ.marksQ_len]); omega)).mono ?_
  rintro e w16 ⟨rfl, hg⟩
  have HB16 := Lib.hid (HB15.out.grown hg HB15.out.size (fun _ h => by cases h)); clear HB15
  have Ou4 := Lib.hid (Ou4.out.grown hg)
  clear hg
  clear Ou4
  go_wp2
  go_ret
  exact ⟨rfl, HB16.out⟩

set_option maxRecDepth 100000 in
/-- What the walk gives, for every argument. -/
theorem contract (H : Type) (enc : TypeId × Value → H) (W : World) (base : Nat) (args : Array Value) (ds gs : List (DataW H)) (before : List MemPlace)
    (hval : ∀ (j : Nat) t v, Tryd.f3.params[j]? = some t → args[j]? = some v → Value.okWide Tryd.prog W .any base t v)
    (hW : DataW.Whole enc Tryd.prog Tryd.f3.params.toList Rows.fnExactVisitedSpec.vars false W args.toList ds gs before) (hL : laidMetH Tryd.prog Rows.fnExactVisitedRow.laid W) :
    Calls Tryd.prog 3 args W fun e W' => ∃ v, e = .returned v ∧ Rows.fnExactVisitedSpec.post enc Tryd.prog Tryd.f3 false true false false W args v W' := by
  have hW' := hW
  obtain ⟨p, q, hA0, hV, rfl, hfz, hnd⟩ := hW
  have hA : DataW.TrodAll enc Tryd.prog W 0 (fun _ => true) true Tryd.f3.params.toList args.toList ds p := hA0
  rw [Tryd.params3] at hA hval
  obtain ⟨v0, vs0, d0, ds0, p0, q0, hargs, rfl, rfl, h0, r0⟩ := trodAll_cons hA
  obtain ⟨rfl, rfl, rfl⟩ := trodAll_nil r0
  obtain rfl : args = #[v0] := by cases args; simp_all
  obtain ⟨rfl, rfl⟩ := trodVars_none hV
  obtain ⟨a0, len0, cap0, rfl⟩ := okWide_slice Tryd.underlying22 (hval 0 22 v0 rfl rfl)
  have k0 := h0
  have lt0 : ∀ x ∈ p0, x.block < W.heap.size := by obtain ⟨m, hm⟩ := k0; exact DataW.trod_lt m _ _ _ hm
  obtain ⟨z0, w0⟩ := Rg.row_openG (e := Rg.enc4) Tryd.underlying22 (by kernel_rfl) (Rg.enc4_open Tryd.underlying71 (by kernel_rfl) Tryd.underlying3 Tryd.underlying3 Tryd.underlying3 Tryd.underlying3) h0
  clear hA0
  refine (walk W a0 len0 cap0 z0 w0 hL).mono fun e W' ⟨he, bel⟩ => ?_
  subst he
  exact ⟨_, rfl, _, _, _, [], _, [], hW', trodAll_mk1 (shut_bool Tryd.underlying4 _), (trodAll_cons_mk (Below.trod laidOut (by kernel_rfl) (of_decide_eq_true (by kernel_rfl)) k0 bel lt0) trodAll_mk0), rfl, bel.frame _, fun h => by cases h⟩

/-- So many blocks has the settled world. -/
noncomputable def low : Nat := (World.holding Tryd.prog default ⟨#[], #[], []⟩).heap.size
/-- A world for the witness: the settled one, the listed variables holding what their initialisers lay. -/
noncomputable def laidWorld (os : Os) : World :=
  let w0 := World.holding Tryd.prog os ⟨#[], #[], []⟩
  { w0 with heap := (w0.heap.modify 1 fun
      | .cells _ t frozen => .cells #[.int .u8 (0), .int .u8 (1), .int .u8 (56), .int .u8 (2), .int .u8 (57), .int .u8 (49), .int .u8 (28), .int .u8 (3), .int .u8 (61), .int .u8 (58), .int .u8 (42), .int .u8 (50), .int .u8 (38), .int .u8 (29), .int .u8 (17), .int .u8 (4), .int .u8 (62), .int .u8 (47), .int .u8 (59), .int .u8 (36), .int .u8 (45), .int .u8 (43), .int .u8 (51), .int .u8 (22), .int .u8 (53), .int .u8 (39), .int .u8 (33), .int .u8 (30), .int .u8 (24), .int .u8 (18), .int .u8 (12), .int .u8 (5), .int .u8 (63), .int .u8 (55), .int .u8 (48), .int .u8 (27), .int .u8 (60), .int .u8 (41), .int .u8 (37), .int .u8 (16), .int .u8 (46), .int .u8 (35), .int .u8 (44), .int .u8 (21), .int .u8 (52), .int .u8 (32), .int .u8 (23), .int .u8 (11), .int .u8 (54), .int .u8 (26), .int .u8 (40), .int .u8 (15), .int .u8 (34), .int .u8 (20), .int .u8 (31), .int .u8 (10), .int .u8 (25), .int .u8 (14), .int .u8 (19), .int .u8 (9), .int .u8 (13), .int .u8 (8), .int .u8 (7), .int .u8 (6)] t frozen
      | o => o) }
theorem laid_met (os : Os) : laidMet Tryd.prog Rows.fnExactVisitedRow.laid ((laidWorld os).forCall (fun _ _ => 0) ⟨#[], #[.slice none 0 0], []⟩).memory :=
  laidMet_of_run' 8 (by kernel_rfl) (by kernel_rfl)
theorem reads (os : Os) {H : Type} (enc : TypeId × Value → H) : ∃ places, DataW.whole enc Tryd.prog ((laidWorld os).forCall (fun _ _ => 0) ⟨#[], #[.slice none 0 0], []⟩).memory Tryd.f3.params.toList Rows.fnExactVisitedSpec.vars false (#[.slice none 0 0] : Array Value).toList 8 = some ([.nil], [], places) :=
  ⟨[], by kernel_rfl⟩

set_option maxRecDepth 100000 in
theorem lifted (os : Os) (started : os.Started) (H : Type) (enc : TypeId × Value → H) (F : Stop.Interp) :
    ReturnsInHanded {} Tryd.checked os 3 .any ((OpenSpec.ofChange Rows.fnExactVisitedSpec).preRow enc Tryd.prog Tryd.f3 Rows.fnExactVisitedRow.domain false Rows.fnExactVisitedRow.laid) (((OpenSpec.ofChange Rows.fnExactVisitedSpec).at F).post enc Tryd.prog Tryd.f3 false true false false) := by
  obtain ⟨places, hx⟩ := reads os enc
  refine returnsInHanded_of_row (C := Tryd.checked) (s := (OpenSpec.ofChange Rows.fnExactVisitedSpec)) own started (by kernel_rfl) Tryd.func3
    (witness_row_at (enc := enc) (C := Tryd.checked) false (laidWorld os) #[.slice none 0 0] rfl (by kernel_rfl) (by kernel_rfl) (by kernel_rfl)
      (OpenSpec.preRow_of_cond 8 hx (by kernel_rfl) (fun k hk => by cases hk) (by kernel_rfl) (laid_met os))) ?_
  intro W base args ds gs before hval hW _ _ _ hL _ _
  exact contract H enc W base args ds gs before hval hW hL

set_option maxRecDepth 100000 in
theorem said : Rows.FnExactVisitedSaid :=
  OpenClaim.holds_of_cond 3 Tryd.f3 rfl rfl rfl rfl rfl rfl rfl ⟨rfl, rfl, rfl, rfl, rfl⟩ rfl rfl rfl rfl rfl (by kernel_rfl) Tryd.func3 (by kernel_rfl)
    (of_decide_eq_true (by kernel_rfl)) (by unfold Func.isWrapper; first | (rw [if_pos (by decide +kernel)]; kernel_rfl) | (rw [if_neg (by decide +kernel)]; exact ⟨rfl, rfl⟩))
    (fun os started H enc _ F => by rw [OpenClaim.pre_eq_preRow]; exact lifted os started H enc F)

/-- No parameter wants a stand-in. -/
theorem plain (f : FuncId) (fn : Func) (hf : Tryd.pinned.checked.prog.funcNamed "loop.example/g03008/laws.FnExactVisited" = some f) (hfn : Tryd.pinned.checked.prog.funcs[f]? = some fn) :
    false = Tryd.pinned.checked.prog.looks [] ∧ ∀ (j : Nat) t, fn.params[j]? = some t → Tryd.pinned.checked.prog.wantsStandIn t = false := by
  obtain rfl : f = 3 := Option.some.inj ((show Tryd.prog.funcNamed "loop.example/g03008/laws.FnExactVisited" = some 3 by kernel_rfl).symm.trans hf) |>.symm
  obtain rfl : fn = Tryd.f3 := (Option.some.inj (Tryd.func3.symm.trans hfn)).symm
  refine ⟨by kernel_rfl, fun j t ht => ?_⟩
  rw [Tryd.params3] at ht
  have hm := Array.mem_of_getElem? ht
  simp only [List.mem_toArray, List.mem_cons, List.not_mem_nil, or_false] at hm
  subst hm
  exact (show Tryd.prog.wantsStandIn 22 = false by kernel_rfl)
theorem proved : Rows.FnExactVisitedCardSaid :=
  Claim7.holds_tied_plain_at .later [] _ _ _ _ said (fun _ h => by cases h) (by kernel_rfl) (fun _ h => by cases h) fnExactVisited_row_tie rfl ⟨rfl, rfl⟩ (by kernel_rfl) rfl plain (by kernel_rfl)
#print axioms proved
end Go.Proofs.YtdeggdhcleanmaaDoor.fnExactVisited

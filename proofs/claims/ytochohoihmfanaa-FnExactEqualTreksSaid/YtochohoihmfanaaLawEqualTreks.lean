/- The law FnExactEqualTreks: the program's EqualTreks answers as its model, for every argument; it writes into no argument, and its answer owns its memory. No condition. -/
import Derived.Deep.RegionHeld3
import Derived.Test.YtochohoihmfanaaRows
import Derived.Test.YtochohoihmfanaaFieldG
import Derived.Test.YtochohoihmfanaaTrekO
import Derived.Test.YtochohoihmfanaaGB
import Derived.Test.YtochohoihmfanaaGC
import Derived.WalkKit
import Derived.ProofKit
import Derived.OpenShut
import Derived.ShutString
import Derived.ChangeOld
import Derived.Below
import Derived.Deep.DeepHandedRow
import Derived.Deep.DeepWitnessRowRef
import Derived.Lib.LaidTab
namespace Go.Proofs.Ytochohoihmfanaa.fnExactEqualTreks
open Go.ChangeShapes Go.WideShapes Go.ChangeAt Go.RowKit
open Go.ChangeMaps (open_string shut_string)
set_option linter.unusedVariables false

theorem own : ownKnob Try.prog.godebug = none := by kernel_rfl
theorem laidOut : laidOutB Try.prog = true := by kernel_rfl

open Kit Rw
set_option maxRecDepth 100000 in
set_option maxHeartbeats 4000000 in
theorem walk (w : World) (aLW : Int) (aLW_h : (Lit.int .i64 aLW).wf = true) (aLH : Int) (aLH_h : (Lit.int .i64 aLH).wf = true) (aLC_a : Option Addr) (aLC_len aLC_cap : Nat) (aLC_z : List Int) (aLC_h : Kit.IsRow .i64 w aLC_a aLC_len aLC_cap aLC_z) (aXBase : Int) (aXBase_h : (Lit.int .i64 aXBase).wf = true) (aRM : Int) (aRM_h : (Lit.int .i64 aRM).wf = true) (aRW : Int) (aRW_h : (Lit.int .i64 aRW).wf = true) (aDp_a : Option Addr) (aDp_len aDp_cap : Nat) (aDp_L : List (Int × Int)) (aDp_h : aDp_L.length = aDp_len ∧ Rg.SeesG Rg.encP w (.slice aDp_a aDp_len aDp_cap) aDp_L) (aPA : Int) (aPA_h : (Lit.int .i64 aPA).wf = true) (aPF : Int) (aPF_h : (Lit.int .i64 aPF).wf = true) (aPC_a : Option Addr) (aPC_len aPC_cap : Nat) (aPC_L : List Rg.Mem) (aPC_h : aPC_L.length = aPC_len ∧ Rg.SeesG Rg.encM w (.slice aPC_a aPC_len aPC_cap) aPC_L) (aPP_a : Option Addr) (aPP_len aPP_cap : Nat) (aPP_L : List Bool) (aPP_h : aPP_L.length = aPP_len ∧ Rg.SeesG Rg.encB w (.slice aPP_a aPP_len aPP_cap) aPP_L) (aJn_a : Option Addr) (aJn_len aJn_cap : Nat) (aJn_L : List Rg.I4) (aJn_h : aJn_L.length = aJn_len ∧ Rg.SeesG Rg.enc4 w (.slice aJn_a aJn_len aJn_cap) aJn_L) (aXDay : Int) (aXDay_h : (Lit.int .i64 aXDay).wf = true) (aXGiven : Int) (aXGiven_h : (Lit.int .i64 aXGiven).wf = true) (aXEaten : Int) (aXEaten_h : (Lit.int .i64 aXEaten).wf = true) (bLW : Int) (bLW_h : (Lit.int .i64 bLW).wf = true) (bLH : Int) (bLH_h : (Lit.int .i64 bLH).wf = true) (bLC_a : Option Addr) (bLC_len bLC_cap : Nat) (bLC_z : List Int) (bLC_h : Kit.IsRow .i64 w bLC_a bLC_len bLC_cap bLC_z) (bXBase : Int) (bXBase_h : (Lit.int .i64 bXBase).wf = true) (bRM : Int) (bRM_h : (Lit.int .i64 bRM).wf = true) (bRW : Int) (bRW_h : (Lit.int .i64 bRW).wf = true) (bDp_a : Option Addr) (bDp_len bDp_cap : Nat) (bDp_L : List (Int × Int)) (bDp_h : bDp_L.length = bDp_len ∧ Rg.SeesG Rg.encP w (.slice bDp_a bDp_len bDp_cap) bDp_L) (bPA : Int) (bPA_h : (Lit.int .i64 bPA).wf = true) (bPF : Int) (bPF_h : (Lit.int .i64 bPF).wf = true) (bPC_a : Option Addr) (bPC_len bPC_cap : Nat) (bPC_L : List Rg.Mem) (bPC_h : bPC_L.length = bPC_len ∧ Rg.SeesG Rg.encM w (.slice bPC_a bPC_len bPC_cap) bPC_L) (bPP_a : Option Addr) (bPP_len bPP_cap : Nat) (bPP_L : List Bool) (bPP_h : bPP_L.length = bPP_len ∧ Rg.SeesG Rg.encB w (.slice bPP_a bPP_len bPP_cap) bPP_L) (bJn_a : Option Addr) (bJn_len bJn_cap : Nat) (bJn_L : List Rg.I4) (bJn_h : bJn_L.length = bJn_len ∧ Rg.SeesG Rg.enc4 w (.slice bJn_a bJn_len bJn_cap) bJn_L) (bXDay : Int) (bXDay_h : (Lit.int .i64 bXDay).wf = true) (bXGiven : Int) (bXGiven_h : (Lit.int .i64 bXGiven).wf = true) (bXEaten : Int) (bXEaten_h : (Lit.int .i64 bXEaten).wf = true) :
    Calls Try.prog 11 #[.agg #[.int .i64 aLW, .int .i64 aLH, .slice aLC_a aLC_len aLC_cap, .int .i64 aXBase, .int .i64 aRM, .int .i64 aRW, .slice aDp_a aDp_len aDp_cap, .int .i64 aPA, .int .i64 aPF, .slice aPC_a aPC_len aPC_cap, .slice aPP_a aPP_len aPP_cap, .slice aJn_a aJn_len aJn_cap, .int .i64 aXDay, .int .i64 aXGiven, .int .i64 aXEaten], .agg #[.int .i64 bLW, .int .i64 bLH, .slice bLC_a bLC_len bLC_cap, .int .i64 bXBase, .int .i64 bRM, .int .i64 bRW, .slice bDp_a bDp_len bDp_cap, .int .i64 bPA, .int .i64 bPF, .slice bPC_a bPC_len bPC_cap, .slice bPP_a bPP_len bPP_cap, .slice bJn_a bJn_len bJn_cap, .int .i64 bXDay, .int .i64 bXGiven, .int .i64 bXEaten]] w fun e w' => e = .returned (.bool true) ∧ Below w.heap.size w w' := by
  obtain ⟨aDp_e, aDp_s0⟩ := aDp_h; have aDp_S := Lib.hid aDp_s0; have aDp_len0 := aDp_s0.len; subst aDp_e; clear aDp_s0
  obtain ⟨aPC_e, aPC_s0⟩ := aPC_h; have aPC_S := Lib.hid aPC_s0; have aPC_len0 := aPC_s0.len; subst aPC_e; clear aPC_s0
  obtain ⟨aPP_e, aPP_s0⟩ := aPP_h; have aPP_S := Lib.hid aPP_s0; have aPP_len0 := aPP_s0.len; subst aPP_e; clear aPP_s0
  obtain ⟨aJn_e, aJn_s0⟩ := aJn_h; have aJn_S := Lib.hid aJn_s0; have aJn_len0 := aJn_s0.len; subst aJn_e; clear aJn_s0
  obtain ⟨bDp_e, bDp_s0⟩ := bDp_h; have bDp_S := Lib.hid bDp_s0; have bDp_len0 := bDp_s0.len; subst bDp_e; clear bDp_s0
  obtain ⟨bPC_e, bPC_s0⟩ := bPC_h; have bPC_S := Lib.hid bPC_s0; have bPC_len0 := bPC_s0.len; subst bPC_e; clear bPC_s0
  obtain ⟨bPP_e, bPP_s0⟩ := bPP_h; have bPP_S := Lib.hid bPP_s0; have bPP_len0 := bPP_s0.len; subst bPP_e; clear bPP_s0
  obtain ⟨bJn_e, bJn_s0⟩ := bJn_h; have bJn_S := Lib.hid bJn_s0; have bJn_len0 := bJn_s0.len; subst bJn_e; clear bJn_s0
  have aLC_g := Lib.hid aLC_h; clear aLC_h
  obtain ⟨aLC_L, aLC_e, aLC_s0⟩ := IsRow.sees aLC_g.out
  have aLC_S := Lib.hid aLC_s0; have aLC_len0 := aLC_s0.len; subst aLC_e; clear aLC_s0 aLC_g
  have bLC_g := Lib.hid bLC_h; clear bLC_h
  obtain ⟨bLC_L, bLC_e, bLC_s0⟩ := IsRow.sees bLC_g.out
  have bLC_S := Lib.hid bLC_s0; have bLC_len0 := bLC_s0.len; subst bLC_e; clear bLC_s0 bLC_g
  have aLW_H := Lib.hid aLW_h; have aLW_b := i64_of aLW_h; clear aLW_h
  have aLH_H := Lib.hid aLH_h; have aLH_b := i64_of aLH_h; clear aLH_h
  have aXBase_H := Lib.hid aXBase_h; have aXBase_b := i64_of aXBase_h; clear aXBase_h
  have aRM_H := Lib.hid aRM_h; have aRM_b := i64_of aRM_h; clear aRM_h
  have aRW_H := Lib.hid aRW_h; have aRW_b := i64_of aRW_h; clear aRW_h
  have aPA_H := Lib.hid aPA_h; have aPA_b := i64_of aPA_h; clear aPA_h
  have aPF_H := Lib.hid aPF_h; have aPF_b := i64_of aPF_h; clear aPF_h
  have aXDay_H := Lib.hid aXDay_h; have aXDay_b := i64_of aXDay_h; clear aXDay_h
  have aXGiven_H := Lib.hid aXGiven_h; have aXGiven_b := i64_of aXGiven_h; clear aXGiven_h
  have aXEaten_H := Lib.hid aXEaten_h; have aXEaten_b := i64_of aXEaten_h; clear aXEaten_h
  have bLW_H := Lib.hid bLW_h; have bLW_b := i64_of bLW_h; clear bLW_h
  have bLH_H := Lib.hid bLH_h; have bLH_b := i64_of bLH_h; clear bLH_h
  have bXBase_H := Lib.hid bXBase_h; have bXBase_b := i64_of bXBase_h; clear bXBase_h
  have bRM_H := Lib.hid bRM_h; have bRM_b := i64_of bRM_h; clear bRM_h
  have bRW_H := Lib.hid bRW_h; have bRW_b := i64_of bRW_h; clear bRW_h
  have bPA_H := Lib.hid bPA_h; have bPA_b := i64_of bPA_h; clear bPA_h
  have bPF_H := Lib.hid bPF_h; have bPF_b := i64_of bPF_h; clear bPF_h
  have bXDay_H := Lib.hid bXDay_h; have bXDay_b := i64_of bXDay_h; clear bXDay_h
  have bXGiven_H := Lib.hid bXGiven_h; have bXGiven_b := i64_of bXGiven_h; clear bXGiven_h
  have bXEaten_H := Lib.hid bXEaten_h; have bXEaten_b := i64_of bXEaten_h; clear bXEaten_h
  by_cases aXl : (aLC_L.length : Int) + (aDp_L.length : Int) + (aPC_L.length : Int) + (aPP_L.length : Int) + (aJn_L.length : Int) ≤ (1048576 : Int)
  rotate_left
  ·
    as_aux_lemma =>
      have HB0 : Hid (Below w.heap.size w w) := Below.refl _ _
      have hgb := World.grownBy_alloc w (.cells #[.int .i64 aLW, .int .i64 aLH, .slice aLC_a aLC_L.length aLC_cap, .int .i64 aXBase, .int .i64 aRM, .int .i64 aRW, .slice aDp_a aDp_L.length aDp_cap, .int .i64 aPA, .int .i64 aPF, .slice aPC_a aPC_L.length aPC_cap, .slice aPP_a aPP_L.length aPP_cap, .slice aJn_a aJn_L.length aJn_cap, .int .i64 aXDay, .int .i64 aXGiven, .int .i64 aXEaten] 58 (0, 0)) none
      have HB1 := Lib.hid (HB0.out.grown hgb HB0.out.size (fun _ h => by cases h)); clear HB0
      have XP0 := Lib.hid (box_new w #[.int .i64 aLW, .int .i64 aLH, .slice aLC_a aLC_L.length aLC_cap, .int .i64 aXBase, .int .i64 aRM, .int .i64 aRW, .slice aDp_a aDp_L.length aDp_cap, .int .i64 aPA, .int .i64 aPF, .slice aPC_a aPC_L.length aPC_cap, .slice aPP_a aPP_L.length aPP_cap, .slice aJn_a aJn_L.length aJn_cap, .int .i64 aXDay, .int .i64 aXGiven, .int .i64 aXEaten] 58); clear hgb
      have hgb := World.grownBy_alloc (w.alloc (.cells #[.int .i64 aLW, .int .i64 aLH, .slice aLC_a aLC_L.length aLC_cap, .int .i64 aXBase, .int .i64 aRM, .int .i64 aRW, .slice aDp_a aDp_L.length aDp_cap, .int .i64 aPA, .int .i64 aPF, .slice aPC_a aPC_L.length aPC_cap, .slice aPP_a aPP_L.length aPP_cap, .slice aJn_a aJn_L.length aJn_cap, .int .i64 aXDay, .int .i64 aXGiven, .int .i64 aXEaten] 58 (0, 0))) (.cells #[.int .i64 bLW, .int .i64 bLH, .slice bLC_a bLC_L.length bLC_cap, .int .i64 bXBase, .int .i64 bRM, .int .i64 bRW, .slice bDp_a bDp_L.length bDp_cap, .int .i64 bPA, .int .i64 bPF, .slice bPC_a bPC_L.length bPC_cap, .slice bPP_a bPP_L.length bPP_cap, .slice bJn_a bJn_L.length bJn_cap, .int .i64 bXDay, .int .i64 bXGiven, .int .i64 bXEaten] 58 (0, 0)) none
      have HB2 := Lib.hid (HB1.out.grown hgb HB1.out.size (fun _ h => by cases h)); clear HB1
      have XP0 := Lib.hid (XP0.out.grown hgb)
      have XP1 := Lib.hid (box_new (w.alloc (.cells #[.int .i64 aLW, .int .i64 aLH, .slice aLC_a aLC_L.length aLC_cap, .int .i64 aXBase, .int .i64 aRM, .int .i64 aRW, .slice aDp_a aDp_L.length aDp_cap, .int .i64 aPA, .int .i64 aPF, .slice aPC_a aPC_L.length aPC_cap, .slice aPP_a aPP_L.length aPP_cap, .slice aJn_a aJn_L.length aJn_cap, .int .i64 aXDay, .int .i64 aXGiven, .int .i64 aXEaten] 58 (0, 0))) #[.int .i64 bLW, .int .i64 bLH, .slice bLC_a bLC_L.length bLC_cap, .int .i64 bXBase, .int .i64 bRM, .int .i64 bRW, .slice bDp_a bDp_L.length bDp_cap, .int .i64 bPA, .int .i64 bPF, .slice bPC_a bPC_L.length bPC_cap, .slice bPP_a bPP_L.length bPP_cap, .slice bJn_a bJn_L.length bJn_cap, .int .i64 bXDay, .int .i64 bXGiven, .int .i64 bXEaten] 58); clear hgb
      simp only [World.size_alloc] at XP1
      go_enter Try.func11, Try.ntmps11
      try clear cP0_0
      have cP0_0 : World.cell? ((w.alloc (.cells #[.int .i64 aLW, .int .i64 aLH, .slice aLC_a aLC_L.length aLC_cap, .int .i64 aXBase, .int .i64 aRM, .int .i64 aRW, .slice aDp_a aDp_L.length aDp_cap, .int .i64 aPA, .int .i64 aPF, .slice aPC_a aPC_L.length aPC_cap, .slice aPP_a aPP_L.length aPP_cap, .slice aJn_a aJn_L.length aJn_cap, .int .i64 aXDay, .int .i64 aXGiven, .int .i64 aXEaten] 58 (0, 0))).alloc (.cells #[.int .i64 bLW, .int .i64 bLH, .slice bLC_a bLC_L.length bLC_cap, .int .i64 bXBase, .int .i64 bRM, .int .i64 bRW, .slice bDp_a bDp_L.length bDp_cap, .int .i64 bPA, .int .i64 bPF, .slice bPC_a bPC_L.length bPC_cap, .slice bPP_a bPP_L.length bPP_cap, .slice bJn_a bJn_L.length bJn_cap, .int .i64 bXDay, .int .i64 bXGiven, .int .i64 bXEaten] 58 (0, 0))) ⟨w.heap.size, 0, none⟩ = some (.int .i64 aLW) := XP0.out.cell 0
      try clear cP0_1
      have cP0_1 : World.cell? ((w.alloc (.cells #[.int .i64 aLW, .int .i64 aLH, .slice aLC_a aLC_L.length aLC_cap, .int .i64 aXBase, .int .i64 aRM, .int .i64 aRW, .slice aDp_a aDp_L.length aDp_cap, .int .i64 aPA, .int .i64 aPF, .slice aPC_a aPC_L.length aPC_cap, .slice aPP_a aPP_L.length aPP_cap, .slice aJn_a aJn_L.length aJn_cap, .int .i64 aXDay, .int .i64 aXGiven, .int .i64 aXEaten] 58 (0, 0))).alloc (.cells #[.int .i64 bLW, .int .i64 bLH, .slice bLC_a bLC_L.length bLC_cap, .int .i64 bXBase, .int .i64 bRM, .int .i64 bRW, .slice bDp_a bDp_L.length bDp_cap, .int .i64 bPA, .int .i64 bPF, .slice bPC_a bPC_L.length bPC_cap, .slice bPP_a bPP_L.length bPP_cap, .slice bJn_a bJn_L.length bJn_cap, .int .i64 bXDay, .int .i64 bXGiven, .int .i64 bXEaten] 58 (0, 0))) ⟨w.heap.size, 1, none⟩ = some (.int .i64 aLH) := XP0.out.cell 1
      try clear cP0_2
      have cP0_2 : World.cell? ((w.alloc (.cells #[.int .i64 aLW, .int .i64 aLH, .slice aLC_a aLC_L.length aLC_cap, .int .i64 aXBase, .int .i64 aRM, .int .i64 aRW, .slice aDp_a aDp_L.length aDp_cap, .int .i64 aPA, .int .i64 aPF, .slice aPC_a aPC_L.length aPC_cap, .slice aPP_a aPP_L.length aPP_cap, .slice aJn_a aJn_L.length aJn_cap, .int .i64 aXDay, .int .i64 aXGiven, .int .i64 aXEaten] 58 (0, 0))).alloc (.cells #[.int .i64 bLW, .int .i64 bLH, .slice bLC_a bLC_L.length bLC_cap, .int .i64 bXBase, .int .i64 bRM, .int .i64 bRW, .slice bDp_a bDp_L.length bDp_cap, .int .i64 bPA, .int .i64 bPF, .slice bPC_a bPC_L.length bPC_cap, .slice bPP_a bPP_L.length bPP_cap, .slice bJn_a bJn_L.length bJn_cap, .int .i64 bXDay, .int .i64 bXGiven, .int .i64 bXEaten] 58 (0, 0))) ⟨w.heap.size, 2, none⟩ = some (.slice aLC_a aLC_L.length aLC_cap) := XP0.out.cell 2
      try clear cP0_3
      have cP0_3 : World.cell? ((w.alloc (.cells #[.int .i64 aLW, .int .i64 aLH, .slice aLC_a aLC_L.length aLC_cap, .int .i64 aXBase, .int .i64 aRM, .int .i64 aRW, .slice aDp_a aDp_L.length aDp_cap, .int .i64 aPA, .int .i64 aPF, .slice aPC_a aPC_L.length aPC_cap, .slice aPP_a aPP_L.length aPP_cap, .slice aJn_a aJn_L.length aJn_cap, .int .i64 aXDay, .int .i64 aXGiven, .int .i64 aXEaten] 58 (0, 0))).alloc (.cells #[.int .i64 bLW, .int .i64 bLH, .slice bLC_a bLC_L.length bLC_cap, .int .i64 bXBase, .int .i64 bRM, .int .i64 bRW, .slice bDp_a bDp_L.length bDp_cap, .int .i64 bPA, .int .i64 bPF, .slice bPC_a bPC_L.length bPC_cap, .slice bPP_a bPP_L.length bPP_cap, .slice bJn_a bJn_L.length bJn_cap, .int .i64 bXDay, .int .i64 bXGiven, .int .i64 bXEaten] 58 (0, 0))) ⟨w.heap.size, 3, none⟩ = some (.int .i64 aXBase) := XP0.out.cell 3
      try clear cP0_4
      have cP0_4 : World.cell? ((w.alloc (.cells #[.int .i64 aLW, .int .i64 aLH, .slice aLC_a aLC_L.length aLC_cap, .int .i64 aXBase, .int .i64 aRM, .int .i64 aRW, .slice aDp_a aDp_L.length aDp_cap, .int .i64 aPA, .int .i64 aPF, .slice aPC_a aPC_L.length aPC_cap, .slice aPP_a aPP_L.length aPP_cap, .slice aJn_a aJn_L.length aJn_cap, .int .i64 aXDay, .int .i64 aXGiven, .int .i64 aXEaten] 58 (0, 0))).alloc (.cells #[.int .i64 bLW, .int .i64 bLH, .slice bLC_a bLC_L.length bLC_cap, .int .i64 bXBase, .int .i64 bRM, .int .i64 bRW, .slice bDp_a bDp_L.length bDp_cap, .int .i64 bPA, .int .i64 bPF, .slice bPC_a bPC_L.length bPC_cap, .slice bPP_a bPP_L.length bPP_cap, .slice bJn_a bJn_L.length bJn_cap, .int .i64 bXDay, .int .i64 bXGiven, .int .i64 bXEaten] 58 (0, 0))) ⟨w.heap.size, 4, none⟩ = some (.int .i64 aRM) := XP0.out.cell 4
      try clear cP0_5
      have cP0_5 : World.cell? ((w.alloc (.cells #[.int .i64 aLW, .int .i64 aLH, .slice aLC_a aLC_L.length aLC_cap, .int .i64 aXBase, .int .i64 aRM, .int .i64 aRW, .slice aDp_a aDp_L.length aDp_cap, .int .i64 aPA, .int .i64 aPF, .slice aPC_a aPC_L.length aPC_cap, .slice aPP_a aPP_L.length aPP_cap, .slice aJn_a aJn_L.length aJn_cap, .int .i64 aXDay, .int .i64 aXGiven, .int .i64 aXEaten] 58 (0, 0))).alloc (.cells #[.int .i64 bLW, .int .i64 bLH, .slice bLC_a bLC_L.length bLC_cap, .int .i64 bXBase, .int .i64 bRM, .int .i64 bRW, .slice bDp_a bDp_L.length bDp_cap, .int .i64 bPA, .int .i64 bPF, .slice bPC_a bPC_L.length bPC_cap, .slice bPP_a bPP_L.length bPP_cap, .slice bJn_a bJn_L.length bJn_cap, .int .i64 bXDay, .int .i64 bXGiven, .int .i64 bXEaten] 58 (0, 0))) ⟨w.heap.size, 5, none⟩ = some (.int .i64 aRW) := XP0.out.cell 5
      try clear cP0_6
      have cP0_6 : World.cell? ((w.alloc (.cells #[.int .i64 aLW, .int .i64 aLH, .slice aLC_a aLC_L.length aLC_cap, .int .i64 aXBase, .int .i64 aRM, .int .i64 aRW, .slice aDp_a aDp_L.length aDp_cap, .int .i64 aPA, .int .i64 aPF, .slice aPC_a aPC_L.length aPC_cap, .slice aPP_a aPP_L.length aPP_cap, .slice aJn_a aJn_L.length aJn_cap, .int .i64 aXDay, .int .i64 aXGiven, .int .i64 aXEaten] 58 (0, 0))).alloc (.cells #[.int .i64 bLW, .int .i64 bLH, .slice bLC_a bLC_L.length bLC_cap, .int .i64 bXBase, .int .i64 bRM, .int .i64 bRW, .slice bDp_a bDp_L.length bDp_cap, .int .i64 bPA, .int .i64 bPF, .slice bPC_a bPC_L.length bPC_cap, .slice bPP_a bPP_L.length bPP_cap, .slice bJn_a bJn_L.length bJn_cap, .int .i64 bXDay, .int .i64 bXGiven, .int .i64 bXEaten] 58 (0, 0))) ⟨w.heap.size, 6, none⟩ = some (.slice aDp_a aDp_L.length aDp_cap) := XP0.out.cell 6
      try clear cP0_7
      have cP0_7 : World.cell? ((w.alloc (.cells #[.int .i64 aLW, .int .i64 aLH, .slice aLC_a aLC_L.length aLC_cap, .int .i64 aXBase, .int .i64 aRM, .int .i64 aRW, .slice aDp_a aDp_L.length aDp_cap, .int .i64 aPA, .int .i64 aPF, .slice aPC_a aPC_L.length aPC_cap, .slice aPP_a aPP_L.length aPP_cap, .slice aJn_a aJn_L.length aJn_cap, .int .i64 aXDay, .int .i64 aXGiven, .int .i64 aXEaten] 58 (0, 0))).alloc (.cells #[.int .i64 bLW, .int .i64 bLH, .slice bLC_a bLC_L.length bLC_cap, .int .i64 bXBase, .int .i64 bRM, .int .i64 bRW, .slice bDp_a bDp_L.length bDp_cap, .int .i64 bPA, .int .i64 bPF, .slice bPC_a bPC_L.length bPC_cap, .slice bPP_a bPP_L.length bPP_cap, .slice bJn_a bJn_L.length bJn_cap, .int .i64 bXDay, .int .i64 bXGiven, .int .i64 bXEaten] 58 (0, 0))) ⟨w.heap.size, 7, none⟩ = some (.int .i64 aPA) := XP0.out.cell 7
      try clear cP0_8
      have cP0_8 : World.cell? ((w.alloc (.cells #[.int .i64 aLW, .int .i64 aLH, .slice aLC_a aLC_L.length aLC_cap, .int .i64 aXBase, .int .i64 aRM, .int .i64 aRW, .slice aDp_a aDp_L.length aDp_cap, .int .i64 aPA, .int .i64 aPF, .slice aPC_a aPC_L.length aPC_cap, .slice aPP_a aPP_L.length aPP_cap, .slice aJn_a aJn_L.length aJn_cap, .int .i64 aXDay, .int .i64 aXGiven, .int .i64 aXEaten] 58 (0, 0))).alloc (.cells #[.int .i64 bLW, .int .i64 bLH, .slice bLC_a bLC_L.length bLC_cap, .int .i64 bXBase, .int .i64 bRM, .int .i64 bRW, .slice bDp_a bDp_L.length bDp_cap, .int .i64 bPA, .int .i64 bPF, .slice bPC_a bPC_L.length bPC_cap, .slice bPP_a bPP_L.length bPP_cap, .slice bJn_a bJn_L.length bJn_cap, .int .i64 bXDay, .int .i64 bXGiven, .int .i64 bXEaten] 58 (0, 0))) ⟨w.heap.size, 8, none⟩ = some (.int .i64 aPF) := XP0.out.cell 8
      try clear cP0_9
      have cP0_9 : World.cell? ((w.alloc (.cells #[.int .i64 aLW, .int .i64 aLH, .slice aLC_a aLC_L.length aLC_cap, .int .i64 aXBase, .int .i64 aRM, .int .i64 aRW, .slice aDp_a aDp_L.length aDp_cap, .int .i64 aPA, .int .i64 aPF, .slice aPC_a aPC_L.length aPC_cap, .slice aPP_a aPP_L.length aPP_cap, .slice aJn_a aJn_L.length aJn_cap, .int .i64 aXDay, .int .i64 aXGiven, .int .i64 aXEaten] 58 (0, 0))).alloc (.cells #[.int .i64 bLW, .int .i64 bLH, .slice bLC_a bLC_L.length bLC_cap, .int .i64 bXBase, .int .i64 bRM, .int .i64 bRW, .slice bDp_a bDp_L.length bDp_cap, .int .i64 bPA, .int .i64 bPF, .slice bPC_a bPC_L.length bPC_cap, .slice bPP_a bPP_L.length bPP_cap, .slice bJn_a bJn_L.length bJn_cap, .int .i64 bXDay, .int .i64 bXGiven, .int .i64 bXEaten] 58 (0, 0))) ⟨w.heap.size, 9, none⟩ = some (.slice aPC_a aPC_L.length aPC_cap) := XP0.out.cell 9
      try clear cP0_10
      have cP0_10 : World.cell? ((w.alloc (.cells #[.int .i64 aLW, .int .i64 aLH, .slice aLC_a aLC_L.length aLC_cap, .int .i64 aXBase, .int .i64 aRM, .int .i64 aRW, .slice aDp_a aDp_L.length aDp_cap, .int .i64 aPA, .int .i64 aPF, .slice aPC_a aPC_L.length aPC_cap, .slice aPP_a aPP_L.length aPP_cap, .slice aJn_a aJn_L.length aJn_cap, .int .i64 aXDay, .int .i64 aXGiven, .int .i64 aXEaten] 58 (0, 0))).alloc (.cells #[.int .i64 bLW, .int .i64 bLH, .slice bLC_a bLC_L.length bLC_cap, .int .i64 bXBase, .int .i64 bRM, .int .i64 bRW, .slice bDp_a bDp_L.length bDp_cap, .int .i64 bPA, .int .i64 bPF, .slice bPC_a bPC_L.length bPC_cap, .slice bPP_a bPP_L.length bPP_cap, .slice bJn_a bJn_L.length bJn_cap, .int .i64 bXDay, .int .i64 bXGiven, .int .i64 bXEaten] 58 (0, 0))) ⟨w.heap.size, 10, none⟩ = some (.slice aPP_a aPP_L.length aPP_cap) := XP0.out.cell 10
      try clear cP0_11
      have cP0_11 : World.cell? ((w.alloc (.cells #[.int .i64 aLW, .int .i64 aLH, .slice aLC_a aLC_L.length aLC_cap, .int .i64 aXBase, .int .i64 aRM, .int .i64 aRW, .slice aDp_a aDp_L.length aDp_cap, .int .i64 aPA, .int .i64 aPF, .slice aPC_a aPC_L.length aPC_cap, .slice aPP_a aPP_L.length aPP_cap, .slice aJn_a aJn_L.length aJn_cap, .int .i64 aXDay, .int .i64 aXGiven, .int .i64 aXEaten] 58 (0, 0))).alloc (.cells #[.int .i64 bLW, .int .i64 bLH, .slice bLC_a bLC_L.length bLC_cap, .int .i64 bXBase, .int .i64 bRM, .int .i64 bRW, .slice bDp_a bDp_L.length bDp_cap, .int .i64 bPA, .int .i64 bPF, .slice bPC_a bPC_L.length bPC_cap, .slice bPP_a bPP_L.length bPP_cap, .slice bJn_a bJn_L.length bJn_cap, .int .i64 bXDay, .int .i64 bXGiven, .int .i64 bXEaten] 58 (0, 0))) ⟨w.heap.size, 11, none⟩ = some (.slice aJn_a aJn_L.length aJn_cap) := XP0.out.cell 11
      try clear cP0_12
      have cP0_12 : World.cell? ((w.alloc (.cells #[.int .i64 aLW, .int .i64 aLH, .slice aLC_a aLC_L.length aLC_cap, .int .i64 aXBase, .int .i64 aRM, .int .i64 aRW, .slice aDp_a aDp_L.length aDp_cap, .int .i64 aPA, .int .i64 aPF, .slice aPC_a aPC_L.length aPC_cap, .slice aPP_a aPP_L.length aPP_cap, .slice aJn_a aJn_L.length aJn_cap, .int .i64 aXDay, .int .i64 aXGiven, .int .i64 aXEaten] 58 (0, 0))).alloc (.cells #[.int .i64 bLW, .int .i64 bLH, .slice bLC_a bLC_L.length bLC_cap, .int .i64 bXBase, .int .i64 bRM, .int .i64 bRW, .slice bDp_a bDp_L.length bDp_cap, .int .i64 bPA, .int .i64 bPF, .slice bPC_a bPC_L.length bPC_cap, .slice bPP_a bPP_L.length bPP_cap, .slice bJn_a bJn_L.length bJn_cap, .int .i64 bXDay, .int .i64 bXGiven, .int .i64 bXEaten] 58 (0, 0))) ⟨w.heap.size, 12, none⟩ = some (.int .i64 aXDay) := XP0.out.cell 12
      try clear cP0_13
      have cP0_13 : World.cell? ((w.alloc (.cells #[.int .i64 aLW, .int .i64 aLH, .slice aLC_a aLC_L.length aLC_cap, .int .i64 aXBase, .int .i64 aRM, .int .i64 aRW, .slice aDp_a aDp_L.length aDp_cap, .int .i64 aPA, .int .i64 aPF, .slice aPC_a aPC_L.length aPC_cap, .slice aPP_a aPP_L.length aPP_cap, .slice aJn_a aJn_L.length aJn_cap, .int .i64 aXDay, .int .i64 aXGiven, .int .i64 aXEaten] 58 (0, 0))).alloc (.cells #[.int .i64 bLW, .int .i64 bLH, .slice bLC_a bLC_L.length bLC_cap, .int .i64 bXBase, .int .i64 bRM, .int .i64 bRW, .slice bDp_a bDp_L.length bDp_cap, .int .i64 bPA, .int .i64 bPF, .slice bPC_a bPC_L.length bPC_cap, .slice bPP_a bPP_L.length bPP_cap, .slice bJn_a bJn_L.length bJn_cap, .int .i64 bXDay, .int .i64 bXGiven, .int .i64 bXEaten] 58 (0, 0))) ⟨w.heap.size, 13, none⟩ = some (.int .i64 aXGiven) := XP0.out.cell 13
      try clear cP0_14
      have cP0_14 : World.cell? ((w.alloc (.cells #[.int .i64 aLW, .int .i64 aLH, .slice aLC_a aLC_L.length aLC_cap, .int .i64 aXBase, .int .i64 aRM, .int .i64 aRW, .slice aDp_a aDp_L.length aDp_cap, .int .i64 aPA, .int .i64 aPF, .slice aPC_a aPC_L.length aPC_cap, .slice aPP_a aPP_L.length aPP_cap, .slice aJn_a aJn_L.length aJn_cap, .int .i64 aXDay, .int .i64 aXGiven, .int .i64 aXEaten] 58 (0, 0))).alloc (.cells #[.int .i64 bLW, .int .i64 bLH, .slice bLC_a bLC_L.length bLC_cap, .int .i64 bXBase, .int .i64 bRM, .int .i64 bRW, .slice bDp_a bDp_L.length bDp_cap, .int .i64 bPA, .int .i64 bPF, .slice bPC_a bPC_L.length bPC_cap, .slice bPP_a bPP_L.length bPP_cap, .slice bJn_a bJn_L.length bJn_cap, .int .i64 bXDay, .int .i64 bXGiven, .int .i64 bXEaten] 58 (0, 0))) ⟨w.heap.size, 14, none⟩ = some (.int .i64 aXEaten) := XP0.out.cell 14
      try clear cP1_0
      have cP1_0 : World.cell? ((w.alloc (.cells #[.int .i64 aLW, .int .i64 aLH, .slice aLC_a aLC_L.length aLC_cap, .int .i64 aXBase, .int .i64 aRM, .int .i64 aRW, .slice aDp_a aDp_L.length aDp_cap, .int .i64 aPA, .int .i64 aPF, .slice aPC_a aPC_L.length aPC_cap, .slice aPP_a aPP_L.length aPP_cap, .slice aJn_a aJn_L.length aJn_cap, .int .i64 aXDay, .int .i64 aXGiven, .int .i64 aXEaten] 58 (0, 0))).alloc (.cells #[.int .i64 bLW, .int .i64 bLH, .slice bLC_a bLC_L.length bLC_cap, .int .i64 bXBase, .int .i64 bRM, .int .i64 bRW, .slice bDp_a bDp_L.length bDp_cap, .int .i64 bPA, .int .i64 bPF, .slice bPC_a bPC_L.length bPC_cap, .slice bPP_a bPP_L.length bPP_cap, .slice bJn_a bJn_L.length bJn_cap, .int .i64 bXDay, .int .i64 bXGiven, .int .i64 bXEaten] 58 (0, 0))) ⟨w.heap.size + 1, 0, none⟩ = some (.int .i64 bLW) := XP1.out.cell 0
      try clear cP1_1
      have cP1_1 : World.cell? ((w.alloc (.cells #[.int .i64 aLW, .int .i64 aLH, .slice aLC_a aLC_L.length aLC_cap, .int .i64 aXBase, .int .i64 aRM, .int .i64 aRW, .slice aDp_a aDp_L.length aDp_cap, .int .i64 aPA, .int .i64 aPF, .slice aPC_a aPC_L.length aPC_cap, .slice aPP_a aPP_L.length aPP_cap, .slice aJn_a aJn_L.length aJn_cap, .int .i64 aXDay, .int .i64 aXGiven, .int .i64 aXEaten] 58 (0, 0))).alloc (.cells #[.int .i64 bLW, .int .i64 bLH, .slice bLC_a bLC_L.length bLC_cap, .int .i64 bXBase, .int .i64 bRM, .int .i64 bRW, .slice bDp_a bDp_L.length bDp_cap, .int .i64 bPA, .int .i64 bPF, .slice bPC_a bPC_L.length bPC_cap, .slice bPP_a bPP_L.length bPP_cap, .slice bJn_a bJn_L.length bJn_cap, .int .i64 bXDay, .int .i64 bXGiven, .int .i64 bXEaten] 58 (0, 0))) ⟨w.heap.size + 1, 1, none⟩ = some (.int .i64 bLH) := XP1.out.cell 1
      try clear cP1_2
      have cP1_2 : World.cell? ((w.alloc (.cells #[.int .i64 aLW, .int .i64 aLH, .slice aLC_a aLC_L.length aLC_cap, .int .i64 aXBase, .int .i64 aRM, .int .i64 aRW, .slice aDp_a aDp_L.length aDp_cap, .int .i64 aPA, .int .i64 aPF, .slice aPC_a aPC_L.length aPC_cap, .slice aPP_a aPP_L.length aPP_cap, .slice aJn_a aJn_L.length aJn_cap, .int .i64 aXDay, .int .i64 aXGiven, .int .i64 aXEaten] 58 (0, 0))).alloc (.cells #[.int .i64 bLW, .int .i64 bLH, .slice bLC_a bLC_L.length bLC_cap, .int .i64 bXBase, .int .i64 bRM, .int .i64 bRW, .slice bDp_a bDp_L.length bDp_cap, .int .i64 bPA, .int .i64 bPF, .slice bPC_a bPC_L.length bPC_cap, .slice bPP_a bPP_L.length bPP_cap, .slice bJn_a bJn_L.length bJn_cap, .int .i64 bXDay, .int .i64 bXGiven, .int .i64 bXEaten] 58 (0, 0))) ⟨w.heap.size + 1, 2, none⟩ = some (.slice bLC_a bLC_L.length bLC_cap) := XP1.out.cell 2
      try clear cP1_3
      have cP1_3 : World.cell? ((w.alloc (.cells #[.int .i64 aLW, .int .i64 aLH, .slice aLC_a aLC_L.length aLC_cap, .int .i64 aXBase, .int .i64 aRM, .int .i64 aRW, .slice aDp_a aDp_L.length aDp_cap, .int .i64 aPA, .int .i64 aPF, .slice aPC_a aPC_L.length aPC_cap, .slice aPP_a aPP_L.length aPP_cap, .slice aJn_a aJn_L.length aJn_cap, .int .i64 aXDay, .int .i64 aXGiven, .int .i64 aXEaten] 58 (0, 0))).alloc (.cells #[.int .i64 bLW, .int .i64 bLH, .slice bLC_a bLC_L.length bLC_cap, .int .i64 bXBase, .int .i64 bRM, .int .i64 bRW, .slice bDp_a bDp_L.length bDp_cap, .int .i64 bPA, .int .i64 bPF, .slice bPC_a bPC_L.length bPC_cap, .slice bPP_a bPP_L.length bPP_cap, .slice bJn_a bJn_L.length bJn_cap, .int .i64 bXDay, .int .i64 bXGiven, .int .i64 bXEaten] 58 (0, 0))) ⟨w.heap.size + 1, 3, none⟩ = some (.int .i64 bXBase) := XP1.out.cell 3
      try clear cP1_4
      have cP1_4 : World.cell? ((w.alloc (.cells #[.int .i64 aLW, .int .i64 aLH, .slice aLC_a aLC_L.length aLC_cap, .int .i64 aXBase, .int .i64 aRM, .int .i64 aRW, .slice aDp_a aDp_L.length aDp_cap, .int .i64 aPA, .int .i64 aPF, .slice aPC_a aPC_L.length aPC_cap, .slice aPP_a aPP_L.length aPP_cap, .slice aJn_a aJn_L.length aJn_cap, .int .i64 aXDay, .int .i64 aXGiven, .int .i64 aXEaten] 58 (0, 0))).alloc (.cells #[.int .i64 bLW, .int .i64 bLH, .slice bLC_a bLC_L.length bLC_cap, .int .i64 bXBase, .int .i64 bRM, .int .i64 bRW, .slice bDp_a bDp_L.length bDp_cap, .int .i64 bPA, .int .i64 bPF, .slice bPC_a bPC_L.length bPC_cap, .slice bPP_a bPP_L.length bPP_cap, .slice bJn_a bJn_L.length bJn_cap, .int .i64 bXDay, .int .i64 bXGiven, .int .i64 bXEaten] 58 (0, 0))) ⟨w.heap.size + 1, 4, none⟩ = some (.int .i64 bRM) := XP1.out.cell 4
      try clear cP1_5
      have cP1_5 : World.cell? ((w.alloc (.cells #[.int .i64 aLW, .int .i64 aLH, .slice aLC_a aLC_L.length aLC_cap, .int .i64 aXBase, .int .i64 aRM, .int .i64 aRW, .slice aDp_a aDp_L.length aDp_cap, .int .i64 aPA, .int .i64 aPF, .slice aPC_a aPC_L.length aPC_cap, .slice aPP_a aPP_L.length aPP_cap, .slice aJn_a aJn_L.length aJn_cap, .int .i64 aXDay, .int .i64 aXGiven, .int .i64 aXEaten] 58 (0, 0))).alloc (.cells #[.int .i64 bLW, .int .i64 bLH, .slice bLC_a bLC_L.length bLC_cap, .int .i64 bXBase, .int .i64 bRM, .int .i64 bRW, .slice bDp_a bDp_L.length bDp_cap, .int .i64 bPA, .int .i64 bPF, .slice bPC_a bPC_L.length bPC_cap, .slice bPP_a bPP_L.length bPP_cap, .slice bJn_a bJn_L.length bJn_cap, .int .i64 bXDay, .int .i64 bXGiven, .int .i64 bXEaten] 58 (0, 0))) ⟨w.heap.size + 1, 5, none⟩ = some (.int .i64 bRW) := XP1.out.cell 5
      try clear cP1_6
      have cP1_6 : World.cell? ((w.alloc (.cells #[.int .i64 aLW, .int .i64 aLH, .slice aLC_a aLC_L.length aLC_cap, .int .i64 aXBase, .int .i64 aRM, .int .i64 aRW, .slice aDp_a aDp_L.length aDp_cap, .int .i64 aPA, .int .i64 aPF, .slice aPC_a aPC_L.length aPC_cap, .slice aPP_a aPP_L.length aPP_cap, .slice aJn_a aJn_L.length aJn_cap, .int .i64 aXDay, .int .i64 aXGiven, .int .i64 aXEaten] 58 (0, 0))).alloc (.cells #[.int .i64 bLW, .int .i64 bLH, .slice bLC_a bLC_L.length bLC_cap, .int .i64 bXBase, .int .i64 bRM, .int .i64 bRW, .slice bDp_a bDp_L.length bDp_cap, .int .i64 bPA, .int .i64 bPF, .slice bPC_a bPC_L.length bPC_cap, .slice bPP_a bPP_L.length bPP_cap, .slice bJn_a bJn_L.length bJn_cap, .int .i64 bXDay, .int .i64 bXGiven, .int .i64 bXEaten] 58 (0, 0))) ⟨w.heap.size + 1, 6, none⟩ = some (.slice bDp_a bDp_L.length bDp_cap) := XP1.out.cell 6
      try clear cP1_7
      have cP1_7 : World.cell? ((w.alloc (.cells #[.int .i64 aLW, .int .i64 aLH, .slice aLC_a aLC_L.length aLC_cap, .int .i64 aXBase, .int .i64 aRM, .int .i64 aRW, .slice aDp_a aDp_L.length aDp_cap, .int .i64 aPA, .int .i64 aPF, .slice aPC_a aPC_L.length aPC_cap, .slice aPP_a aPP_L.length aPP_cap, .slice aJn_a aJn_L.length aJn_cap, .int .i64 aXDay, .int .i64 aXGiven, .int .i64 aXEaten] 58 (0, 0))).alloc (.cells #[.int .i64 bLW, .int .i64 bLH, .slice bLC_a bLC_L.length bLC_cap, .int .i64 bXBase, .int .i64 bRM, .int .i64 bRW, .slice bDp_a bDp_L.length bDp_cap, .int .i64 bPA, .int .i64 bPF, .slice bPC_a bPC_L.length bPC_cap, .slice bPP_a bPP_L.length bPP_cap, .slice bJn_a bJn_L.length bJn_cap, .int .i64 bXDay, .int .i64 bXGiven, .int .i64 bXEaten] 58 (0, 0))) ⟨w.heap.size + 1, 7, none⟩ = some (.int .i64 bPA) := XP1.out.cell 7
      try clear cP1_8
      have cP1_8 : World.cell? ((w.alloc (.cells #[.int .i64 aLW, .int .i64 aLH, .slice aLC_a aLC_L.length aLC_cap, .int .i64 aXBase, .int .i64 aRM, .int .i64 aRW, .slice aDp_a aDp_L.length aDp_cap, .int .i64 aPA, .int .i64 aPF, .slice aPC_a aPC_L.length aPC_cap, .slice aPP_a aPP_L.length aPP_cap, .slice aJn_a aJn_L.length aJn_cap, .int .i64 aXDay, .int .i64 aXGiven, .int .i64 aXEaten] 58 (0, 0))).alloc (.cells #[.int .i64 bLW, .int .i64 bLH, .slice bLC_a bLC_L.length bLC_cap, .int .i64 bXBase, .int .i64 bRM, .int .i64 bRW, .slice bDp_a bDp_L.length bDp_cap, .int .i64 bPA, .int .i64 bPF, .slice bPC_a bPC_L.length bPC_cap, .slice bPP_a bPP_L.length bPP_cap, .slice bJn_a bJn_L.length bJn_cap, .int .i64 bXDay, .int .i64 bXGiven, .int .i64 bXEaten] 58 (0, 0))) ⟨w.heap.size + 1, 8, none⟩ = some (.int .i64 bPF) := XP1.out.cell 8
      try clear cP1_9
      have cP1_9 : World.cell? ((w.alloc (.cells #[.int .i64 aLW, .int .i64 aLH, .slice aLC_a aLC_L.length aLC_cap, .int .i64 aXBase, .int .i64 aRM, .int .i64 aRW, .slice aDp_a aDp_L.length aDp_cap, .int .i64 aPA, .int .i64 aPF, .slice aPC_a aPC_L.length aPC_cap, .slice aPP_a aPP_L.length aPP_cap, .slice aJn_a aJn_L.length aJn_cap, .int .i64 aXDay, .int .i64 aXGiven, .int .i64 aXEaten] 58 (0, 0))).alloc (.cells #[.int .i64 bLW, .int .i64 bLH, .slice bLC_a bLC_L.length bLC_cap, .int .i64 bXBase, .int .i64 bRM, .int .i64 bRW, .slice bDp_a bDp_L.length bDp_cap, .int .i64 bPA, .int .i64 bPF, .slice bPC_a bPC_L.length bPC_cap, .slice bPP_a bPP_L.length bPP_cap, .slice bJn_a bJn_L.length bJn_cap, .int .i64 bXDay, .int .i64 bXGiven, .int .i64 bXEaten] 58 (0, 0))) ⟨w.heap.size + 1, 9, none⟩ = some (.slice bPC_a bPC_L.length bPC_cap) := XP1.out.cell 9
      try clear cP1_10
      have cP1_10 : World.cell? ((w.alloc (.cells #[.int .i64 aLW, .int .i64 aLH, .slice aLC_a aLC_L.length aLC_cap, .int .i64 aXBase, .int .i64 aRM, .int .i64 aRW, .slice aDp_a aDp_L.length aDp_cap, .int .i64 aPA, .int .i64 aPF, .slice aPC_a aPC_L.length aPC_cap, .slice aPP_a aPP_L.length aPP_cap, .slice aJn_a aJn_L.length aJn_cap, .int .i64 aXDay, .int .i64 aXGiven, .int .i64 aXEaten] 58 (0, 0))).alloc (.cells #[.int .i64 bLW, .int .i64 bLH, .slice bLC_a bLC_L.length bLC_cap, .int .i64 bXBase, .int .i64 bRM, .int .i64 bRW, .slice bDp_a bDp_L.length bDp_cap, .int .i64 bPA, .int .i64 bPF, .slice bPC_a bPC_L.length bPC_cap, .slice bPP_a bPP_L.length bPP_cap, .slice bJn_a bJn_L.length bJn_cap, .int .i64 bXDay, .int .i64 bXGiven, .int .i64 bXEaten] 58 (0, 0))) ⟨w.heap.size + 1, 10, none⟩ = some (.slice bPP_a bPP_L.length bPP_cap) := XP1.out.cell 10
      try clear cP1_11
      have cP1_11 : World.cell? ((w.alloc (.cells #[.int .i64 aLW, .int .i64 aLH, .slice aLC_a aLC_L.length aLC_cap, .int .i64 aXBase, .int .i64 aRM, .int .i64 aRW, .slice aDp_a aDp_L.length aDp_cap, .int .i64 aPA, .int .i64 aPF, .slice aPC_a aPC_L.length aPC_cap, .slice aPP_a aPP_L.length aPP_cap, .slice aJn_a aJn_L.length aJn_cap, .int .i64 aXDay, .int .i64 aXGiven, .int .i64 aXEaten] 58 (0, 0))).alloc (.cells #[.int .i64 bLW, .int .i64 bLH, .slice bLC_a bLC_L.length bLC_cap, .int .i64 bXBase, .int .i64 bRM, .int .i64 bRW, .slice bDp_a bDp_L.length bDp_cap, .int .i64 bPA, .int .i64 bPF, .slice bPC_a bPC_L.length bPC_cap, .slice bPP_a bPP_L.length bPP_cap, .slice bJn_a bJn_L.length bJn_cap, .int .i64 bXDay, .int .i64 bXGiven, .int .i64 bXEaten] 58 (0, 0))) ⟨w.heap.size + 1, 11, none⟩ = some (.slice bJn_a bJn_L.length bJn_cap) := XP1.out.cell 11
      try clear cP1_12
      have cP1_12 : World.cell? ((w.alloc (.cells #[.int .i64 aLW, .int .i64 aLH, .slice aLC_a aLC_L.length aLC_cap, .int .i64 aXBase, .int .i64 aRM, .int .i64 aRW, .slice aDp_a aDp_L.length aDp_cap, .int .i64 aPA, .int .i64 aPF, .slice aPC_a aPC_L.length aPC_cap, .slice aPP_a aPP_L.length aPP_cap, .slice aJn_a aJn_L.length aJn_cap, .int .i64 aXDay, .int .i64 aXGiven, .int .i64 aXEaten] 58 (0, 0))).alloc (.cells #[.int .i64 bLW, .int .i64 bLH, .slice bLC_a bLC_L.length bLC_cap, .int .i64 bXBase, .int .i64 bRM, .int .i64 bRW, .slice bDp_a bDp_L.length bDp_cap, .int .i64 bPA, .int .i64 bPF, .slice bPC_a bPC_L.length bPC_cap, .slice bPP_a bPP_L.length bPP_cap, .slice bJn_a bJn_L.length bJn_cap, .int .i64 bXDay, .int .i64 bXGiven, .int .i64 bXEaten] 58 (0, 0))) ⟨w.heap.size + 1, 12, none⟩ = some (.int .i64 bXDay) := XP1.out.cell 12
      try clear cP1_13
      have cP1_13 : World.cell? ((w.alloc (.cells #[.int .i64 aLW, .int .i64 aLH, .slice aLC_a aLC_L.length aLC_cap, .int .i64 aXBase, .int .i64 aRM, .int .i64 aRW, .slice aDp_a aDp_L.length aDp_cap, .int .i64 aPA, .int .i64 aPF, .slice aPC_a aPC_L.length aPC_cap, .slice aPP_a aPP_L.length aPP_cap, .slice aJn_a aJn_L.length aJn_cap, .int .i64 aXDay, .int .i64 aXGiven, .int .i64 aXEaten] 58 (0, 0))).alloc (.cells #[.int .i64 bLW, .int .i64 bLH, .slice bLC_a bLC_L.length bLC_cap, .int .i64 bXBase, .int .i64 bRM, .int .i64 bRW, .slice bDp_a bDp_L.length bDp_cap, .int .i64 bPA, .int .i64 bPF, .slice bPC_a bPC_L.length bPC_cap, .slice bPP_a bPP_L.length bPP_cap, .slice bJn_a bJn_L.length bJn_cap, .int .i64 bXDay, .int .i64 bXGiven, .int .i64 bXEaten] 58 (0, 0))) ⟨w.heap.size + 1, 13, none⟩ = some (.int .i64 bXGiven) := XP1.out.cell 13
      try clear cP1_14
      have cP1_14 : World.cell? ((w.alloc (.cells #[.int .i64 aLW, .int .i64 aLH, .slice aLC_a aLC_L.length aLC_cap, .int .i64 aXBase, .int .i64 aRM, .int .i64 aRW, .slice aDp_a aDp_L.length aDp_cap, .int .i64 aPA, .int .i64 aPF, .slice aPC_a aPC_L.length aPC_cap, .slice aPP_a aPP_L.length aPP_cap, .slice aJn_a aJn_L.length aJn_cap, .int .i64 aXDay, .int .i64 aXGiven, .int .i64 aXEaten] 58 (0, 0))).alloc (.cells #[.int .i64 bLW, .int .i64 bLH, .slice bLC_a bLC_L.length bLC_cap, .int .i64 bXBase, .int .i64 bRM, .int .i64 bRW, .slice bDp_a bDp_L.length bDp_cap, .int .i64 bPA, .int .i64 bPF, .slice bPC_a bPC_L.length bPC_cap, .slice bPP_a bPP_L.length bPP_cap, .slice bJn_a bJn_L.length bJn_cap, .int .i64 bXDay, .int .i64 bXGiven, .int .i64 bXEaten] 58 (0, 0))) ⟨w.heap.size + 1, 14, none⟩ = some (.int .i64 bXEaten) := XP1.out.cell 14
      go_wp2_with fail
      generalize (w.alloc (.cells #[.int .i64 aLW, .int .i64 aLH, .slice aLC_a aLC_L.length aLC_cap, .int .i64 aXBase, .int .i64 aRM, .int .i64 aRW, .slice aDp_a aDp_L.length aDp_cap, .int .i64 aPA, .int .i64 aPF, .slice aPC_a aPC_L.length aPC_cap, .slice aPP_a aPP_L.length aPP_cap, .slice aJn_a aJn_L.length aJn_cap, .int .i64 aXDay, .int .i64 aXGiven, .int .i64 aXEaten] 58 (0, 0))).alloc (.cells #[.int .i64 bLW, .int .i64 bLH, .slice bLC_a bLC_L.length bLC_cap, .int .i64 bXBase, .int .i64 bRM, .int .i64 bRW, .slice bDp_a bDp_L.length bDp_cap, .int .i64 bPA, .int .i64 bPF, .slice bPC_a bPC_L.length bPC_cap, .slice bPP_a bPP_L.length bPP_cap, .slice bJn_a bJn_L.length bJn_cap, .int .i64 bXDay, .int .i64 bXGiven, .int .i64 bXEaten] 58 (0, 0)) = w1 at *
      refine (TrekL.szTrek_no w1 aLW aLH aXBase aRM aRW aPA aPF aXDay aXGiven aXEaten _ _ _ _ _ _ _ _ _ _ (1048576 : Int) (aLC_S.out.below HB2.out) (aDp_S.out.below HB2.out) (aPC_S.out.below HB2.out) (aPP_S.out.below HB2.out) (aJn_S.out.below HB2.out) (by omega) (by omega) (by omega)).mono ?_
      rintro e w2 ⟨rfl, hg⟩
      have HB3 := Lib.hid (HB2.out.grown hg HB2.out.size (fun _ h => by cases h)); clear HB2
      have XP0 := Lib.hid (XP0.out.grown hg)
      have XP1 := Lib.hid (XP1.out.grown hg)
      clear hg
      try clear cP0_0
      have cP0_0 : World.cell? (w2) ⟨w.heap.size, 0, none⟩ = some (.int .i64 aLW) := XP0.out.cell 0
      try clear cP0_1
      have cP0_1 : World.cell? (w2) ⟨w.heap.size, 1, none⟩ = some (.int .i64 aLH) := XP0.out.cell 1
      try clear cP0_2
      have cP0_2 : World.cell? (w2) ⟨w.heap.size, 2, none⟩ = some (.slice aLC_a aLC_L.length aLC_cap) := XP0.out.cell 2
      try clear cP0_3
      have cP0_3 : World.cell? (w2) ⟨w.heap.size, 3, none⟩ = some (.int .i64 aXBase) := XP0.out.cell 3
      try clear cP0_4
      have cP0_4 : World.cell? (w2) ⟨w.heap.size, 4, none⟩ = some (.int .i64 aRM) := XP0.out.cell 4
      try clear cP0_5
      have cP0_5 : World.cell? (w2) ⟨w.heap.size, 5, none⟩ = some (.int .i64 aRW) := XP0.out.cell 5
      try clear cP0_6
      have cP0_6 : World.cell? (w2) ⟨w.heap.size, 6, none⟩ = some (.slice aDp_a aDp_L.length aDp_cap) := XP0.out.cell 6
      try clear cP0_7
      have cP0_7 : World.cell? (w2) ⟨w.heap.size, 7, none⟩ = some (.int .i64 aPA) := XP0.out.cell 7
      try clear cP0_8
      have cP0_8 : World.cell? (w2) ⟨w.heap.size, 8, none⟩ = some (.int .i64 aPF) := XP0.out.cell 8
      try clear cP0_9
      have cP0_9 : World.cell? (w2) ⟨w.heap.size, 9, none⟩ = some (.slice aPC_a aPC_L.length aPC_cap) := XP0.out.cell 9
      try clear cP0_10
      have cP0_10 : World.cell? (w2) ⟨w.heap.size, 10, none⟩ = some (.slice aPP_a aPP_L.length aPP_cap) := XP0.out.cell 10
      try clear cP0_11
      have cP0_11 : World.cell? (w2) ⟨w.heap.size, 11, none⟩ = some (.slice aJn_a aJn_L.length aJn_cap) := XP0.out.cell 11
      try clear cP0_12
      have cP0_12 : World.cell? (w2) ⟨w.heap.size, 12, none⟩ = some (.int .i64 aXDay) := XP0.out.cell 12
      try clear cP0_13
      have cP0_13 : World.cell? (w2) ⟨w.heap.size, 13, none⟩ = some (.int .i64 aXGiven) := XP0.out.cell 13
      try clear cP0_14
      have cP0_14 : World.cell? (w2) ⟨w.heap.size, 14, none⟩ = some (.int .i64 aXEaten) := XP0.out.cell 14
      try clear cP1_0
      have cP1_0 : World.cell? (w2) ⟨w.heap.size + 1, 0, none⟩ = some (.int .i64 bLW) := XP1.out.cell 0
      try clear cP1_1
      have cP1_1 : World.cell? (w2) ⟨w.heap.size + 1, 1, none⟩ = some (.int .i64 bLH) := XP1.out.cell 1
      try clear cP1_2
      have cP1_2 : World.cell? (w2) ⟨w.heap.size + 1, 2, none⟩ = some (.slice bLC_a bLC_L.length bLC_cap) := XP1.out.cell 2
      try clear cP1_3
      have cP1_3 : World.cell? (w2) ⟨w.heap.size + 1, 3, none⟩ = some (.int .i64 bXBase) := XP1.out.cell 3
      try clear cP1_4
      have cP1_4 : World.cell? (w2) ⟨w.heap.size + 1, 4, none⟩ = some (.int .i64 bRM) := XP1.out.cell 4
      try clear cP1_5
      have cP1_5 : World.cell? (w2) ⟨w.heap.size + 1, 5, none⟩ = some (.int .i64 bRW) := XP1.out.cell 5
      try clear cP1_6
      have cP1_6 : World.cell? (w2) ⟨w.heap.size + 1, 6, none⟩ = some (.slice bDp_a bDp_L.length bDp_cap) := XP1.out.cell 6
      try clear cP1_7
      have cP1_7 : World.cell? (w2) ⟨w.heap.size + 1, 7, none⟩ = some (.int .i64 bPA) := XP1.out.cell 7
      try clear cP1_8
      have cP1_8 : World.cell? (w2) ⟨w.heap.size + 1, 8, none⟩ = some (.int .i64 bPF) := XP1.out.cell 8
      try clear cP1_9
      have cP1_9 : World.cell? (w2) ⟨w.heap.size + 1, 9, none⟩ = some (.slice bPC_a bPC_L.length bPC_cap) := XP1.out.cell 9
      try clear cP1_10
      have cP1_10 : World.cell? (w2) ⟨w.heap.size + 1, 10, none⟩ = some (.slice bPP_a bPP_L.length bPP_cap) := XP1.out.cell 10
      try clear cP1_11
      have cP1_11 : World.cell? (w2) ⟨w.heap.size + 1, 11, none⟩ = some (.slice bJn_a bJn_L.length bJn_cap) := XP1.out.cell 11
      try clear cP1_12
      have cP1_12 : World.cell? (w2) ⟨w.heap.size + 1, 12, none⟩ = some (.int .i64 bXDay) := XP1.out.cell 12
      try clear cP1_13
      have cP1_13 : World.cell? (w2) ⟨w.heap.size + 1, 13, none⟩ = some (.int .i64 bXGiven) := XP1.out.cell 13
      try clear cP1_14
      have cP1_14 : World.cell? (w2) ⟨w.heap.size + 1, 14, none⟩ = some (.int .i64 bXEaten) := XP1.out.cell 14
      go_wp2
      go_ret
      exact ⟨rfl, HB3.out⟩
  by_cases bXl : (bLC_L.length : Int) + (bDp_L.length : Int) + (bPC_L.length : Int) + (bPP_L.length : Int) + (bJn_L.length : Int) ≤ ((1048576 : Int) - ((aLC_L.length : Int) + (aDp_L.length : Int) + (aPC_L.length : Int) + (aPP_L.length : Int) + (aJn_L.length : Int)))
  rotate_left
  ·
    as_aux_lemma =>
      have HB0 : Hid (Below w.heap.size w w) := Below.refl _ _
      have hgb := World.grownBy_alloc w (.cells #[.int .i64 aLW, .int .i64 aLH, .slice aLC_a aLC_L.length aLC_cap, .int .i64 aXBase, .int .i64 aRM, .int .i64 aRW, .slice aDp_a aDp_L.length aDp_cap, .int .i64 aPA, .int .i64 aPF, .slice aPC_a aPC_L.length aPC_cap, .slice aPP_a aPP_L.length aPP_cap, .slice aJn_a aJn_L.length aJn_cap, .int .i64 aXDay, .int .i64 aXGiven, .int .i64 aXEaten] 58 (0, 0)) none
      have HB1 := Lib.hid (HB0.out.grown hgb HB0.out.size (fun _ h => by cases h)); clear HB0
      have XP0 := Lib.hid (box_new w #[.int .i64 aLW, .int .i64 aLH, .slice aLC_a aLC_L.length aLC_cap, .int .i64 aXBase, .int .i64 aRM, .int .i64 aRW, .slice aDp_a aDp_L.length aDp_cap, .int .i64 aPA, .int .i64 aPF, .slice aPC_a aPC_L.length aPC_cap, .slice aPP_a aPP_L.length aPP_cap, .slice aJn_a aJn_L.length aJn_cap, .int .i64 aXDay, .int .i64 aXGiven, .int .i64 aXEaten] 58); clear hgb
      have hgb := World.grownBy_alloc (w.alloc (.cells #[.int .i64 aLW, .int .i64 aLH, .slice aLC_a aLC_L.length aLC_cap, .int .i64 aXBase, .int .i64 aRM, .int .i64 aRW, .slice aDp_a aDp_L.length aDp_cap, .int .i64 aPA, .int .i64 aPF, .slice aPC_a aPC_L.length aPC_cap, .slice aPP_a aPP_L.length aPP_cap, .slice aJn_a aJn_L.length aJn_cap, .int .i64 aXDay, .int .i64 aXGiven, .int .i64 aXEaten] 58 (0, 0))) (.cells #[.int .i64 bLW, .int .i64 bLH, .slice bLC_a bLC_L.length bLC_cap, .int .i64 bXBase, .int .i64 bRM, .int .i64 bRW, .slice bDp_a bDp_L.length bDp_cap, .int .i64 bPA, .int .i64 bPF, .slice bPC_a bPC_L.length bPC_cap, .slice bPP_a bPP_L.length bPP_cap, .slice bJn_a bJn_L.length bJn_cap, .int .i64 bXDay, .int .i64 bXGiven, .int .i64 bXEaten] 58 (0, 0)) none
      have HB2 := Lib.hid (HB1.out.grown hgb HB1.out.size (fun _ h => by cases h)); clear HB1
      have XP0 := Lib.hid (XP0.out.grown hgb)
      have XP1 := Lib.hid (box_new (w.alloc (.cells #[.int .i64 aLW, .int .i64 aLH, .slice aLC_a aLC_L.length aLC_cap, .int .i64 aXBase, .int .i64 aRM, .int .i64 aRW, .slice aDp_a aDp_L.length aDp_cap, .int .i64 aPA, .int .i64 aPF, .slice aPC_a aPC_L.length aPC_cap, .slice aPP_a aPP_L.length aPP_cap, .slice aJn_a aJn_L.length aJn_cap, .int .i64 aXDay, .int .i64 aXGiven, .int .i64 aXEaten] 58 (0, 0))) #[.int .i64 bLW, .int .i64 bLH, .slice bLC_a bLC_L.length bLC_cap, .int .i64 bXBase, .int .i64 bRM, .int .i64 bRW, .slice bDp_a bDp_L.length bDp_cap, .int .i64 bPA, .int .i64 bPF, .slice bPC_a bPC_L.length bPC_cap, .slice bPP_a bPP_L.length bPP_cap, .slice bJn_a bJn_L.length bJn_cap, .int .i64 bXDay, .int .i64 bXGiven, .int .i64 bXEaten] 58); clear hgb
      simp only [World.size_alloc] at XP1
      go_enter Try.func11, Try.ntmps11
      try clear cP0_0
      have cP0_0 : World.cell? ((w.alloc (.cells #[.int .i64 aLW, .int .i64 aLH, .slice aLC_a aLC_L.length aLC_cap, .int .i64 aXBase, .int .i64 aRM, .int .i64 aRW, .slice aDp_a aDp_L.length aDp_cap, .int .i64 aPA, .int .i64 aPF, .slice aPC_a aPC_L.length aPC_cap, .slice aPP_a aPP_L.length aPP_cap, .slice aJn_a aJn_L.length aJn_cap, .int .i64 aXDay, .int .i64 aXGiven, .int .i64 aXEaten] 58 (0, 0))).alloc (.cells #[.int .i64 bLW, .int .i64 bLH, .slice bLC_a bLC_L.length bLC_cap, .int .i64 bXBase, .int .i64 bRM, .int .i64 bRW, .slice bDp_a bDp_L.length bDp_cap, .int .i64 bPA, .int .i64 bPF, .slice bPC_a bPC_L.length bPC_cap, .slice bPP_a bPP_L.length bPP_cap, .slice bJn_a bJn_L.length bJn_cap, .int .i64 bXDay, .int .i64 bXGiven, .int .i64 bXEaten] 58 (0, 0))) ⟨w.heap.size, 0, none⟩ = some (.int .i64 aLW) := XP0.out.cell 0
      try clear cP0_1
      have cP0_1 : World.cell? ((w.alloc (.cells #[.int .i64 aLW, .int .i64 aLH, .slice aLC_a aLC_L.length aLC_cap, .int .i64 aXBase, .int .i64 aRM, .int .i64 aRW, .slice aDp_a aDp_L.length aDp_cap, .int .i64 aPA, .int .i64 aPF, .slice aPC_a aPC_L.length aPC_cap, .slice aPP_a aPP_L.length aPP_cap, .slice aJn_a aJn_L.length aJn_cap, .int .i64 aXDay, .int .i64 aXGiven, .int .i64 aXEaten] 58 (0, 0))).alloc (.cells #[.int .i64 bLW, .int .i64 bLH, .slice bLC_a bLC_L.length bLC_cap, .int .i64 bXBase, .int .i64 bRM, .int .i64 bRW, .slice bDp_a bDp_L.length bDp_cap, .int .i64 bPA, .int .i64 bPF, .slice bPC_a bPC_L.length bPC_cap, .slice bPP_a bPP_L.length bPP_cap, .slice bJn_a bJn_L.length bJn_cap, .int .i64 bXDay, .int .i64 bXGiven, .int .i64 bXEaten] 58 (0, 0))) ⟨w.heap.size, 1, none⟩ = some (.int .i64 aLH) := XP0.out.cell 1
      try clear cP0_2
      have cP0_2 : World.cell? ((w.alloc (.cells #[.int .i64 aLW, .int .i64 aLH, .slice aLC_a aLC_L.length aLC_cap, .int .i64 aXBase, .int .i64 aRM, .int .i64 aRW, .slice aDp_a aDp_L.length aDp_cap, .int .i64 aPA, .int .i64 aPF, .slice aPC_a aPC_L.length aPC_cap, .slice aPP_a aPP_L.length aPP_cap, .slice aJn_a aJn_L.length aJn_cap, .int .i64 aXDay, .int .i64 aXGiven, .int .i64 aXEaten] 58 (0, 0))).alloc (.cells #[.int .i64 bLW, .int .i64 bLH, .slice bLC_a bLC_L.length bLC_cap, .int .i64 bXBase, .int .i64 bRM, .int .i64 bRW, .slice bDp_a bDp_L.length bDp_cap, .int .i64 bPA, .int .i64 bPF, .slice bPC_a bPC_L.length bPC_cap, .slice bPP_a bPP_L.length bPP_cap, .slice bJn_a bJn_L.length bJn_cap, .int .i64 bXDay, .int .i64 bXGiven, .int .i64 bXEaten] 58 (0, 0))) ⟨w.heap.size, 2, none⟩ = some (.slice aLC_a aLC_L.length aLC_cap) := XP0.out.cell 2
      try clear cP0_3
      have cP0_3 : World.cell? ((w.alloc (.cells #[.int .i64 aLW, .int .i64 aLH, .slice aLC_a aLC_L.length aLC_cap, .int .i64 aXBase, .int .i64 aRM, .int .i64 aRW, .slice aDp_a aDp_L.length aDp_cap, .int .i64 aPA, .int .i64 aPF, .slice aPC_a aPC_L.length aPC_cap, .slice aPP_a aPP_L.length aPP_cap, .slice aJn_a aJn_L.length aJn_cap, .int .i64 aXDay, .int .i64 aXGiven, .int .i64 aXEaten] 58 (0, 0))).alloc (.cells #[.int .i64 bLW, .int .i64 bLH, .slice bLC_a bLC_L.length bLC_cap, .int .i64 bXBase, .int .i64 bRM, .int .i64 bRW, .slice bDp_a bDp_L.length bDp_cap, .int .i64 bPA, .int .i64 bPF, .slice bPC_a bPC_L.length bPC_cap, .slice bPP_a bPP_L.length bPP_cap, .slice bJn_a bJn_L.length bJn_cap, .int .i64 bXDay, .int .i64 bXGiven, .int .i64 bXEaten] 58 (0, 0))) ⟨w.heap.size, 3, none⟩ = some (.int .i64 aXBase) := XP0.out.cell 3
      try clear cP0_4
      have cP0_4 : World.cell? ((w.alloc (.cells #[.int .i64 aLW, .int .i64 aLH, .slice aLC_a aLC_L.length aLC_cap, .int .i64 aXBase, .int .i64 aRM, .int .i64 aRW, .slice aDp_a aDp_L.length aDp_cap, .int .i64 aPA, .int .i64 aPF, .slice aPC_a aPC_L.length aPC_cap, .slice aPP_a aPP_L.length aPP_cap, .slice aJn_a aJn_L.length aJn_cap, .int .i64 aXDay, .int .i64 aXGiven, .int .i64 aXEaten] 58 (0, 0))).alloc (.cells #[.int .i64 bLW, .int .i64 bLH, .slice bLC_a bLC_L.length bLC_cap, .int .i64 bXBase, .int .i64 bRM, .int .i64 bRW, .slice bDp_a bDp_L.length bDp_cap, .int .i64 bPA, .int .i64 bPF, .slice bPC_a bPC_L.length bPC_cap, .slice bPP_a bPP_L.length bPP_cap, .slice bJn_a bJn_L.length bJn_cap, .int .i64 bXDay, .int .i64 bXGiven, .int .i64 bXEaten] 58 (0, 0))) ⟨w.heap.size, 4, none⟩ = some (.int .i64 aRM) := XP0.out.cell 4
      try clear cP0_5
      have cP0_5 : World.cell? ((w.alloc (.cells #[.int .i64 aLW, .int .i64 aLH, .slice aLC_a aLC_L.length aLC_cap, .int .i64 aXBase, .int .i64 aRM, .int .i64 aRW, .slice aDp_a aDp_L.length aDp_cap, .int .i64 aPA, .int .i64 aPF, .slice aPC_a aPC_L.length aPC_cap, .slice aPP_a aPP_L.length aPP_cap, .slice aJn_a aJn_L.length aJn_cap, .int .i64 aXDay, .int .i64 aXGiven, .int .i64 aXEaten] 58 (0, 0))).alloc (.cells #[.int .i64 bLW, .int .i64 bLH, .slice bLC_a bLC_L.length bLC_cap, .int .i64 bXBase, .int .i64 bRM, .int .i64 bRW, .slice bDp_a bDp_L.length bDp_cap, .int .i64 bPA, .int .i64 bPF, .slice bPC_a bPC_L.length bPC_cap, .slice bPP_a bPP_L.length bPP_cap, .slice bJn_a bJn_L.length bJn_cap, .int .i64 bXDay, .int .i64 bXGiven, .int .i64 bXEaten] 58 (0, 0))) ⟨w.heap.size, 5, none⟩ = some (.int .i64 aRW) := XP0.out.cell 5
      try clear cP0_6
      have cP0_6 : World.cell? ((w.alloc (.cells #[.int .i64 aLW, .int .i64 aLH, .slice aLC_a aLC_L.length aLC_cap, .int .i64 aXBase, .int .i64 aRM, .int .i64 aRW, .slice aDp_a aDp_L.length aDp_cap, .int .i64 aPA, .int .i64 aPF, .slice aPC_a aPC_L.length aPC_cap, .slice aPP_a aPP_L.length aPP_cap, .slice aJn_a aJn_L.length aJn_cap, .int .i64 aXDay, .int .i64 aXGiven, .int .i64 aXEaten] 58 (0, 0))).alloc (.cells #[.int .i64 bLW, .int .i64 bLH, .slice bLC_a bLC_L.length bLC_cap, .int .i64 bXBase, .int .i64 bRM, .int .i64 bRW, .slice bDp_a bDp_L.length bDp_cap, .int .i64 bPA, .int .i64 bPF, .slice bPC_a bPC_L.length bPC_cap, .slice bPP_a bPP_L.length bPP_cap, .slice bJn_a bJn_L.length bJn_cap, .int .i64 bXDay, .int .i64 bXGiven, .int .i64 bXEaten] 58 (0, 0))) ⟨w.heap.size, 6, none⟩ = some (.slice aDp_a aDp_L.length aDp_cap) := XP0.out.cell 6
      try clear cP0_7
      have cP0_7 : World.cell? ((w.alloc (.cells #[.int .i64 aLW, .int .i64 aLH, .slice aLC_a aLC_L.length aLC_cap, .int .i64 aXBase, .int .i64 aRM, .int .i64 aRW, .slice aDp_a aDp_L.length aDp_cap, .int .i64 aPA, .int .i64 aPF, .slice aPC_a aPC_L.length aPC_cap, .slice aPP_a aPP_L.length aPP_cap, .slice aJn_a aJn_L.length aJn_cap, .int .i64 aXDay, .int .i64 aXGiven, .int .i64 aXEaten] 58 (0, 0))).alloc (.cells #[.int .i64 bLW, .int .i64 bLH, .slice bLC_a bLC_L.length bLC_cap, .int .i64 bXBase, .int .i64 bRM, .int .i64 bRW, .slice bDp_a bDp_L.length bDp_cap, .int .i64 bPA, .int .i64 bPF, .slice bPC_a bPC_L.length bPC_cap, .slice bPP_a bPP_L.length bPP_cap, .slice bJn_a bJn_L.length bJn_cap, .int .i64 bXDay, .int .i64 bXGiven, .int .i64 bXEaten] 58 (0, 0))) ⟨w.heap.size, 7, none⟩ = some (.int .i64 aPA) := XP0.out.cell 7
      try clear cP0_8
      have cP0_8 : World.cell? ((w.alloc (.cells #[.int .i64 aLW, .int .i64 aLH, .slice aLC_a aLC_L.length aLC_cap, .int .i64 aXBase, .int .i64 aRM, .int .i64 aRW, .slice aDp_a aDp_L.length aDp_cap, .int .i64 aPA, .int .i64 aPF, .slice aPC_a aPC_L.length aPC_cap, .slice aPP_a aPP_L.length aPP_cap, .slice aJn_a aJn_L.length aJn_cap, .int .i64 aXDay, .int .i64 aXGiven, .int .i64 aXEaten] 58 (0, 0))).alloc (.cells #[.int .i64 bLW, .int .i64 bLH, .slice bLC_a bLC_L.length bLC_cap, .int .i64 bXBase, .int .i64 bRM, .int .i64 bRW, .slice bDp_a bDp_L.length bDp_cap, .int .i64 bPA, .int .i64 bPF, .slice bPC_a bPC_L.length bPC_cap, .slice bPP_a bPP_L.length bPP_cap, .slice bJn_a bJn_L.length bJn_cap, .int .i64 bXDay, .int .i64 bXGiven, .int .i64 bXEaten] 58 (0, 0))) ⟨w.heap.size, 8, none⟩ = some (.int .i64 aPF) := XP0.out.cell 8
      try clear cP0_9
      have cP0_9 : World.cell? ((w.alloc (.cells #[.int .i64 aLW, .int .i64 aLH, .slice aLC_a aLC_L.length aLC_cap, .int .i64 aXBase, .int .i64 aRM, .int .i64 aRW, .slice aDp_a aDp_L.length aDp_cap, .int .i64 aPA, .int .i64 aPF, .slice aPC_a aPC_L.length aPC_cap, .slice aPP_a aPP_L.length aPP_cap, .slice aJn_a aJn_L.length aJn_cap, .int .i64 aXDay, .int .i64 aXGiven, .int .i64 aXEaten] 58 (0, 0))).alloc (.cells #[.int .i64 bLW, .int .i64 bLH, .slice bLC_a bLC_L.length bLC_cap, .int .i64 bXBase, .int .i64 bRM, .int .i64 bRW, .slice bDp_a bDp_L.length bDp_cap, .int .i64 bPA, .int .i64 bPF, .slice bPC_a bPC_L.length bPC_cap, .slice bPP_a bPP_L.length bPP_cap, .slice bJn_a bJn_L.length bJn_cap, .int .i64 bXDay, .int .i64 bXGiven, .int .i64 bXEaten] 58 (0, 0))) ⟨w.heap.size, 9, none⟩ = some (.slice aPC_a aPC_L.length aPC_cap) := XP0.out.cell 9
      try clear cP0_10
      have cP0_10 : World.cell? ((w.alloc (.cells #[.int .i64 aLW, .int .i64 aLH, .slice aLC_a aLC_L.length aLC_cap, .int .i64 aXBase, .int .i64 aRM, .int .i64 aRW, .slice aDp_a aDp_L.length aDp_cap, .int .i64 aPA, .int .i64 aPF, .slice aPC_a aPC_L.length aPC_cap, .slice aPP_a aPP_L.length aPP_cap, .slice aJn_a aJn_L.length aJn_cap, .int .i64 aXDay, .int .i64 aXGiven, .int .i64 aXEaten] 58 (0, 0))).alloc (.cells #[.int .i64 bLW, .int .i64 bLH, .slice bLC_a bLC_L.length bLC_cap, .int .i64 bXBase, .int .i64 bRM, .int .i64 bRW, .slice bDp_a bDp_L.length bDp_cap, .int .i64 bPA, .int .i64 bPF, .slice bPC_a bPC_L.length bPC_cap, .slice bPP_a bPP_L.length bPP_cap, .slice bJn_a bJn_L.length bJn_cap, .int .i64 bXDay, .int .i64 bXGiven, .int .i64 bXEaten] 58 (0, 0))) ⟨w.heap.size, 10, none⟩ = some (.slice aPP_a aPP_L.length aPP_cap) := XP0.out.cell 10
      try clear cP0_11
      have cP0_11 : World.cell? ((w.alloc (.cells #[.int .i64 aLW, .int .i64 aLH, .slice aLC_a aLC_L.length aLC_cap, .int .i64 aXBase, .int .i64 aRM, .int .i64 aRW, .slice aDp_a aDp_L.length aDp_cap, .int .i64 aPA, .int .i64 aPF, .slice aPC_a aPC_L.length aPC_cap, .slice aPP_a aPP_L.length aPP_cap, .slice aJn_a aJn_L.length aJn_cap, .int .i64 aXDay, .int .i64 aXGiven, .int .i64 aXEaten] 58 (0, 0))).alloc (.cells #[.int .i64 bLW, .int .i64 bLH, .slice bLC_a bLC_L.length bLC_cap, .int .i64 bXBase, .int .i64 bRM, .int .i64 bRW, .slice bDp_a bDp_L.length bDp_cap, .int .i64 bPA, .int .i64 bPF, .slice bPC_a bPC_L.length bPC_cap, .slice bPP_a bPP_L.length bPP_cap, .slice bJn_a bJn_L.length bJn_cap, .int .i64 bXDay, .int .i64 bXGiven, .int .i64 bXEaten] 58 (0, 0))) ⟨w.heap.size, 11, none⟩ = some (.slice aJn_a aJn_L.length aJn_cap) := XP0.out.cell 11
      try clear cP0_12
      have cP0_12 : World.cell? ((w.alloc (.cells #[.int .i64 aLW, .int .i64 aLH, .slice aLC_a aLC_L.length aLC_cap, .int .i64 aXBase, .int .i64 aRM, .int .i64 aRW, .slice aDp_a aDp_L.length aDp_cap, .int .i64 aPA, .int .i64 aPF, .slice aPC_a aPC_L.length aPC_cap, .slice aPP_a aPP_L.length aPP_cap, .slice aJn_a aJn_L.length aJn_cap, .int .i64 aXDay, .int .i64 aXGiven, .int .i64 aXEaten] 58 (0, 0))).alloc (.cells #[.int .i64 bLW, .int .i64 bLH, .slice bLC_a bLC_L.length bLC_cap, .int .i64 bXBase, .int .i64 bRM, .int .i64 bRW, .slice bDp_a bDp_L.length bDp_cap, .int .i64 bPA, .int .i64 bPF, .slice bPC_a bPC_L.length bPC_cap, .slice bPP_a bPP_L.length bPP_cap, .slice bJn_a bJn_L.length bJn_cap, .int .i64 bXDay, .int .i64 bXGiven, .int .i64 bXEaten] 58 (0, 0))) ⟨w.heap.size, 12, none⟩ = some (.int .i64 aXDay) := XP0.out.cell 12
      try clear cP0_13
      have cP0_13 : World.cell? ((w.alloc (.cells #[.int .i64 aLW, .int .i64 aLH, .slice aLC_a aLC_L.length aLC_cap, .int .i64 aXBase, .int .i64 aRM, .int .i64 aRW, .slice aDp_a aDp_L.length aDp_cap, .int .i64 aPA, .int .i64 aPF, .slice aPC_a aPC_L.length aPC_cap, .slice aPP_a aPP_L.length aPP_cap, .slice aJn_a aJn_L.length aJn_cap, .int .i64 aXDay, .int .i64 aXGiven, .int .i64 aXEaten] 58 (0, 0))).alloc (.cells #[.int .i64 bLW, .int .i64 bLH, .slice bLC_a bLC_L.length bLC_cap, .int .i64 bXBase, .int .i64 bRM, .int .i64 bRW, .slice bDp_a bDp_L.length bDp_cap, .int .i64 bPA, .int .i64 bPF, .slice bPC_a bPC_L.length bPC_cap, .slice bPP_a bPP_L.length bPP_cap, .slice bJn_a bJn_L.length bJn_cap, .int .i64 bXDay, .int .i64 bXGiven, .int .i64 bXEaten] 58 (0, 0))) ⟨w.heap.size, 13, none⟩ = some (.int .i64 aXGiven) := XP0.out.cell 13
      try clear cP0_14
      have cP0_14 : World.cell? ((w.alloc (.cells #[.int .i64 aLW, .int .i64 aLH, .slice aLC_a aLC_L.length aLC_cap, .int .i64 aXBase, .int .i64 aRM, .int .i64 aRW, .slice aDp_a aDp_L.length aDp_cap, .int .i64 aPA, .int .i64 aPF, .slice aPC_a aPC_L.length aPC_cap, .slice aPP_a aPP_L.length aPP_cap, .slice aJn_a aJn_L.length aJn_cap, .int .i64 aXDay, .int .i64 aXGiven, .int .i64 aXEaten] 58 (0, 0))).alloc (.cells #[.int .i64 bLW, .int .i64 bLH, .slice bLC_a bLC_L.length bLC_cap, .int .i64 bXBase, .int .i64 bRM, .int .i64 bRW, .slice bDp_a bDp_L.length bDp_cap, .int .i64 bPA, .int .i64 bPF, .slice bPC_a bPC_L.length bPC_cap, .slice bPP_a bPP_L.length bPP_cap, .slice bJn_a bJn_L.length bJn_cap, .int .i64 bXDay, .int .i64 bXGiven, .int .i64 bXEaten] 58 (0, 0))) ⟨w.heap.size, 14, none⟩ = some (.int .i64 aXEaten) := XP0.out.cell 14
      try clear cP1_0
      have cP1_0 : World.cell? ((w.alloc (.cells #[.int .i64 aLW, .int .i64 aLH, .slice aLC_a aLC_L.length aLC_cap, .int .i64 aXBase, .int .i64 aRM, .int .i64 aRW, .slice aDp_a aDp_L.length aDp_cap, .int .i64 aPA, .int .i64 aPF, .slice aPC_a aPC_L.length aPC_cap, .slice aPP_a aPP_L.length aPP_cap, .slice aJn_a aJn_L.length aJn_cap, .int .i64 aXDay, .int .i64 aXGiven, .int .i64 aXEaten] 58 (0, 0))).alloc (.cells #[.int .i64 bLW, .int .i64 bLH, .slice bLC_a bLC_L.length bLC_cap, .int .i64 bXBase, .int .i64 bRM, .int .i64 bRW, .slice bDp_a bDp_L.length bDp_cap, .int .i64 bPA, .int .i64 bPF, .slice bPC_a bPC_L.length bPC_cap, .slice bPP_a bPP_L.length bPP_cap, .slice bJn_a bJn_L.length bJn_cap, .int .i64 bXDay, .int .i64 bXGiven, .int .i64 bXEaten] 58 (0, 0))) ⟨w.heap.size + 1, 0, none⟩ = some (.int .i64 bLW) := XP1.out.cell 0
      try clear cP1_1
      have cP1_1 : World.cell? ((w.alloc (.cells #[.int .i64 aLW, .int .i64 aLH, .slice aLC_a aLC_L.length aLC_cap, .int .i64 aXBase, .int .i64 aRM, .int .i64 aRW, .slice aDp_a aDp_L.length aDp_cap, .int .i64 aPA, .int .i64 aPF, .slice aPC_a aPC_L.length aPC_cap, .slice aPP_a aPP_L.length aPP_cap, .slice aJn_a aJn_L.length aJn_cap, .int .i64 aXDay, .int .i64 aXGiven, .int .i64 aXEaten] 58 (0, 0))).alloc (.cells #[.int .i64 bLW, .int .i64 bLH, .slice bLC_a bLC_L.length bLC_cap, .int .i64 bXBase, .int .i64 bRM, .int .i64 bRW, .slice bDp_a bDp_L.length bDp_cap, .int .i64 bPA, .int .i64 bPF, .slice bPC_a bPC_L.length bPC_cap, .slice bPP_a bPP_L.length bPP_cap, .slice bJn_a bJn_L.length bJn_cap, .int .i64 bXDay, .int .i64 bXGiven, .int .i64 bXEaten] 58 (0, 0))) ⟨w.heap.size + 1, 1, none⟩ = some (.int .i64 bLH) := XP1.out.cell 1
      try clear cP1_2
      have cP1_2 : World.cell? ((w.alloc (.cells #[.int .i64 aLW, .int .i64 aLH, .slice aLC_a aLC_L.length aLC_cap, .int .i64 aXBase, .int .i64 aRM, .int .i64 aRW, .slice aDp_a aDp_L.length aDp_cap, .int .i64 aPA, .int .i64 aPF, .slice aPC_a aPC_L.length aPC_cap, .slice aPP_a aPP_L.length aPP_cap, .slice aJn_a aJn_L.length aJn_cap, .int .i64 aXDay, .int .i64 aXGiven, .int .i64 aXEaten] 58 (0, 0))).alloc (.cells #[.int .i64 bLW, .int .i64 bLH, .slice bLC_a bLC_L.length bLC_cap, .int .i64 bXBase, .int .i64 bRM, .int .i64 bRW, .slice bDp_a bDp_L.length bDp_cap, .int .i64 bPA, .int .i64 bPF, .slice bPC_a bPC_L.length bPC_cap, .slice bPP_a bPP_L.length bPP_cap, .slice bJn_a bJn_L.length bJn_cap, .int .i64 bXDay, .int .i64 bXGiven, .int .i64 bXEaten] 58 (0, 0))) ⟨w.heap.size + 1, 2, none⟩ = some (.slice bLC_a bLC_L.length bLC_cap) := XP1.out.cell 2
      try clear cP1_3
      have cP1_3 : World.cell? ((w.alloc (.cells #[.int .i64 aLW, .int .i64 aLH, .slice aLC_a aLC_L.length aLC_cap, .int .i64 aXBase, .int .i64 aRM, .int .i64 aRW, .slice aDp_a aDp_L.length aDp_cap, .int .i64 aPA, .int .i64 aPF, .slice aPC_a aPC_L.length aPC_cap, .slice aPP_a aPP_L.length aPP_cap, .slice aJn_a aJn_L.length aJn_cap, .int .i64 aXDay, .int .i64 aXGiven, .int .i64 aXEaten] 58 (0, 0))).alloc (.cells #[.int .i64 bLW, .int .i64 bLH, .slice bLC_a bLC_L.length bLC_cap, .int .i64 bXBase, .int .i64 bRM, .int .i64 bRW, .slice bDp_a bDp_L.length bDp_cap, .int .i64 bPA, .int .i64 bPF, .slice bPC_a bPC_L.length bPC_cap, .slice bPP_a bPP_L.length bPP_cap, .slice bJn_a bJn_L.length bJn_cap, .int .i64 bXDay, .int .i64 bXGiven, .int .i64 bXEaten] 58 (0, 0))) ⟨w.heap.size + 1, 3, none⟩ = some (.int .i64 bXBase) := XP1.out.cell 3
      try clear cP1_4
      have cP1_4 : World.cell? ((w.alloc (.cells #[.int .i64 aLW, .int .i64 aLH, .slice aLC_a aLC_L.length aLC_cap, .int .i64 aXBase, .int .i64 aRM, .int .i64 aRW, .slice aDp_a aDp_L.length aDp_cap, .int .i64 aPA, .int .i64 aPF, .slice aPC_a aPC_L.length aPC_cap, .slice aPP_a aPP_L.length aPP_cap, .slice aJn_a aJn_L.length aJn_cap, .int .i64 aXDay, .int .i64 aXGiven, .int .i64 aXEaten] 58 (0, 0))).alloc (.cells #[.int .i64 bLW, .int .i64 bLH, .slice bLC_a bLC_L.length bLC_cap, .int .i64 bXBase, .int .i64 bRM, .int .i64 bRW, .slice bDp_a bDp_L.length bDp_cap, .int .i64 bPA, .int .i64 bPF, .slice bPC_a bPC_L.length bPC_cap, .slice bPP_a bPP_L.length bPP_cap, .slice bJn_a bJn_L.length bJn_cap, .int .i64 bXDay, .int .i64 bXGiven, .int .i64 bXEaten] 58 (0, 0))) ⟨w.heap.size + 1, 4, none⟩ = some (.int .i64 bRM) := XP1.out.cell 4
      try clear cP1_5
      have cP1_5 : World.cell? ((w.alloc (.cells #[.int .i64 aLW, .int .i64 aLH, .slice aLC_a aLC_L.length aLC_cap, .int .i64 aXBase, .int .i64 aRM, .int .i64 aRW, .slice aDp_a aDp_L.length aDp_cap, .int .i64 aPA, .int .i64 aPF, .slice aPC_a aPC_L.length aPC_cap, .slice aPP_a aPP_L.length aPP_cap, .slice aJn_a aJn_L.length aJn_cap, .int .i64 aXDay, .int .i64 aXGiven, .int .i64 aXEaten] 58 (0, 0))).alloc (.cells #[.int .i64 bLW, .int .i64 bLH, .slice bLC_a bLC_L.length bLC_cap, .int .i64 bXBase, .int .i64 bRM, .int .i64 bRW, .slice bDp_a bDp_L.length bDp_cap, .int .i64 bPA, .int .i64 bPF, .slice bPC_a bPC_L.length bPC_cap, .slice bPP_a bPP_L.length bPP_cap, .slice bJn_a bJn_L.length bJn_cap, .int .i64 bXDay, .int .i64 bXGiven, .int .i64 bXEaten] 58 (0, 0))) ⟨w.heap.size + 1, 5, none⟩ = some (.int .i64 bRW) := XP1.out.cell 5
      try clear cP1_6
      have cP1_6 : World.cell? ((w.alloc (.cells #[.int .i64 aLW, .int .i64 aLH, .slice aLC_a aLC_L.length aLC_cap, .int .i64 aXBase, .int .i64 aRM, .int .i64 aRW, .slice aDp_a aDp_L.length aDp_cap, .int .i64 aPA, .int .i64 aPF, .slice aPC_a aPC_L.length aPC_cap, .slice aPP_a aPP_L.length aPP_cap, .slice aJn_a aJn_L.length aJn_cap, .int .i64 aXDay, .int .i64 aXGiven, .int .i64 aXEaten] 58 (0, 0))).alloc (.cells #[.int .i64 bLW, .int .i64 bLH, .slice bLC_a bLC_L.length bLC_cap, .int .i64 bXBase, .int .i64 bRM, .int .i64 bRW, .slice bDp_a bDp_L.length bDp_cap, .int .i64 bPA, .int .i64 bPF, .slice bPC_a bPC_L.length bPC_cap, .slice bPP_a bPP_L.length bPP_cap, .slice bJn_a bJn_L.length bJn_cap, .int .i64 bXDay, .int .i64 bXGiven, .int .i64 bXEaten] 58 (0, 0))) ⟨w.heap.size + 1, 6, none⟩ = some (.slice bDp_a bDp_L.length bDp_cap) := XP1.out.cell 6
      try clear cP1_7
      have cP1_7 : World.cell? ((w.alloc (.cells #[.int .i64 aLW, .int .i64 aLH, .slice aLC_a aLC_L.length aLC_cap, .int .i64 aXBase, .int .i64 aRM, .int .i64 aRW, .slice aDp_a aDp_L.length aDp_cap, .int .i64 aPA, .int .i64 aPF, .slice aPC_a aPC_L.length aPC_cap, .slice aPP_a aPP_L.length aPP_cap, .slice aJn_a aJn_L.length aJn_cap, .int .i64 aXDay, .int .i64 aXGiven, .int .i64 aXEaten] 58 (0, 0))).alloc (.cells #[.int .i64 bLW, .int .i64 bLH, .slice bLC_a bLC_L.length bLC_cap, .int .i64 bXBase, .int .i64 bRM, .int .i64 bRW, .slice bDp_a bDp_L.length bDp_cap, .int .i64 bPA, .int .i64 bPF, .slice bPC_a bPC_L.length bPC_cap, .slice bPP_a bPP_L.length bPP_cap, .slice bJn_a bJn_L.length bJn_cap, .int .i64 bXDay, .int .i64 bXGiven, .int .i64 bXEaten] 58 (0, 0))) ⟨w.heap.size + 1, 7, none⟩ = some (.int .i64 bPA) := XP1.out.cell 7
      try clear cP1_8
      have cP1_8 : World.cell? ((w.alloc (.cells #[.int .i64 aLW, .int .i64 aLH, .slice aLC_a aLC_L.length aLC_cap, .int .i64 aXBase, .int .i64 aRM, .int .i64 aRW, .slice aDp_a aDp_L.length aDp_cap, .int .i64 aPA, .int .i64 aPF, .slice aPC_a aPC_L.length aPC_cap, .slice aPP_a aPP_L.length aPP_cap, .slice aJn_a aJn_L.length aJn_cap, .int .i64 aXDay, .int .i64 aXGiven, .int .i64 aXEaten] 58 (0, 0))).alloc (.cells #[.int .i64 bLW, .int .i64 bLH, .slice bLC_a bLC_L.length bLC_cap, .int .i64 bXBase, .int .i64 bRM, .int .i64 bRW, .slice bDp_a bDp_L.length bDp_cap, .int .i64 bPA, .int .i64 bPF, .slice bPC_a bPC_L.length bPC_cap, .slice bPP_a bPP_L.length bPP_cap, .slice bJn_a bJn_L.length bJn_cap, .int .i64 bXDay, .int .i64 bXGiven, .int .i64 bXEaten] 58 (0, 0))) ⟨w.heap.size + 1, 8, none⟩ = some (.int .i64 bPF) := XP1.out.cell 8
      try clear cP1_9
      have cP1_9 : World.cell? ((w.alloc (.cells #[.int .i64 aLW, .int .i64 aLH, .slice aLC_a aLC_L.length aLC_cap, .int .i64 aXBase, .int .i64 aRM, .int .i64 aRW, .slice aDp_a aDp_L.length aDp_cap, .int .i64 aPA, .int .i64 aPF, .slice aPC_a aPC_L.length aPC_cap, .slice aPP_a aPP_L.length aPP_cap, .slice aJn_a aJn_L.length aJn_cap, .int .i64 aXDay, .int .i64 aXGiven, .int .i64 aXEaten] 58 (0, 0))).alloc (.cells #[.int .i64 bLW, .int .i64 bLH, .slice bLC_a bLC_L.length bLC_cap, .int .i64 bXBase, .int .i64 bRM, .int .i64 bRW, .slice bDp_a bDp_L.length bDp_cap, .int .i64 bPA, .int .i64 bPF, .slice bPC_a bPC_L.length bPC_cap, .slice bPP_a bPP_L.length bPP_cap, .slice bJn_a bJn_L.length bJn_cap, .int .i64 bXDay, .int .i64 bXGiven, .int .i64 bXEaten] 58 (0, 0))) ⟨w.heap.size + 1, 9, none⟩ = some (.slice bPC_a bPC_L.length bPC_cap) := XP1.out.cell 9
      try clear cP1_10
      have cP1_10 : World.cell? ((w.alloc (.cells #[.int .i64 aLW, .int .i64 aLH, .slice aLC_a aLC_L.length aLC_cap, .int .i64 aXBase, .int .i64 aRM, .int .i64 aRW, .slice aDp_a aDp_L.length aDp_cap, .int .i64 aPA, .int .i64 aPF, .slice aPC_a aPC_L.length aPC_cap, .slice aPP_a aPP_L.length aPP_cap, .slice aJn_a aJn_L.length aJn_cap, .int .i64 aXDay, .int .i64 aXGiven, .int .i64 aXEaten] 58 (0, 0))).alloc (.cells #[.int .i64 bLW, .int .i64 bLH, .slice bLC_a bLC_L.length bLC_cap, .int .i64 bXBase, .int .i64 bRM, .int .i64 bRW, .slice bDp_a bDp_L.length bDp_cap, .int .i64 bPA, .int .i64 bPF, .slice bPC_a bPC_L.length bPC_cap, .slice bPP_a bPP_L.length bPP_cap, .slice bJn_a bJn_L.length bJn_cap, .int .i64 bXDay, .int .i64 bXGiven, .int .i64 bXEaten] 58 (0, 0))) ⟨w.heap.size + 1, 10, none⟩ = some (.slice bPP_a bPP_L.length bPP_cap) := XP1.out.cell 10
      try clear cP1_11
      have cP1_11 : World.cell? ((w.alloc (.cells #[.int .i64 aLW, .int .i64 aLH, .slice aLC_a aLC_L.length aLC_cap, .int .i64 aXBase, .int .i64 aRM, .int .i64 aRW, .slice aDp_a aDp_L.length aDp_cap, .int .i64 aPA, .int .i64 aPF, .slice aPC_a aPC_L.length aPC_cap, .slice aPP_a aPP_L.length aPP_cap, .slice aJn_a aJn_L.length aJn_cap, .int .i64 aXDay, .int .i64 aXGiven, .int .i64 aXEaten] 58 (0, 0))).alloc (.cells #[.int .i64 bLW, .int .i64 bLH, .slice bLC_a bLC_L.length bLC_cap, .int .i64 bXBase, .int .i64 bRM, .int .i64 bRW, .slice bDp_a bDp_L.length bDp_cap, .int .i64 bPA, .int .i64 bPF, .slice bPC_a bPC_L.length bPC_cap, .slice bPP_a bPP_L.length bPP_cap, .slice bJn_a bJn_L.length bJn_cap, .int .i64 bXDay, .int .i64 bXGiven, .int .i64 bXEaten] 58 (0, 0))) ⟨w.heap.size + 1, 11, none⟩ = some (.slice bJn_a bJn_L.length bJn_cap) := XP1.out.cell 11
      try clear cP1_12
      have cP1_12 : World.cell? ((w.alloc (.cells #[.int .i64 aLW, .int .i64 aLH, .slice aLC_a aLC_L.length aLC_cap, .int .i64 aXBase, .int .i64 aRM, .int .i64 aRW, .slice aDp_a aDp_L.length aDp_cap, .int .i64 aPA, .int .i64 aPF, .slice aPC_a aPC_L.length aPC_cap, .slice aPP_a aPP_L.length aPP_cap, .slice aJn_a aJn_L.length aJn_cap, .int .i64 aXDay, .int .i64 aXGiven, .int .i64 aXEaten] 58 (0, 0))).alloc (.cells #[.int .i64 bLW, .int .i64 bLH, .slice bLC_a bLC_L.length bLC_cap, .int .i64 bXBase, .int .i64 bRM, .int .i64 bRW, .slice bDp_a bDp_L.length bDp_cap, .int .i64 bPA, .int .i64 bPF, .slice bPC_a bPC_L.length bPC_cap, .slice bPP_a bPP_L.length bPP_cap, .slice bJn_a bJn_L.length bJn_cap, .int .i64 bXDay, .int .i64 bXGiven, .int .i64 bXEaten] 58 (0, 0))) ⟨w.heap.size + 1, 12, none⟩ = some (.int .i64 bXDay) := XP1.out.cell 12
      try clear cP1_13
      have cP1_13 : World.cell? ((w.alloc (.cells #[.int .i64 aLW, .int .i64 aLH, .slice aLC_a aLC_L.length aLC_cap, .int .i64 aXBase, .int .i64 aRM, .int .i64 aRW, .slice aDp_a aDp_L.length aDp_cap, .int .i64 aPA, .int .i64 aPF, .slice aPC_a aPC_L.length aPC_cap, .slice aPP_a aPP_L.length aPP_cap, .slice aJn_a aJn_L.length aJn_cap, .int .i64 aXDay, .int .i64 aXGiven, .int .i64 aXEaten] 58 (0, 0))).alloc (.cells #[.int .i64 bLW, .int .i64 bLH, .slice bLC_a bLC_L.length bLC_cap, .int .i64 bXBase, .int .i64 bRM, .int .i64 bRW, .slice bDp_a bDp_L.length bDp_cap, .int .i64 bPA, .int .i64 bPF, .slice bPC_a bPC_L.length bPC_cap, .slice bPP_a bPP_L.length bPP_cap, .slice bJn_a bJn_L.length bJn_cap, .int .i64 bXDay, .int .i64 bXGiven, .int .i64 bXEaten] 58 (0, 0))) ⟨w.heap.size + 1, 13, none⟩ = some (.int .i64 bXGiven) := XP1.out.cell 13
      try clear cP1_14
      have cP1_14 : World.cell? ((w.alloc (.cells #[.int .i64 aLW, .int .i64 aLH, .slice aLC_a aLC_L.length aLC_cap, .int .i64 aXBase, .int .i64 aRM, .int .i64 aRW, .slice aDp_a aDp_L.length aDp_cap, .int .i64 aPA, .int .i64 aPF, .slice aPC_a aPC_L.length aPC_cap, .slice aPP_a aPP_L.length aPP_cap, .slice aJn_a aJn_L.length aJn_cap, .int .i64 aXDay, .int .i64 aXGiven, .int .i64 aXEaten] 58 (0, 0))).alloc (.cells #[.int .i64 bLW, .int .i64 bLH, .slice bLC_a bLC_L.length bLC_cap, .int .i64 bXBase, .int .i64 bRM, .int .i64 bRW, .slice bDp_a bDp_L.length bDp_cap, .int .i64 bPA, .int .i64 bPF, .slice bPC_a bPC_L.length bPC_cap, .slice bPP_a bPP_L.length bPP_cap, .slice bJn_a bJn_L.length bJn_cap, .int .i64 bXDay, .int .i64 bXGiven, .int .i64 bXEaten] 58 (0, 0))) ⟨w.heap.size + 1, 14, none⟩ = some (.int .i64 bXEaten) := XP1.out.cell 14
      go_wp2_with fail
      generalize (w.alloc (.cells #[.int .i64 aLW, .int .i64 aLH, .slice aLC_a aLC_L.length aLC_cap, .int .i64 aXBase, .int .i64 aRM, .int .i64 aRW, .slice aDp_a aDp_L.length aDp_cap, .int .i64 aPA, .int .i64 aPF, .slice aPC_a aPC_L.length aPC_cap, .slice aPP_a aPP_L.length aPP_cap, .slice aJn_a aJn_L.length aJn_cap, .int .i64 aXDay, .int .i64 aXGiven, .int .i64 aXEaten] 58 (0, 0))).alloc (.cells #[.int .i64 bLW, .int .i64 bLH, .slice bLC_a bLC_L.length bLC_cap, .int .i64 bXBase, .int .i64 bRM, .int .i64 bRW, .slice bDp_a bDp_L.length bDp_cap, .int .i64 bPA, .int .i64 bPF, .slice bPC_a bPC_L.length bPC_cap, .slice bPP_a bPP_L.length bPP_cap, .slice bJn_a bJn_L.length bJn_cap, .int .i64 bXDay, .int .i64 bXGiven, .int .i64 bXEaten] 58 (0, 0)) = w1 at *
      refine (TrekL.szTrek_yes w1 aLW aLH aXBase aRM aRW aPA aPF aXDay aXGiven aXEaten _ _ _ _ _ _ _ _ _ _ (1048576 : Int) (aLC_S.out.below HB2.out) (aDp_S.out.below HB2.out) (aPC_S.out.below HB2.out) (aPP_S.out.below HB2.out) (aJn_S.out.below HB2.out) (by omega) (by omega) (by omega)).mono ?_
      rintro e w2 ⟨rfl, hg⟩
      have HB3 := Lib.hid (HB2.out.grown hg HB2.out.size (fun _ h => by cases h)); clear HB2
      have XP0 := Lib.hid (XP0.out.grown hg)
      have XP1 := Lib.hid (XP1.out.grown hg)
      clear hg
      try clear cP0_0
      have cP0_0 : World.cell? (w2) ⟨w.heap.size, 0, none⟩ = some (.int .i64 aLW) := XP0.out.cell 0
      try clear cP0_1
      have cP0_1 : World.cell? (w2) ⟨w.heap.size, 1, none⟩ = some (.int .i64 aLH) := XP0.out.cell 1
      try clear cP0_2
      have cP0_2 : World.cell? (w2) ⟨w.heap.size, 2, none⟩ = some (.slice aLC_a aLC_L.length aLC_cap) := XP0.out.cell 2
      try clear cP0_3
      have cP0_3 : World.cell? (w2) ⟨w.heap.size, 3, none⟩ = some (.int .i64 aXBase) := XP0.out.cell 3
      try clear cP0_4
      have cP0_4 : World.cell? (w2) ⟨w.heap.size, 4, none⟩ = some (.int .i64 aRM) := XP0.out.cell 4
      try clear cP0_5
      have cP0_5 : World.cell? (w2) ⟨w.heap.size, 5, none⟩ = some (.int .i64 aRW) := XP0.out.cell 5
      try clear cP0_6
      have cP0_6 : World.cell? (w2) ⟨w.heap.size, 6, none⟩ = some (.slice aDp_a aDp_L.length aDp_cap) := XP0.out.cell 6
      try clear cP0_7
      have cP0_7 : World.cell? (w2) ⟨w.heap.size, 7, none⟩ = some (.int .i64 aPA) := XP0.out.cell 7
      try clear cP0_8
      have cP0_8 : World.cell? (w2) ⟨w.heap.size, 8, none⟩ = some (.int .i64 aPF) := XP0.out.cell 8
      try clear cP0_9
      have cP0_9 : World.cell? (w2) ⟨w.heap.size, 9, none⟩ = some (.slice aPC_a aPC_L.length aPC_cap) := XP0.out.cell 9
      try clear cP0_10
      have cP0_10 : World.cell? (w2) ⟨w.heap.size, 10, none⟩ = some (.slice aPP_a aPP_L.length aPP_cap) := XP0.out.cell 10
      try clear cP0_11
      have cP0_11 : World.cell? (w2) ⟨w.heap.size, 11, none⟩ = some (.slice aJn_a aJn_L.length aJn_cap) := XP0.out.cell 11
      try clear cP0_12
      have cP0_12 : World.cell? (w2) ⟨w.heap.size, 12, none⟩ = some (.int .i64 aXDay) := XP0.out.cell 12
      try clear cP0_13
      have cP0_13 : World.cell? (w2) ⟨w.heap.size, 13, none⟩ = some (.int .i64 aXGiven) := XP0.out.cell 13
      try clear cP0_14
      have cP0_14 : World.cell? (w2) ⟨w.heap.size, 14, none⟩ = some (.int .i64 aXEaten) := XP0.out.cell 14
      try clear cP1_0
      have cP1_0 : World.cell? (w2) ⟨w.heap.size + 1, 0, none⟩ = some (.int .i64 bLW) := XP1.out.cell 0
      try clear cP1_1
      have cP1_1 : World.cell? (w2) ⟨w.heap.size + 1, 1, none⟩ = some (.int .i64 bLH) := XP1.out.cell 1
      try clear cP1_2
      have cP1_2 : World.cell? (w2) ⟨w.heap.size + 1, 2, none⟩ = some (.slice bLC_a bLC_L.length bLC_cap) := XP1.out.cell 2
      try clear cP1_3
      have cP1_3 : World.cell? (w2) ⟨w.heap.size + 1, 3, none⟩ = some (.int .i64 bXBase) := XP1.out.cell 3
      try clear cP1_4
      have cP1_4 : World.cell? (w2) ⟨w.heap.size + 1, 4, none⟩ = some (.int .i64 bRM) := XP1.out.cell 4
      try clear cP1_5
      have cP1_5 : World.cell? (w2) ⟨w.heap.size + 1, 5, none⟩ = some (.int .i64 bRW) := XP1.out.cell 5
      try clear cP1_6
      have cP1_6 : World.cell? (w2) ⟨w.heap.size + 1, 6, none⟩ = some (.slice bDp_a bDp_L.length bDp_cap) := XP1.out.cell 6
      try clear cP1_7
      have cP1_7 : World.cell? (w2) ⟨w.heap.size + 1, 7, none⟩ = some (.int .i64 bPA) := XP1.out.cell 7
      try clear cP1_8
      have cP1_8 : World.cell? (w2) ⟨w.heap.size + 1, 8, none⟩ = some (.int .i64 bPF) := XP1.out.cell 8
      try clear cP1_9
      have cP1_9 : World.cell? (w2) ⟨w.heap.size + 1, 9, none⟩ = some (.slice bPC_a bPC_L.length bPC_cap) := XP1.out.cell 9
      try clear cP1_10
      have cP1_10 : World.cell? (w2) ⟨w.heap.size + 1, 10, none⟩ = some (.slice bPP_a bPP_L.length bPP_cap) := XP1.out.cell 10
      try clear cP1_11
      have cP1_11 : World.cell? (w2) ⟨w.heap.size + 1, 11, none⟩ = some (.slice bJn_a bJn_L.length bJn_cap) := XP1.out.cell 11
      try clear cP1_12
      have cP1_12 : World.cell? (w2) ⟨w.heap.size + 1, 12, none⟩ = some (.int .i64 bXDay) := XP1.out.cell 12
      try clear cP1_13
      have cP1_13 : World.cell? (w2) ⟨w.heap.size + 1, 13, none⟩ = some (.int .i64 bXGiven) := XP1.out.cell 13
      try clear cP1_14
      have cP1_14 : World.cell? (w2) ⟨w.heap.size + 1, 14, none⟩ = some (.int .i64 bXEaten) := XP1.out.cell 14
      go_wp2_with fail
      refine (TrekL.szTrek_no w2 bLW bLH bXBase bRM bRW bPA bPF bXDay bXGiven bXEaten _ _ _ _ _ _ _ _ _ _ ((1048576 : Int) - ((aLC_L.length : Int) + (aDp_L.length : Int) + (aPC_L.length : Int) + (aPP_L.length : Int) + (aJn_L.length : Int))) (bLC_S.out.below HB3.out) (bDp_S.out.below HB3.out) (bPC_S.out.below HB3.out) (bPP_S.out.below HB3.out) (bJn_S.out.below HB3.out) (by omega) (by omega) (by omega)).mono ?_
      rintro e w3 ⟨rfl, hg⟩
      have HB4 := Lib.hid (HB3.out.grown hg HB3.out.size (fun _ h => by cases h)); clear HB3
      have XP0 := Lib.hid (XP0.out.grown hg)
      have XP1 := Lib.hid (XP1.out.grown hg)
      clear hg
      try clear cP0_0
      have cP0_0 : World.cell? (w3) ⟨w.heap.size, 0, none⟩ = some (.int .i64 aLW) := XP0.out.cell 0
      try clear cP0_1
      have cP0_1 : World.cell? (w3) ⟨w.heap.size, 1, none⟩ = some (.int .i64 aLH) := XP0.out.cell 1
      try clear cP0_2
      have cP0_2 : World.cell? (w3) ⟨w.heap.size, 2, none⟩ = some (.slice aLC_a aLC_L.length aLC_cap) := XP0.out.cell 2
      try clear cP0_3
      have cP0_3 : World.cell? (w3) ⟨w.heap.size, 3, none⟩ = some (.int .i64 aXBase) := XP0.out.cell 3
      try clear cP0_4
      have cP0_4 : World.cell? (w3) ⟨w.heap.size, 4, none⟩ = some (.int .i64 aRM) := XP0.out.cell 4
      try clear cP0_5
      have cP0_5 : World.cell? (w3) ⟨w.heap.size, 5, none⟩ = some (.int .i64 aRW) := XP0.out.cell 5
      try clear cP0_6
      have cP0_6 : World.cell? (w3) ⟨w.heap.size, 6, none⟩ = some (.slice aDp_a aDp_L.length aDp_cap) := XP0.out.cell 6
      try clear cP0_7
      have cP0_7 : World.cell? (w3) ⟨w.heap.size, 7, none⟩ = some (.int .i64 aPA) := XP0.out.cell 7
      try clear cP0_8
      have cP0_8 : World.cell? (w3) ⟨w.heap.size, 8, none⟩ = some (.int .i64 aPF) := XP0.out.cell 8
      try clear cP0_9
      have cP0_9 : World.cell? (w3) ⟨w.heap.size, 9, none⟩ = some (.slice aPC_a aPC_L.length aPC_cap) := XP0.out.cell 9
      try clear cP0_10
      have cP0_10 : World.cell? (w3) ⟨w.heap.size, 10, none⟩ = some (.slice aPP_a aPP_L.length aPP_cap) := XP0.out.cell 10
      try clear cP0_11
      have cP0_11 : World.cell? (w3) ⟨w.heap.size, 11, none⟩ = some (.slice aJn_a aJn_L.length aJn_cap) := XP0.out.cell 11
      try clear cP0_12
      have cP0_12 : World.cell? (w3) ⟨w.heap.size, 12, none⟩ = some (.int .i64 aXDay) := XP0.out.cell 12
      try clear cP0_13
      have cP0_13 : World.cell? (w3) ⟨w.heap.size, 13, none⟩ = some (.int .i64 aXGiven) := XP0.out.cell 13
      try clear cP0_14
      have cP0_14 : World.cell? (w3) ⟨w.heap.size, 14, none⟩ = some (.int .i64 aXEaten) := XP0.out.cell 14
      try clear cP1_0
      have cP1_0 : World.cell? (w3) ⟨w.heap.size + 1, 0, none⟩ = some (.int .i64 bLW) := XP1.out.cell 0
      try clear cP1_1
      have cP1_1 : World.cell? (w3) ⟨w.heap.size + 1, 1, none⟩ = some (.int .i64 bLH) := XP1.out.cell 1
      try clear cP1_2
      have cP1_2 : World.cell? (w3) ⟨w.heap.size + 1, 2, none⟩ = some (.slice bLC_a bLC_L.length bLC_cap) := XP1.out.cell 2
      try clear cP1_3
      have cP1_3 : World.cell? (w3) ⟨w.heap.size + 1, 3, none⟩ = some (.int .i64 bXBase) := XP1.out.cell 3
      try clear cP1_4
      have cP1_4 : World.cell? (w3) ⟨w.heap.size + 1, 4, none⟩ = some (.int .i64 bRM) := XP1.out.cell 4
      try clear cP1_5
      have cP1_5 : World.cell? (w3) ⟨w.heap.size + 1, 5, none⟩ = some (.int .i64 bRW) := XP1.out.cell 5
      try clear cP1_6
      have cP1_6 : World.cell? (w3) ⟨w.heap.size + 1, 6, none⟩ = some (.slice bDp_a bDp_L.length bDp_cap) := XP1.out.cell 6
      try clear cP1_7
      have cP1_7 : World.cell? (w3) ⟨w.heap.size + 1, 7, none⟩ = some (.int .i64 bPA) := XP1.out.cell 7
      try clear cP1_8
      have cP1_8 : World.cell? (w3) ⟨w.heap.size + 1, 8, none⟩ = some (.int .i64 bPF) := XP1.out.cell 8
      try clear cP1_9
      have cP1_9 : World.cell? (w3) ⟨w.heap.size + 1, 9, none⟩ = some (.slice bPC_a bPC_L.length bPC_cap) := XP1.out.cell 9
      try clear cP1_10
      have cP1_10 : World.cell? (w3) ⟨w.heap.size + 1, 10, none⟩ = some (.slice bPP_a bPP_L.length bPP_cap) := XP1.out.cell 10
      try clear cP1_11
      have cP1_11 : World.cell? (w3) ⟨w.heap.size + 1, 11, none⟩ = some (.slice bJn_a bJn_L.length bJn_cap) := XP1.out.cell 11
      try clear cP1_12
      have cP1_12 : World.cell? (w3) ⟨w.heap.size + 1, 12, none⟩ = some (.int .i64 bXDay) := XP1.out.cell 12
      try clear cP1_13
      have cP1_13 : World.cell? (w3) ⟨w.heap.size + 1, 13, none⟩ = some (.int .i64 bXGiven) := XP1.out.cell 13
      try clear cP1_14
      have cP1_14 : World.cell? (w3) ⟨w.heap.size + 1, 14, none⟩ = some (.int .i64 bXEaten) := XP1.out.cell 14
      go_wp2
      go_ret
      exact ⟨rfl, HB4.out⟩
  have HB0 : Hid (Below w.heap.size w w) := Below.refl _ _
  have hgb := World.grownBy_alloc w (.cells #[.int .i64 aLW, .int .i64 aLH, .slice aLC_a aLC_L.length aLC_cap, .int .i64 aXBase, .int .i64 aRM, .int .i64 aRW, .slice aDp_a aDp_L.length aDp_cap, .int .i64 aPA, .int .i64 aPF, .slice aPC_a aPC_L.length aPC_cap, .slice aPP_a aPP_L.length aPP_cap, .slice aJn_a aJn_L.length aJn_cap, .int .i64 aXDay, .int .i64 aXGiven, .int .i64 aXEaten] 58 (0, 0)) none
  have HB1 := Lib.hid (HB0.out.grown hgb HB0.out.size (fun _ h => by cases h)); clear HB0
  have XP0 := Lib.hid (box_new w #[.int .i64 aLW, .int .i64 aLH, .slice aLC_a aLC_L.length aLC_cap, .int .i64 aXBase, .int .i64 aRM, .int .i64 aRW, .slice aDp_a aDp_L.length aDp_cap, .int .i64 aPA, .int .i64 aPF, .slice aPC_a aPC_L.length aPC_cap, .slice aPP_a aPP_L.length aPP_cap, .slice aJn_a aJn_L.length aJn_cap, .int .i64 aXDay, .int .i64 aXGiven, .int .i64 aXEaten] 58); clear hgb
  have hgb := World.grownBy_alloc (w.alloc (.cells #[.int .i64 aLW, .int .i64 aLH, .slice aLC_a aLC_L.length aLC_cap, .int .i64 aXBase, .int .i64 aRM, .int .i64 aRW, .slice aDp_a aDp_L.length aDp_cap, .int .i64 aPA, .int .i64 aPF, .slice aPC_a aPC_L.length aPC_cap, .slice aPP_a aPP_L.length aPP_cap, .slice aJn_a aJn_L.length aJn_cap, .int .i64 aXDay, .int .i64 aXGiven, .int .i64 aXEaten] 58 (0, 0))) (.cells #[.int .i64 bLW, .int .i64 bLH, .slice bLC_a bLC_L.length bLC_cap, .int .i64 bXBase, .int .i64 bRM, .int .i64 bRW, .slice bDp_a bDp_L.length bDp_cap, .int .i64 bPA, .int .i64 bPF, .slice bPC_a bPC_L.length bPC_cap, .slice bPP_a bPP_L.length bPP_cap, .slice bJn_a bJn_L.length bJn_cap, .int .i64 bXDay, .int .i64 bXGiven, .int .i64 bXEaten] 58 (0, 0)) none
  have HB2 := Lib.hid (HB1.out.grown hgb HB1.out.size (fun _ h => by cases h)); clear HB1
  have XP0 := Lib.hid (XP0.out.grown hgb)
  have XP1 := Lib.hid (box_new (w.alloc (.cells #[.int .i64 aLW, .int .i64 aLH, .slice aLC_a aLC_L.length aLC_cap, .int .i64 aXBase, .int .i64 aRM, .int .i64 aRW, .slice aDp_a aDp_L.length aDp_cap, .int .i64 aPA, .int .i64 aPF, .slice aPC_a aPC_L.length aPC_cap, .slice aPP_a aPP_L.length aPP_cap, .slice aJn_a aJn_L.length aJn_cap, .int .i64 aXDay, .int .i64 aXGiven, .int .i64 aXEaten] 58 (0, 0))) #[.int .i64 bLW, .int .i64 bLH, .slice bLC_a bLC_L.length bLC_cap, .int .i64 bXBase, .int .i64 bRM, .int .i64 bRW, .slice bDp_a bDp_L.length bDp_cap, .int .i64 bPA, .int .i64 bPF, .slice bPC_a bPC_L.length bPC_cap, .slice bPP_a bPP_L.length bPP_cap, .slice bJn_a bJn_L.length bJn_cap, .int .i64 bXDay, .int .i64 bXGiven, .int .i64 bXEaten] 58); clear hgb
  simp only [World.size_alloc] at XP1
  go_enter Try.func11, Try.ntmps11
  try clear cP0_0
  have cP0_0 : World.cell? ((w.alloc (.cells #[.int .i64 aLW, .int .i64 aLH, .slice aLC_a aLC_L.length aLC_cap, .int .i64 aXBase, .int .i64 aRM, .int .i64 aRW, .slice aDp_a aDp_L.length aDp_cap, .int .i64 aPA, .int .i64 aPF, .slice aPC_a aPC_L.length aPC_cap, .slice aPP_a aPP_L.length aPP_cap, .slice aJn_a aJn_L.length aJn_cap, .int .i64 aXDay, .int .i64 aXGiven, .int .i64 aXEaten] 58 (0, 0))).alloc (.cells #[.int .i64 bLW, .int .i64 bLH, .slice bLC_a bLC_L.length bLC_cap, .int .i64 bXBase, .int .i64 bRM, .int .i64 bRW, .slice bDp_a bDp_L.length bDp_cap, .int .i64 bPA, .int .i64 bPF, .slice bPC_a bPC_L.length bPC_cap, .slice bPP_a bPP_L.length bPP_cap, .slice bJn_a bJn_L.length bJn_cap, .int .i64 bXDay, .int .i64 bXGiven, .int .i64 bXEaten] 58 (0, 0))) ⟨w.heap.size, 0, none⟩ = some (.int .i64 aLW) := XP0.out.cell 0
  try clear cP0_1
  have cP0_1 : World.cell? ((w.alloc (.cells #[.int .i64 aLW, .int .i64 aLH, .slice aLC_a aLC_L.length aLC_cap, .int .i64 aXBase, .int .i64 aRM, .int .i64 aRW, .slice aDp_a aDp_L.length aDp_cap, .int .i64 aPA, .int .i64 aPF, .slice aPC_a aPC_L.length aPC_cap, .slice aPP_a aPP_L.length aPP_cap, .slice aJn_a aJn_L.length aJn_cap, .int .i64 aXDay, .int .i64 aXGiven, .int .i64 aXEaten] 58 (0, 0))).alloc (.cells #[.int .i64 bLW, .int .i64 bLH, .slice bLC_a bLC_L.length bLC_cap, .int .i64 bXBase, .int .i64 bRM, .int .i64 bRW, .slice bDp_a bDp_L.length bDp_cap, .int .i64 bPA, .int .i64 bPF, .slice bPC_a bPC_L.length bPC_cap, .slice bPP_a bPP_L.length bPP_cap, .slice bJn_a bJn_L.length bJn_cap, .int .i64 bXDay, .int .i64 bXGiven, .int .i64 bXEaten] 58 (0, 0))) ⟨w.heap.size, 1, none⟩ = some (.int .i64 aLH) := XP0.out.cell 1
  try clear cP0_2
  have cP0_2 : World.cell? ((w.alloc (.cells #[.int .i64 aLW, .int .i64 aLH, .slice aLC_a aLC_L.length aLC_cap, .int .i64 aXBase, .int .i64 aRM, .int .i64 aRW, .slice aDp_a aDp_L.length aDp_cap, .int .i64 aPA, .int .i64 aPF, .slice aPC_a aPC_L.length aPC_cap, .slice aPP_a aPP_L.length aPP_cap, .slice aJn_a aJn_L.length aJn_cap, .int .i64 aXDay, .int .i64 aXGiven, .int .i64 aXEaten] 58 (0, 0))).alloc (.cells #[.int .i64 bLW, .int .i64 bLH, .slice bLC_a bLC_L.length bLC_cap, .int .i64 bXBase, .int .i64 bRM, .int .i64 bRW, .slice bDp_a bDp_L.length bDp_cap, .int .i64 bPA, .int .i64 bPF, .slice bPC_a bPC_L.length bPC_cap, .slice bPP_a bPP_L.length bPP_cap, .slice bJn_a bJn_L.length bJn_cap, .int .i64 bXDay, .int .i64 bXGiven, .int .i64 bXEaten] 58 (0, 0))) ⟨w.heap.size, 2, none⟩ = some (.slice aLC_a aLC_L.length aLC_cap) := XP0.out.cell 2
  try clear cP0_3
  have cP0_3 : World.cell? ((w.alloc (.cells #[.int .i64 aLW, .int .i64 aLH, .slice aLC_a aLC_L.length aLC_cap, .int .i64 aXBase, .int .i64 aRM, .int .i64 aRW, .slice aDp_a aDp_L.length aDp_cap, .int .i64 aPA, .int .i64 aPF, .slice aPC_a aPC_L.length aPC_cap, .slice aPP_a aPP_L.length aPP_cap, .slice aJn_a aJn_L.length aJn_cap, .int .i64 aXDay, .int .i64 aXGiven, .int .i64 aXEaten] 58 (0, 0))).alloc (.cells #[.int .i64 bLW, .int .i64 bLH, .slice bLC_a bLC_L.length bLC_cap, .int .i64 bXBase, .int .i64 bRM, .int .i64 bRW, .slice bDp_a bDp_L.length bDp_cap, .int .i64 bPA, .int .i64 bPF, .slice bPC_a bPC_L.length bPC_cap, .slice bPP_a bPP_L.length bPP_cap, .slice bJn_a bJn_L.length bJn_cap, .int .i64 bXDay, .int .i64 bXGiven, .int .i64 bXEaten] 58 (0, 0))) ⟨w.heap.size, 3, none⟩ = some (.int .i64 aXBase) := XP0.out.cell 3
  try clear cP0_4
  have cP0_4 : World.cell? ((w.alloc (.cells #[.int .i64 aLW, .int .i64 aLH, .slice aLC_a aLC_L.length aLC_cap, .int .i64 aXBase, .int .i64 aRM, .int .i64 aRW, .slice aDp_a aDp_L.length aDp_cap, .int .i64 aPA, .int .i64 aPF, .slice aPC_a aPC_L.length aPC_cap, .slice aPP_a aPP_L.length aPP_cap, .slice aJn_a aJn_L.length aJn_cap, .int .i64 aXDay, .int .i64 aXGiven, .int .i64 aXEaten] 58 (0, 0))).alloc (.cells #[.int .i64 bLW, .int .i64 bLH, .slice bLC_a bLC_L.length bLC_cap, .int .i64 bXBase, .int .i64 bRM, .int .i64 bRW, .slice bDp_a bDp_L.length bDp_cap, .int .i64 bPA, .int .i64 bPF, .slice bPC_a bPC_L.length bPC_cap, .slice bPP_a bPP_L.length bPP_cap, .slice bJn_a bJn_L.length bJn_cap, .int .i64 bXDay, .int .i64 bXGiven, .int .i64 bXEaten] 58 (0, 0))) ⟨w.heap.size, 4, none⟩ = some (.int .i64 aRM) := XP0.out.cell 4
  try clear cP0_5
  have cP0_5 : World.cell? ((w.alloc (.cells #[.int .i64 aLW, .int .i64 aLH, .slice aLC_a aLC_L.length aLC_cap, .int .i64 aXBase, .int .i64 aRM, .int .i64 aRW, .slice aDp_a aDp_L.length aDp_cap, .int .i64 aPA, .int .i64 aPF, .slice aPC_a aPC_L.length aPC_cap, .slice aPP_a aPP_L.length aPP_cap, .slice aJn_a aJn_L.length aJn_cap, .int .i64 aXDay, .int .i64 aXGiven, .int .i64 aXEaten] 58 (0, 0))).alloc (.cells #[.int .i64 bLW, .int .i64 bLH, .slice bLC_a bLC_L.length bLC_cap, .int .i64 bXBase, .int .i64 bRM, .int .i64 bRW, .slice bDp_a bDp_L.length bDp_cap, .int .i64 bPA, .int .i64 bPF, .slice bPC_a bPC_L.length bPC_cap, .slice bPP_a bPP_L.length bPP_cap, .slice bJn_a bJn_L.length bJn_cap, .int .i64 bXDay, .int .i64 bXGiven, .int .i64 bXEaten] 58 (0, 0))) ⟨w.heap.size, 5, none⟩ = some (.int .i64 aRW) := XP0.out.cell 5
  try clear cP0_6
  have cP0_6 : World.cell? ((w.alloc (.cells #[.int .i64 aLW, .int .i64 aLH, .slice aLC_a aLC_L.length aLC_cap, .int .i64 aXBase, .int .i64 aRM, .int .i64 aRW, .slice aDp_a aDp_L.length aDp_cap, .int .i64 aPA, .int .i64 aPF, .slice aPC_a aPC_L.length aPC_cap, .slice aPP_a aPP_L.length aPP_cap, .slice aJn_a aJn_L.length aJn_cap, .int .i64 aXDay, .int .i64 aXGiven, .int .i64 aXEaten] 58 (0, 0))).alloc (.cells #[.int .i64 bLW, .int .i64 bLH, .slice bLC_a bLC_L.length bLC_cap, .int .i64 bXBase, .int .i64 bRM, .int .i64 bRW, .slice bDp_a bDp_L.length bDp_cap, .int .i64 bPA, .int .i64 bPF, .slice bPC_a bPC_L.length bPC_cap, .slice bPP_a bPP_L.length bPP_cap, .slice bJn_a bJn_L.length bJn_cap, .int .i64 bXDay, .int .i64 bXGiven, .int .i64 bXEaten] 58 (0, 0))) ⟨w.heap.size, 6, none⟩ = some (.slice aDp_a aDp_L.length aDp_cap) := XP0.out.cell 6
  try clear cP0_7
  have cP0_7 : World.cell? ((w.alloc (.cells #[.int .i64 aLW, .int .i64 aLH, .slice aLC_a aLC_L.length aLC_cap, .int .i64 aXBase, .int .i64 aRM, .int .i64 aRW, .slice aDp_a aDp_L.length aDp_cap, .int .i64 aPA, .int .i64 aPF, .slice aPC_a aPC_L.length aPC_cap, .slice aPP_a aPP_L.length aPP_cap, .slice aJn_a aJn_L.length aJn_cap, .int .i64 aXDay, .int .i64 aXGiven, .int .i64 aXEaten] 58 (0, 0))).alloc (.cells #[.int .i64 bLW, .int .i64 bLH, .slice bLC_a bLC_L.length bLC_cap, .int .i64 bXBase, .int .i64 bRM, .int .i64 bRW, .slice bDp_a bDp_L.length bDp_cap, .int .i64 bPA, .int .i64 bPF, .slice bPC_a bPC_L.length bPC_cap, .slice bPP_a bPP_L.length bPP_cap, .slice bJn_a bJn_L.length bJn_cap, .int .i64 bXDay, .int .i64 bXGiven, .int .i64 bXEaten] 58 (0, 0))) ⟨w.heap.size, 7, none⟩ = some (.int .i64 aPA) := XP0.out.cell 7
  try clear cP0_8
  have cP0_8 : World.cell? ((w.alloc (.cells #[.int .i64 aLW, .int .i64 aLH, .slice aLC_a aLC_L.length aLC_cap, .int .i64 aXBase, .int .i64 aRM, .int .i64 aRW, .slice aDp_a aDp_L.length aDp_cap, .int .i64 aPA, .int .i64 aPF, .slice aPC_a aPC_L.length aPC_cap, .slice aPP_a aPP_L.length aPP_cap, .slice aJn_a aJn_L.length aJn_cap, .int .i64 aXDay, .int .i64 aXGiven, .int .i64 aXEaten] 58 (0, 0))).alloc (.cells #[.int .i64 bLW, .int .i64 bLH, .slice bLC_a bLC_L.length bLC_cap, .int .i64 bXBase, .int .i64 bRM, .int .i64 bRW, .slice bDp_a bDp_L.length bDp_cap, .int .i64 bPA, .int .i64 bPF, .slice bPC_a bPC_L.length bPC_cap, .slice bPP_a bPP_L.length bPP_cap, .slice bJn_a bJn_L.length bJn_cap, .int .i64 bXDay, .int .i64 bXGiven, .int .i64 bXEaten] 58 (0, 0))) ⟨w.heap.size, 8, none⟩ = some (.int .i64 aPF) := XP0.out.cell 8
  try clear cP0_9
  have cP0_9 : World.cell? ((w.alloc (.cells #[.int .i64 aLW, .int .i64 aLH, .slice aLC_a aLC_L.length aLC_cap, .int .i64 aXBase, .int .i64 aRM, .int .i64 aRW, .slice aDp_a aDp_L.length aDp_cap, .int .i64 aPA, .int .i64 aPF, .slice aPC_a aPC_L.length aPC_cap, .slice aPP_a aPP_L.length aPP_cap, .slice aJn_a aJn_L.length aJn_cap, .int .i64 aXDay, .int .i64 aXGiven, .int .i64 aXEaten] 58 (0, 0))).alloc (.cells #[.int .i64 bLW, .int .i64 bLH, .slice bLC_a bLC_L.length bLC_cap, .int .i64 bXBase, .int .i64 bRM, .int .i64 bRW, .slice bDp_a bDp_L.length bDp_cap, .int .i64 bPA, .int .i64 bPF, .slice bPC_a bPC_L.length bPC_cap, .slice bPP_a bPP_L.length bPP_cap, .slice bJn_a bJn_L.length bJn_cap, .int .i64 bXDay, .int .i64 bXGiven, .int .i64 bXEaten] 58 (0, 0))) ⟨w.heap.size, 9, none⟩ = some (.slice aPC_a aPC_L.length aPC_cap) := XP0.out.cell 9
  try clear cP0_10
  have cP0_10 : World.cell? ((w.alloc (.cells #[.int .i64 aLW, .int .i64 aLH, .slice aLC_a aLC_L.length aLC_cap, .int .i64 aXBase, .int .i64 aRM, .int .i64 aRW, .slice aDp_a aDp_L.length aDp_cap, .int .i64 aPA, .int .i64 aPF, .slice aPC_a aPC_L.length aPC_cap, .slice aPP_a aPP_L.length aPP_cap, .slice aJn_a aJn_L.length aJn_cap, .int .i64 aXDay, .int .i64 aXGiven, .int .i64 aXEaten] 58 (0, 0))).alloc (.cells #[.int .i64 bLW, .int .i64 bLH, .slice bLC_a bLC_L.length bLC_cap, .int .i64 bXBase, .int .i64 bRM, .int .i64 bRW, .slice bDp_a bDp_L.length bDp_cap, .int .i64 bPA, .int .i64 bPF, .slice bPC_a bPC_L.length bPC_cap, .slice bPP_a bPP_L.length bPP_cap, .slice bJn_a bJn_L.length bJn_cap, .int .i64 bXDay, .int .i64 bXGiven, .int .i64 bXEaten] 58 (0, 0))) ⟨w.heap.size, 10, none⟩ = some (.slice aPP_a aPP_L.length aPP_cap) := XP0.out.cell 10
  try clear cP0_11
  have cP0_11 : World.cell? ((w.alloc (.cells #[.int .i64 aLW, .int .i64 aLH, .slice aLC_a aLC_L.length aLC_cap, .int .i64 aXBase, .int .i64 aRM, .int .i64 aRW, .slice aDp_a aDp_L.length aDp_cap, .int .i64 aPA, .int .i64 aPF, .slice aPC_a aPC_L.length aPC_cap, .slice aPP_a aPP_L.length aPP_cap, .slice aJn_a aJn_L.length aJn_cap, .int .i64 aXDay, .int .i64 aXGiven, .int .i64 aXEaten] 58 (0, 0))).alloc (.cells #[.int .i64 bLW, .int .i64 bLH, .slice bLC_a bLC_L.length bLC_cap, .int .i64 bXBase, .int .i64 bRM, .int .i64 bRW, .slice bDp_a bDp_L.length bDp_cap, .int .i64 bPA, .int .i64 bPF, .slice bPC_a bPC_L.length bPC_cap, .slice bPP_a bPP_L.length bPP_cap, .slice bJn_a bJn_L.length bJn_cap, .int .i64 bXDay, .int .i64 bXGiven, .int .i64 bXEaten] 58 (0, 0))) ⟨w.heap.size, 11, none⟩ = some (.slice aJn_a aJn_L.length aJn_cap) := XP0.out.cell 11
  try clear cP0_12
  have cP0_12 : World.cell? ((w.alloc (.cells #[.int .i64 aLW, .int .i64 aLH, .slice aLC_a aLC_L.length aLC_cap, .int .i64 aXBase, .int .i64 aRM, .int .i64 aRW, .slice aDp_a aDp_L.length aDp_cap, .int .i64 aPA, .int .i64 aPF, .slice aPC_a aPC_L.length aPC_cap, .slice aPP_a aPP_L.length aPP_cap, .slice aJn_a aJn_L.length aJn_cap, .int .i64 aXDay, .int .i64 aXGiven, .int .i64 aXEaten] 58 (0, 0))).alloc (.cells #[.int .i64 bLW, .int .i64 bLH, .slice bLC_a bLC_L.length bLC_cap, .int .i64 bXBase, .int .i64 bRM, .int .i64 bRW, .slice bDp_a bDp_L.length bDp_cap, .int .i64 bPA, .int .i64 bPF, .slice bPC_a bPC_L.length bPC_cap, .slice bPP_a bPP_L.length bPP_cap, .slice bJn_a bJn_L.length bJn_cap, .int .i64 bXDay, .int .i64 bXGiven, .int .i64 bXEaten] 58 (0, 0))) ⟨w.heap.size, 12, none⟩ = some (.int .i64 aXDay) := XP0.out.cell 12
  try clear cP0_13
  have cP0_13 : World.cell? ((w.alloc (.cells #[.int .i64 aLW, .int .i64 aLH, .slice aLC_a aLC_L.length aLC_cap, .int .i64 aXBase, .int .i64 aRM, .int .i64 aRW, .slice aDp_a aDp_L.length aDp_cap, .int .i64 aPA, .int .i64 aPF, .slice aPC_a aPC_L.length aPC_cap, .slice aPP_a aPP_L.length aPP_cap, .slice aJn_a aJn_L.length aJn_cap, .int .i64 aXDay, .int .i64 aXGiven, .int .i64 aXEaten] 58 (0, 0))).alloc (.cells #[.int .i64 bLW, .int .i64 bLH, .slice bLC_a bLC_L.length bLC_cap, .int .i64 bXBase, .int .i64 bRM, .int .i64 bRW, .slice bDp_a bDp_L.length bDp_cap, .int .i64 bPA, .int .i64 bPF, .slice bPC_a bPC_L.length bPC_cap, .slice bPP_a bPP_L.length bPP_cap, .slice bJn_a bJn_L.length bJn_cap, .int .i64 bXDay, .int .i64 bXGiven, .int .i64 bXEaten] 58 (0, 0))) ⟨w.heap.size, 13, none⟩ = some (.int .i64 aXGiven) := XP0.out.cell 13
  try clear cP0_14
  have cP0_14 : World.cell? ((w.alloc (.cells #[.int .i64 aLW, .int .i64 aLH, .slice aLC_a aLC_L.length aLC_cap, .int .i64 aXBase, .int .i64 aRM, .int .i64 aRW, .slice aDp_a aDp_L.length aDp_cap, .int .i64 aPA, .int .i64 aPF, .slice aPC_a aPC_L.length aPC_cap, .slice aPP_a aPP_L.length aPP_cap, .slice aJn_a aJn_L.length aJn_cap, .int .i64 aXDay, .int .i64 aXGiven, .int .i64 aXEaten] 58 (0, 0))).alloc (.cells #[.int .i64 bLW, .int .i64 bLH, .slice bLC_a bLC_L.length bLC_cap, .int .i64 bXBase, .int .i64 bRM, .int .i64 bRW, .slice bDp_a bDp_L.length bDp_cap, .int .i64 bPA, .int .i64 bPF, .slice bPC_a bPC_L.length bPC_cap, .slice bPP_a bPP_L.length bPP_cap, .slice bJn_a bJn_L.length bJn_cap, .int .i64 bXDay, .int .i64 bXGiven, .int .i64 bXEaten] 58 (0, 0))) ⟨w.heap.size, 14, none⟩ = some (.int .i64 aXEaten) := XP0.out.cell 14
  try clear cP1_0
  have cP1_0 : World.cell? ((w.alloc (.cells #[.int .i64 aLW, .int .i64 aLH, .slice aLC_a aLC_L.length aLC_cap, .int .i64 aXBase, .int .i64 aRM, .int .i64 aRW, .slice aDp_a aDp_L.length aDp_cap, .int .i64 aPA, .int .i64 aPF, .slice aPC_a aPC_L.length aPC_cap, .slice aPP_a aPP_L.length aPP_cap, .slice aJn_a aJn_L.length aJn_cap, .int .i64 aXDay, .int .i64 aXGiven, .int .i64 aXEaten] 58 (0, 0))).alloc (.cells #[.int .i64 bLW, .int .i64 bLH, .slice bLC_a bLC_L.length bLC_cap, .int .i64 bXBase, .int .i64 bRM, .int .i64 bRW, .slice bDp_a bDp_L.length bDp_cap, .int .i64 bPA, .int .i64 bPF, .slice bPC_a bPC_L.length bPC_cap, .slice bPP_a bPP_L.length bPP_cap, .slice bJn_a bJn_L.length bJn_cap, .int .i64 bXDay, .int .i64 bXGiven, .int .i64 bXEaten] 58 (0, 0))) ⟨w.heap.size + 1, 0, none⟩ = some (.int .i64 bLW) := XP1.out.cell 0
  try clear cP1_1
  have cP1_1 : World.cell? ((w.alloc (.cells #[.int .i64 aLW, .int .i64 aLH, .slice aLC_a aLC_L.length aLC_cap, .int .i64 aXBase, .int .i64 aRM, .int .i64 aRW, .slice aDp_a aDp_L.length aDp_cap, .int .i64 aPA, .int .i64 aPF, .slice aPC_a aPC_L.length aPC_cap, .slice aPP_a aPP_L.length aPP_cap, .slice aJn_a aJn_L.length aJn_cap, .int .i64 aXDay, .int .i64 aXGiven, .int .i64 aXEaten] 58 (0, 0))).alloc (.cells #[.int .i64 bLW, .int .i64 bLH, .slice bLC_a bLC_L.length bLC_cap, .int .i64 bXBase, .int .i64 bRM, .int .i64 bRW, .slice bDp_a bDp_L.length bDp_cap, .int .i64 bPA, .int .i64 bPF, .slice bPC_a bPC_L.length bPC_cap, .slice bPP_a bPP_L.length bPP_cap, .slice bJn_a bJn_L.length bJn_cap, .int .i64 bXDay, .int .i64 bXGiven, .int .i64 bXEaten] 58 (0, 0))) ⟨w.heap.size + 1, 1, none⟩ = some (.int .i64 bLH) := XP1.out.cell 1
  try clear cP1_2
  have cP1_2 : World.cell? ((w.alloc (.cells #[.int .i64 aLW, .int .i64 aLH, .slice aLC_a aLC_L.length aLC_cap, .int .i64 aXBase, .int .i64 aRM, .int .i64 aRW, .slice aDp_a aDp_L.length aDp_cap, .int .i64 aPA, .int .i64 aPF, .slice aPC_a aPC_L.length aPC_cap, .slice aPP_a aPP_L.length aPP_cap, .slice aJn_a aJn_L.length aJn_cap, .int .i64 aXDay, .int .i64 aXGiven, .int .i64 aXEaten] 58 (0, 0))).alloc (.cells #[.int .i64 bLW, .int .i64 bLH, .slice bLC_a bLC_L.length bLC_cap, .int .i64 bXBase, .int .i64 bRM, .int .i64 bRW, .slice bDp_a bDp_L.length bDp_cap, .int .i64 bPA, .int .i64 bPF, .slice bPC_a bPC_L.length bPC_cap, .slice bPP_a bPP_L.length bPP_cap, .slice bJn_a bJn_L.length bJn_cap, .int .i64 bXDay, .int .i64 bXGiven, .int .i64 bXEaten] 58 (0, 0))) ⟨w.heap.size + 1, 2, none⟩ = some (.slice bLC_a bLC_L.length bLC_cap) := XP1.out.cell 2
  try clear cP1_3
  have cP1_3 : World.cell? ((w.alloc (.cells #[.int .i64 aLW, .int .i64 aLH, .slice aLC_a aLC_L.length aLC_cap, .int .i64 aXBase, .int .i64 aRM, .int .i64 aRW, .slice aDp_a aDp_L.length aDp_cap, .int .i64 aPA, .int .i64 aPF, .slice aPC_a aPC_L.length aPC_cap, .slice aPP_a aPP_L.length aPP_cap, .slice aJn_a aJn_L.length aJn_cap, .int .i64 aXDay, .int .i64 aXGiven, .int .i64 aXEaten] 58 (0, 0))).alloc (.cells #[.int .i64 bLW, .int .i64 bLH, .slice bLC_a bLC_L.length bLC_cap, .int .i64 bXBase, .int .i64 bRM, .int .i64 bRW, .slice bDp_a bDp_L.length bDp_cap, .int .i64 bPA, .int .i64 bPF, .slice bPC_a bPC_L.length bPC_cap, .slice bPP_a bPP_L.length bPP_cap, .slice bJn_a bJn_L.length bJn_cap, .int .i64 bXDay, .int .i64 bXGiven, .int .i64 bXEaten] 58 (0, 0))) ⟨w.heap.size + 1, 3, none⟩ = some (.int .i64 bXBase) := XP1.out.cell 3
  try clear cP1_4
  have cP1_4 : World.cell? ((w.alloc (.cells #[.int .i64 aLW, .int .i64 aLH, .slice aLC_a aLC_L.length aLC_cap, .int .i64 aXBase, .int .i64 aRM, .int .i64 aRW, .slice aDp_a aDp_L.length aDp_cap, .int .i64 aPA, .int .i64 aPF, .slice aPC_a aPC_L.length aPC_cap, .slice aPP_a aPP_L.length aPP_cap, .slice aJn_a aJn_L.length aJn_cap, .int .i64 aXDay, .int .i64 aXGiven, .int .i64 aXEaten] 58 (0, 0))).alloc (.cells #[.int .i64 bLW, .int .i64 bLH, .slice bLC_a bLC_L.length bLC_cap, .int .i64 bXBase, .int .i64 bRM, .int .i64 bRW, .slice bDp_a bDp_L.length bDp_cap, .int .i64 bPA, .int .i64 bPF, .slice bPC_a bPC_L.length bPC_cap, .slice bPP_a bPP_L.length bPP_cap, .slice bJn_a bJn_L.length bJn_cap, .int .i64 bXDay, .int .i64 bXGiven, .int .i64 bXEaten] 58 (0, 0))) ⟨w.heap.size + 1, 4, none⟩ = some (.int .i64 bRM) := XP1.out.cell 4
  try clear cP1_5
  have cP1_5 : World.cell? ((w.alloc (.cells #[.int .i64 aLW, .int .i64 aLH, .slice aLC_a aLC_L.length aLC_cap, .int .i64 aXBase, .int .i64 aRM, .int .i64 aRW, .slice aDp_a aDp_L.length aDp_cap, .int .i64 aPA, .int .i64 aPF, .slice aPC_a aPC_L.length aPC_cap, .slice aPP_a aPP_L.length aPP_cap, .slice aJn_a aJn_L.length aJn_cap, .int .i64 aXDay, .int .i64 aXGiven, .int .i64 aXEaten] 58 (0, 0))).alloc (.cells #[.int .i64 bLW, .int .i64 bLH, .slice bLC_a bLC_L.length bLC_cap, .int .i64 bXBase, .int .i64 bRM, .int .i64 bRW, .slice bDp_a bDp_L.length bDp_cap, .int .i64 bPA, .int .i64 bPF, .slice bPC_a bPC_L.length bPC_cap, .slice bPP_a bPP_L.length bPP_cap, .slice bJn_a bJn_L.length bJn_cap, .int .i64 bXDay, .int .i64 bXGiven, .int .i64 bXEaten] 58 (0, 0))) ⟨w.heap.size + 1, 5, none⟩ = some (.int .i64 bRW) := XP1.out.cell 5
  try clear cP1_6
  have cP1_6 : World.cell? ((w.alloc (.cells #[.int .i64 aLW, .int .i64 aLH, .slice aLC_a aLC_L.length aLC_cap, .int .i64 aXBase, .int .i64 aRM, .int .i64 aRW, .slice aDp_a aDp_L.length aDp_cap, .int .i64 aPA, .int .i64 aPF, .slice aPC_a aPC_L.length aPC_cap, .slice aPP_a aPP_L.length aPP_cap, .slice aJn_a aJn_L.length aJn_cap, .int .i64 aXDay, .int .i64 aXGiven, .int .i64 aXEaten] 58 (0, 0))).alloc (.cells #[.int .i64 bLW, .int .i64 bLH, .slice bLC_a bLC_L.length bLC_cap, .int .i64 bXBase, .int .i64 bRM, .int .i64 bRW, .slice bDp_a bDp_L.length bDp_cap, .int .i64 bPA, .int .i64 bPF, .slice bPC_a bPC_L.length bPC_cap, .slice bPP_a bPP_L.length bPP_cap, .slice bJn_a bJn_L.length bJn_cap, .int .i64 bXDay, .int .i64 bXGiven, .int .i64 bXEaten] 58 (0, 0))) ⟨w.heap.size + 1, 6, none⟩ = some (.slice bDp_a bDp_L.length bDp_cap) := XP1.out.cell 6
  try clear cP1_7
  have cP1_7 : World.cell? ((w.alloc (.cells #[.int .i64 aLW, .int .i64 aLH, .slice aLC_a aLC_L.length aLC_cap, .int .i64 aXBase, .int .i64 aRM, .int .i64 aRW, .slice aDp_a aDp_L.length aDp_cap, .int .i64 aPA, .int .i64 aPF, .slice aPC_a aPC_L.length aPC_cap, .slice aPP_a aPP_L.length aPP_cap, .slice aJn_a aJn_L.length aJn_cap, .int .i64 aXDay, .int .i64 aXGiven, .int .i64 aXEaten] 58 (0, 0))).alloc (.cells #[.int .i64 bLW, .int .i64 bLH, .slice bLC_a bLC_L.length bLC_cap, .int .i64 bXBase, .int .i64 bRM, .int .i64 bRW, .slice bDp_a bDp_L.length bDp_cap, .int .i64 bPA, .int .i64 bPF, .slice bPC_a bPC_L.length bPC_cap, .slice bPP_a bPP_L.length bPP_cap, .slice bJn_a bJn_L.length bJn_cap, .int .i64 bXDay, .int .i64 bXGiven, .int .i64 bXEaten] 58 (0, 0))) ⟨w.heap.size + 1, 7, none⟩ = some (.int .i64 bPA) := XP1.out.cell 7
  try clear cP1_8
  have cP1_8 : World.cell? ((w.alloc (.cells #[.int .i64 aLW, .int .i64 aLH, .slice aLC_a aLC_L.length aLC_cap, .int .i64 aXBase, .int .i64 aRM, .int .i64 aRW, .slice aDp_a aDp_L.length aDp_cap, .int .i64 aPA, .int .i64 aPF, .slice aPC_a aPC_L.length aPC_cap, .slice aPP_a aPP_L.length aPP_cap, .slice aJn_a aJn_L.length aJn_cap, .int .i64 aXDay, .int .i64 aXGiven, .int .i64 aXEaten] 58 (0, 0))).alloc (.cells #[.int .i64 bLW, .int .i64 bLH, .slice bLC_a bLC_L.length bLC_cap, .int .i64 bXBase, .int .i64 bRM, .int .i64 bRW, .slice bDp_a bDp_L.length bDp_cap, .int .i64 bPA, .int .i64 bPF, .slice bPC_a bPC_L.length bPC_cap, .slice bPP_a bPP_L.length bPP_cap, .slice bJn_a bJn_L.length bJn_cap, .int .i64 bXDay, .int .i64 bXGiven, .int .i64 bXEaten] 58 (0, 0))) ⟨w.heap.size + 1, 8, none⟩ = some (.int .i64 bPF) := XP1.out.cell 8
  try clear cP1_9
  have cP1_9 : World.cell? ((w.alloc (.cells #[.int .i64 aLW, .int .i64 aLH, .slice aLC_a aLC_L.length aLC_cap, .int .i64 aXBase, .int .i64 aRM, .int .i64 aRW, .slice aDp_a aDp_L.length aDp_cap, .int .i64 aPA, .int .i64 aPF, .slice aPC_a aPC_L.length aPC_cap, .slice aPP_a aPP_L.length aPP_cap, .slice aJn_a aJn_L.length aJn_cap, .int .i64 aXDay, .int .i64 aXGiven, .int .i64 aXEaten] 58 (0, 0))).alloc (.cells #[.int .i64 bLW, .int .i64 bLH, .slice bLC_a bLC_L.length bLC_cap, .int .i64 bXBase, .int .i64 bRM, .int .i64 bRW, .slice bDp_a bDp_L.length bDp_cap, .int .i64 bPA, .int .i64 bPF, .slice bPC_a bPC_L.length bPC_cap, .slice bPP_a bPP_L.length bPP_cap, .slice bJn_a bJn_L.length bJn_cap, .int .i64 bXDay, .int .i64 bXGiven, .int .i64 bXEaten] 58 (0, 0))) ⟨w.heap.size + 1, 9, none⟩ = some (.slice bPC_a bPC_L.length bPC_cap) := XP1.out.cell 9
  try clear cP1_10
  have cP1_10 : World.cell? ((w.alloc (.cells #[.int .i64 aLW, .int .i64 aLH, .slice aLC_a aLC_L.length aLC_cap, .int .i64 aXBase, .int .i64 aRM, .int .i64 aRW, .slice aDp_a aDp_L.length aDp_cap, .int .i64 aPA, .int .i64 aPF, .slice aPC_a aPC_L.length aPC_cap, .slice aPP_a aPP_L.length aPP_cap, .slice aJn_a aJn_L.length aJn_cap, .int .i64 aXDay, .int .i64 aXGiven, .int .i64 aXEaten] 58 (0, 0))).alloc (.cells #[.int .i64 bLW, .int .i64 bLH, .slice bLC_a bLC_L.length bLC_cap, .int .i64 bXBase, .int .i64 bRM, .int .i64 bRW, .slice bDp_a bDp_L.length bDp_cap, .int .i64 bPA, .int .i64 bPF, .slice bPC_a bPC_L.length bPC_cap, .slice bPP_a bPP_L.length bPP_cap, .slice bJn_a bJn_L.length bJn_cap, .int .i64 bXDay, .int .i64 bXGiven, .int .i64 bXEaten] 58 (0, 0))) ⟨w.heap.size + 1, 10, none⟩ = some (.slice bPP_a bPP_L.length bPP_cap) := XP1.out.cell 10
  try clear cP1_11
  have cP1_11 : World.cell? ((w.alloc (.cells #[.int .i64 aLW, .int .i64 aLH, .slice aLC_a aLC_L.length aLC_cap, .int .i64 aXBase, .int .i64 aRM, .int .i64 aRW, .slice aDp_a aDp_L.length aDp_cap, .int .i64 aPA, .int .i64 aPF, .slice aPC_a aPC_L.length aPC_cap, .slice aPP_a aPP_L.length aPP_cap, .slice aJn_a aJn_L.length aJn_cap, .int .i64 aXDay, .int .i64 aXGiven, .int .i64 aXEaten] 58 (0, 0))).alloc (.cells #[.int .i64 bLW, .int .i64 bLH, .slice bLC_a bLC_L.length bLC_cap, .int .i64 bXBase, .int .i64 bRM, .int .i64 bRW, .slice bDp_a bDp_L.length bDp_cap, .int .i64 bPA, .int .i64 bPF, .slice bPC_a bPC_L.length bPC_cap, .slice bPP_a bPP_L.length bPP_cap, .slice bJn_a bJn_L.length bJn_cap, .int .i64 bXDay, .int .i64 bXGiven, .int .i64 bXEaten] 58 (0, 0))) ⟨w.heap.size + 1, 11, none⟩ = some (.slice bJn_a bJn_L.length bJn_cap) := XP1.out.cell 11
  try clear cP1_12
  have cP1_12 : World.cell? ((w.alloc (.cells #[.int .i64 aLW, .int .i64 aLH, .slice aLC_a aLC_L.length aLC_cap, .int .i64 aXBase, .int .i64 aRM, .int .i64 aRW, .slice aDp_a aDp_L.length aDp_cap, .int .i64 aPA, .int .i64 aPF, .slice aPC_a aPC_L.length aPC_cap, .slice aPP_a aPP_L.length aPP_cap, .slice aJn_a aJn_L.length aJn_cap, .int .i64 aXDay, .int .i64 aXGiven, .int .i64 aXEaten] 58 (0, 0))).alloc (.cells #[.int .i64 bLW, .int .i64 bLH, .slice bLC_a bLC_L.length bLC_cap, .int .i64 bXBase, .int .i64 bRM, .int .i64 bRW, .slice bDp_a bDp_L.length bDp_cap, .int .i64 bPA, .int .i64 bPF, .slice bPC_a bPC_L.length bPC_cap, .slice bPP_a bPP_L.length bPP_cap, .slice bJn_a bJn_L.length bJn_cap, .int .i64 bXDay, .int .i64 bXGiven, .int .i64 bXEaten] 58 (0, 0))) ⟨w.heap.size + 1, 12, none⟩ = some (.int .i64 bXDay) := XP1.out.cell 12
  try clear cP1_13
  have cP1_13 : World.cell? ((w.alloc (.cells #[.int .i64 aLW, .int .i64 aLH, .slice aLC_a aLC_L.length aLC_cap, .int .i64 aXBase, .int .i64 aRM, .int .i64 aRW, .slice aDp_a aDp_L.length aDp_cap, .int .i64 aPA, .int .i64 aPF, .slice aPC_a aPC_L.length aPC_cap, .slice aPP_a aPP_L.length aPP_cap, .slice aJn_a aJn_L.length aJn_cap, .int .i64 aXDay, .int .i64 aXGiven, .int .i64 aXEaten] 58 (0, 0))).alloc (.cells #[.int .i64 bLW, .int .i64 bLH, .slice bLC_a bLC_L.length bLC_cap, .int .i64 bXBase, .int .i64 bRM, .int .i64 bRW, .slice bDp_a bDp_L.length bDp_cap, .int .i64 bPA, .int .i64 bPF, .slice bPC_a bPC_L.length bPC_cap, .slice bPP_a bPP_L.length bPP_cap, .slice bJn_a bJn_L.length bJn_cap, .int .i64 bXDay, .int .i64 bXGiven, .int .i64 bXEaten] 58 (0, 0))) ⟨w.heap.size + 1, 13, none⟩ = some (.int .i64 bXGiven) := XP1.out.cell 13
  try clear cP1_14
  have cP1_14 : World.cell? ((w.alloc (.cells #[.int .i64 aLW, .int .i64 aLH, .slice aLC_a aLC_L.length aLC_cap, .int .i64 aXBase, .int .i64 aRM, .int .i64 aRW, .slice aDp_a aDp_L.length aDp_cap, .int .i64 aPA, .int .i64 aPF, .slice aPC_a aPC_L.length aPC_cap, .slice aPP_a aPP_L.length aPP_cap, .slice aJn_a aJn_L.length aJn_cap, .int .i64 aXDay, .int .i64 aXGiven, .int .i64 aXEaten] 58 (0, 0))).alloc (.cells #[.int .i64 bLW, .int .i64 bLH, .slice bLC_a bLC_L.length bLC_cap, .int .i64 bXBase, .int .i64 bRM, .int .i64 bRW, .slice bDp_a bDp_L.length bDp_cap, .int .i64 bPA, .int .i64 bPF, .slice bPC_a bPC_L.length bPC_cap, .slice bPP_a bPP_L.length bPP_cap, .slice bJn_a bJn_L.length bJn_cap, .int .i64 bXDay, .int .i64 bXGiven, .int .i64 bXEaten] 58 (0, 0))) ⟨w.heap.size + 1, 14, none⟩ = some (.int .i64 bXEaten) := XP1.out.cell 14
  go_wp2_with fail
  generalize (w.alloc (.cells #[.int .i64 aLW, .int .i64 aLH, .slice aLC_a aLC_L.length aLC_cap, .int .i64 aXBase, .int .i64 aRM, .int .i64 aRW, .slice aDp_a aDp_L.length aDp_cap, .int .i64 aPA, .int .i64 aPF, .slice aPC_a aPC_L.length aPC_cap, .slice aPP_a aPP_L.length aPP_cap, .slice aJn_a aJn_L.length aJn_cap, .int .i64 aXDay, .int .i64 aXGiven, .int .i64 aXEaten] 58 (0, 0))).alloc (.cells #[.int .i64 bLW, .int .i64 bLH, .slice bLC_a bLC_L.length bLC_cap, .int .i64 bXBase, .int .i64 bRM, .int .i64 bRW, .slice bDp_a bDp_L.length bDp_cap, .int .i64 bPA, .int .i64 bPF, .slice bPC_a bPC_L.length bPC_cap, .slice bPP_a bPP_L.length bPP_cap, .slice bJn_a bJn_L.length bJn_cap, .int .i64 bXDay, .int .i64 bXGiven, .int .i64 bXEaten] 58 (0, 0)) = w1 at *
  refine (TrekL.szTrek_yes w1 aLW aLH aXBase aRM aRW aPA aPF aXDay aXGiven aXEaten _ _ _ _ _ _ _ _ _ _ (1048576 : Int) (aLC_S.out.below HB2.out) (aDp_S.out.below HB2.out) (aPC_S.out.below HB2.out) (aPP_S.out.below HB2.out) (aJn_S.out.below HB2.out) (by omega) (by omega) (by omega)).mono ?_
  rintro e w2 ⟨rfl, hg⟩
  as_aux_lemma =>
    have HB3 := Lib.hid (HB2.out.grown hg HB2.out.size (fun _ h => by cases h)); clear HB2
    have XP0 := Lib.hid (XP0.out.grown hg)
    have XP1 := Lib.hid (XP1.out.grown hg)
    clear hg
    try clear cP0_0
    have cP0_0 : World.cell? (w2) ⟨w.heap.size, 0, none⟩ = some (.int .i64 aLW) := XP0.out.cell 0
    try clear cP0_1
    have cP0_1 : World.cell? (w2) ⟨w.heap.size, 1, none⟩ = some (.int .i64 aLH) := XP0.out.cell 1
    try clear cP0_2
    have cP0_2 : World.cell? (w2) ⟨w.heap.size, 2, none⟩ = some (.slice aLC_a aLC_L.length aLC_cap) := XP0.out.cell 2
    try clear cP0_3
    have cP0_3 : World.cell? (w2) ⟨w.heap.size, 3, none⟩ = some (.int .i64 aXBase) := XP0.out.cell 3
    try clear cP0_4
    have cP0_4 : World.cell? (w2) ⟨w.heap.size, 4, none⟩ = some (.int .i64 aRM) := XP0.out.cell 4
    try clear cP0_5
    have cP0_5 : World.cell? (w2) ⟨w.heap.size, 5, none⟩ = some (.int .i64 aRW) := XP0.out.cell 5
    try clear cP0_6
    have cP0_6 : World.cell? (w2) ⟨w.heap.size, 6, none⟩ = some (.slice aDp_a aDp_L.length aDp_cap) := XP0.out.cell 6
    try clear cP0_7
    have cP0_7 : World.cell? (w2) ⟨w.heap.size, 7, none⟩ = some (.int .i64 aPA) := XP0.out.cell 7
    try clear cP0_8
    have cP0_8 : World.cell? (w2) ⟨w.heap.size, 8, none⟩ = some (.int .i64 aPF) := XP0.out.cell 8
    try clear cP0_9
    have cP0_9 : World.cell? (w2) ⟨w.heap.size, 9, none⟩ = some (.slice aPC_a aPC_L.length aPC_cap) := XP0.out.cell 9
    try clear cP0_10
    have cP0_10 : World.cell? (w2) ⟨w.heap.size, 10, none⟩ = some (.slice aPP_a aPP_L.length aPP_cap) := XP0.out.cell 10
    try clear cP0_11
    have cP0_11 : World.cell? (w2) ⟨w.heap.size, 11, none⟩ = some (.slice aJn_a aJn_L.length aJn_cap) := XP0.out.cell 11
    try clear cP0_12
    have cP0_12 : World.cell? (w2) ⟨w.heap.size, 12, none⟩ = some (.int .i64 aXDay) := XP0.out.cell 12
    try clear cP0_13
    have cP0_13 : World.cell? (w2) ⟨w.heap.size, 13, none⟩ = some (.int .i64 aXGiven) := XP0.out.cell 13
    try clear cP0_14
    have cP0_14 : World.cell? (w2) ⟨w.heap.size, 14, none⟩ = some (.int .i64 aXEaten) := XP0.out.cell 14
    try clear cP1_0
    have cP1_0 : World.cell? (w2) ⟨w.heap.size + 1, 0, none⟩ = some (.int .i64 bLW) := XP1.out.cell 0
    try clear cP1_1
    have cP1_1 : World.cell? (w2) ⟨w.heap.size + 1, 1, none⟩ = some (.int .i64 bLH) := XP1.out.cell 1
    try clear cP1_2
    have cP1_2 : World.cell? (w2) ⟨w.heap.size + 1, 2, none⟩ = some (.slice bLC_a bLC_L.length bLC_cap) := XP1.out.cell 2
    try clear cP1_3
    have cP1_3 : World.cell? (w2) ⟨w.heap.size + 1, 3, none⟩ = some (.int .i64 bXBase) := XP1.out.cell 3
    try clear cP1_4
    have cP1_4 : World.cell? (w2) ⟨w.heap.size + 1, 4, none⟩ = some (.int .i64 bRM) := XP1.out.cell 4
    try clear cP1_5
    have cP1_5 : World.cell? (w2) ⟨w.heap.size + 1, 5, none⟩ = some (.int .i64 bRW) := XP1.out.cell 5
    try clear cP1_6
    have cP1_6 : World.cell? (w2) ⟨w.heap.size + 1, 6, none⟩ = some (.slice bDp_a bDp_L.length bDp_cap) := XP1.out.cell 6
    try clear cP1_7
    have cP1_7 : World.cell? (w2) ⟨w.heap.size + 1, 7, none⟩ = some (.int .i64 bPA) := XP1.out.cell 7
    try clear cP1_8
    have cP1_8 : World.cell? (w2) ⟨w.heap.size + 1, 8, none⟩ = some (.int .i64 bPF) := XP1.out.cell 8
    try clear cP1_9
    have cP1_9 : World.cell? (w2) ⟨w.heap.size + 1, 9, none⟩ = some (.slice bPC_a bPC_L.length bPC_cap) := XP1.out.cell 9
    try clear cP1_10
    have cP1_10 : World.cell? (w2) ⟨w.heap.size + 1, 10, none⟩ = some (.slice bPP_a bPP_L.length bPP_cap) := XP1.out.cell 10
    try clear cP1_11
    have cP1_11 : World.cell? (w2) ⟨w.heap.size + 1, 11, none⟩ = some (.slice bJn_a bJn_L.length bJn_cap) := XP1.out.cell 11
    try clear cP1_12
    have cP1_12 : World.cell? (w2) ⟨w.heap.size + 1, 12, none⟩ = some (.int .i64 bXDay) := XP1.out.cell 12
    try clear cP1_13
    have cP1_13 : World.cell? (w2) ⟨w.heap.size + 1, 13, none⟩ = some (.int .i64 bXGiven) := XP1.out.cell 13
    try clear cP1_14
    have cP1_14 : World.cell? (w2) ⟨w.heap.size + 1, 14, none⟩ = some (.int .i64 bXEaten) := XP1.out.cell 14
    go_wp2_with fail
    refine (TrekL.szTrek_yes w2 bLW bLH bXBase bRM bRW bPA bPF bXDay bXGiven bXEaten _ _ _ _ _ _ _ _ _ _ ((1048576 : Int) - ((aLC_L.length : Int) + (aDp_L.length : Int) + (aPC_L.length : Int) + (aPP_L.length : Int) + (aJn_L.length : Int))) (bLC_S.out.below HB3.out) (bDp_S.out.below HB3.out) (bPC_S.out.below HB3.out) (bPP_S.out.below HB3.out) (bJn_S.out.below HB3.out) (by omega) (by omega) (by omega)).mono ?_
    rintro e w3 ⟨rfl, hg⟩
    as_aux_lemma =>
      have HB4 := Lib.hid (HB3.out.grown hg HB3.out.size (fun _ h => by cases h)); clear HB3
      have XP0 := Lib.hid (XP0.out.grown hg)
      have XP1 := Lib.hid (XP1.out.grown hg)
      clear hg
      try clear cP0_0
      have cP0_0 : World.cell? (w3) ⟨w.heap.size, 0, none⟩ = some (.int .i64 aLW) := XP0.out.cell 0
      try clear cP0_1
      have cP0_1 : World.cell? (w3) ⟨w.heap.size, 1, none⟩ = some (.int .i64 aLH) := XP0.out.cell 1
      try clear cP0_2
      have cP0_2 : World.cell? (w3) ⟨w.heap.size, 2, none⟩ = some (.slice aLC_a aLC_L.length aLC_cap) := XP0.out.cell 2
      try clear cP0_3
      have cP0_3 : World.cell? (w3) ⟨w.heap.size, 3, none⟩ = some (.int .i64 aXBase) := XP0.out.cell 3
      try clear cP0_4
      have cP0_4 : World.cell? (w3) ⟨w.heap.size, 4, none⟩ = some (.int .i64 aRM) := XP0.out.cell 4
      try clear cP0_5
      have cP0_5 : World.cell? (w3) ⟨w.heap.size, 5, none⟩ = some (.int .i64 aRW) := XP0.out.cell 5
      try clear cP0_6
      have cP0_6 : World.cell? (w3) ⟨w.heap.size, 6, none⟩ = some (.slice aDp_a aDp_L.length aDp_cap) := XP0.out.cell 6
      try clear cP0_7
      have cP0_7 : World.cell? (w3) ⟨w.heap.size, 7, none⟩ = some (.int .i64 aPA) := XP0.out.cell 7
      try clear cP0_8
      have cP0_8 : World.cell? (w3) ⟨w.heap.size, 8, none⟩ = some (.int .i64 aPF) := XP0.out.cell 8
      try clear cP0_9
      have cP0_9 : World.cell? (w3) ⟨w.heap.size, 9, none⟩ = some (.slice aPC_a aPC_L.length aPC_cap) := XP0.out.cell 9
      try clear cP0_10
      have cP0_10 : World.cell? (w3) ⟨w.heap.size, 10, none⟩ = some (.slice aPP_a aPP_L.length aPP_cap) := XP0.out.cell 10
      try clear cP0_11
      have cP0_11 : World.cell? (w3) ⟨w.heap.size, 11, none⟩ = some (.slice aJn_a aJn_L.length aJn_cap) := XP0.out.cell 11
      try clear cP0_12
      have cP0_12 : World.cell? (w3) ⟨w.heap.size, 12, none⟩ = some (.int .i64 aXDay) := XP0.out.cell 12
      try clear cP0_13
      have cP0_13 : World.cell? (w3) ⟨w.heap.size, 13, none⟩ = some (.int .i64 aXGiven) := XP0.out.cell 13
      try clear cP0_14
      have cP0_14 : World.cell? (w3) ⟨w.heap.size, 14, none⟩ = some (.int .i64 aXEaten) := XP0.out.cell 14
      try clear cP1_0
      have cP1_0 : World.cell? (w3) ⟨w.heap.size + 1, 0, none⟩ = some (.int .i64 bLW) := XP1.out.cell 0
      try clear cP1_1
      have cP1_1 : World.cell? (w3) ⟨w.heap.size + 1, 1, none⟩ = some (.int .i64 bLH) := XP1.out.cell 1
      try clear cP1_2
      have cP1_2 : World.cell? (w3) ⟨w.heap.size + 1, 2, none⟩ = some (.slice bLC_a bLC_L.length bLC_cap) := XP1.out.cell 2
      try clear cP1_3
      have cP1_3 : World.cell? (w3) ⟨w.heap.size + 1, 3, none⟩ = some (.int .i64 bXBase) := XP1.out.cell 3
      try clear cP1_4
      have cP1_4 : World.cell? (w3) ⟨w.heap.size + 1, 4, none⟩ = some (.int .i64 bRM) := XP1.out.cell 4
      try clear cP1_5
      have cP1_5 : World.cell? (w3) ⟨w.heap.size + 1, 5, none⟩ = some (.int .i64 bRW) := XP1.out.cell 5
      try clear cP1_6
      have cP1_6 : World.cell? (w3) ⟨w.heap.size + 1, 6, none⟩ = some (.slice bDp_a bDp_L.length bDp_cap) := XP1.out.cell 6
      try clear cP1_7
      have cP1_7 : World.cell? (w3) ⟨w.heap.size + 1, 7, none⟩ = some (.int .i64 bPA) := XP1.out.cell 7
      try clear cP1_8
      have cP1_8 : World.cell? (w3) ⟨w.heap.size + 1, 8, none⟩ = some (.int .i64 bPF) := XP1.out.cell 8
      try clear cP1_9
      have cP1_9 : World.cell? (w3) ⟨w.heap.size + 1, 9, none⟩ = some (.slice bPC_a bPC_L.length bPC_cap) := XP1.out.cell 9
      try clear cP1_10
      have cP1_10 : World.cell? (w3) ⟨w.heap.size + 1, 10, none⟩ = some (.slice bPP_a bPP_L.length bPP_cap) := XP1.out.cell 10
      try clear cP1_11
      have cP1_11 : World.cell? (w3) ⟨w.heap.size + 1, 11, none⟩ = some (.slice bJn_a bJn_L.length bJn_cap) := XP1.out.cell 11
      try clear cP1_12
      have cP1_12 : World.cell? (w3) ⟨w.heap.size + 1, 12, none⟩ = some (.int .i64 bXDay) := XP1.out.cell 12
      try clear cP1_13
      have cP1_13 : World.cell? (w3) ⟨w.heap.size + 1, 13, none⟩ = some (.int .i64 bXGiven) := XP1.out.cell 13
      try clear cP1_14
      have cP1_14 : World.cell? (w3) ⟨w.heap.size + 1, 14, none⟩ = some (.int .i64 bXEaten) := XP1.out.cell 14
      go_wp2_with fail
      have hgd := grown_drew (World.grownBy.refl w3 none)
      have HB5 := Lib.hid (HB4.out.grown hgd HB4.out.size (fun _ h => by cases h)); clear HB4
      have XP0 := Lib.hid (XP0.out.grown hgd)
      have XP1 := Lib.hid (XP1.out.grown hgd)
      clear hgd
      try clear cP0_0
      have cP0_0 : World.cell? ((World.drew w3)) ⟨w.heap.size, 0, none⟩ = some (.int .i64 aLW) := XP0.out.cell 0
      try clear cP0_1
      have cP0_1 : World.cell? ((World.drew w3)) ⟨w.heap.size, 1, none⟩ = some (.int .i64 aLH) := XP0.out.cell 1
      try clear cP0_2
      have cP0_2 : World.cell? ((World.drew w3)) ⟨w.heap.size, 2, none⟩ = some (.slice aLC_a aLC_L.length aLC_cap) := XP0.out.cell 2
      try clear cP0_3
      have cP0_3 : World.cell? ((World.drew w3)) ⟨w.heap.size, 3, none⟩ = some (.int .i64 aXBase) := XP0.out.cell 3
      try clear cP0_4
      have cP0_4 : World.cell? ((World.drew w3)) ⟨w.heap.size, 4, none⟩ = some (.int .i64 aRM) := XP0.out.cell 4
      try clear cP0_5
      have cP0_5 : World.cell? ((World.drew w3)) ⟨w.heap.size, 5, none⟩ = some (.int .i64 aRW) := XP0.out.cell 5
      try clear cP0_6
      have cP0_6 : World.cell? ((World.drew w3)) ⟨w.heap.size, 6, none⟩ = some (.slice aDp_a aDp_L.length aDp_cap) := XP0.out.cell 6
      try clear cP0_7
      have cP0_7 : World.cell? ((World.drew w3)) ⟨w.heap.size, 7, none⟩ = some (.int .i64 aPA) := XP0.out.cell 7
      try clear cP0_8
      have cP0_8 : World.cell? ((World.drew w3)) ⟨w.heap.size, 8, none⟩ = some (.int .i64 aPF) := XP0.out.cell 8
      try clear cP0_9
      have cP0_9 : World.cell? ((World.drew w3)) ⟨w.heap.size, 9, none⟩ = some (.slice aPC_a aPC_L.length aPC_cap) := XP0.out.cell 9
      try clear cP0_10
      have cP0_10 : World.cell? ((World.drew w3)) ⟨w.heap.size, 10, none⟩ = some (.slice aPP_a aPP_L.length aPP_cap) := XP0.out.cell 10
      try clear cP0_11
      have cP0_11 : World.cell? ((World.drew w3)) ⟨w.heap.size, 11, none⟩ = some (.slice aJn_a aJn_L.length aJn_cap) := XP0.out.cell 11
      try clear cP0_12
      have cP0_12 : World.cell? ((World.drew w3)) ⟨w.heap.size, 12, none⟩ = some (.int .i64 aXDay) := XP0.out.cell 12
      try clear cP0_13
      have cP0_13 : World.cell? ((World.drew w3)) ⟨w.heap.size, 13, none⟩ = some (.int .i64 aXGiven) := XP0.out.cell 13
      try clear cP0_14
      have cP0_14 : World.cell? ((World.drew w3)) ⟨w.heap.size, 14, none⟩ = some (.int .i64 aXEaten) := XP0.out.cell 14
      try clear cP1_0
      have cP1_0 : World.cell? ((World.drew w3)) ⟨w.heap.size + 1, 0, none⟩ = some (.int .i64 bLW) := XP1.out.cell 0
      try clear cP1_1
      have cP1_1 : World.cell? ((World.drew w3)) ⟨w.heap.size + 1, 1, none⟩ = some (.int .i64 bLH) := XP1.out.cell 1
      try clear cP1_2
      have cP1_2 : World.cell? ((World.drew w3)) ⟨w.heap.size + 1, 2, none⟩ = some (.slice bLC_a bLC_L.length bLC_cap) := XP1.out.cell 2
      try clear cP1_3
      have cP1_3 : World.cell? ((World.drew w3)) ⟨w.heap.size + 1, 3, none⟩ = some (.int .i64 bXBase) := XP1.out.cell 3
      try clear cP1_4
      have cP1_4 : World.cell? ((World.drew w3)) ⟨w.heap.size + 1, 4, none⟩ = some (.int .i64 bRM) := XP1.out.cell 4
      try clear cP1_5
      have cP1_5 : World.cell? ((World.drew w3)) ⟨w.heap.size + 1, 5, none⟩ = some (.int .i64 bRW) := XP1.out.cell 5
      try clear cP1_6
      have cP1_6 : World.cell? ((World.drew w3)) ⟨w.heap.size + 1, 6, none⟩ = some (.slice bDp_a bDp_L.length bDp_cap) := XP1.out.cell 6
      try clear cP1_7
      have cP1_7 : World.cell? ((World.drew w3)) ⟨w.heap.size + 1, 7, none⟩ = some (.int .i64 bPA) := XP1.out.cell 7
      try clear cP1_8
      have cP1_8 : World.cell? ((World.drew w3)) ⟨w.heap.size + 1, 8, none⟩ = some (.int .i64 bPF) := XP1.out.cell 8
      try clear cP1_9
      have cP1_9 : World.cell? ((World.drew w3)) ⟨w.heap.size + 1, 9, none⟩ = some (.slice bPC_a bPC_L.length bPC_cap) := XP1.out.cell 9
      try clear cP1_10
      have cP1_10 : World.cell? ((World.drew w3)) ⟨w.heap.size + 1, 10, none⟩ = some (.slice bPP_a bPP_L.length bPP_cap) := XP1.out.cell 10
      try clear cP1_11
      have cP1_11 : World.cell? ((World.drew w3)) ⟨w.heap.size + 1, 11, none⟩ = some (.slice bJn_a bJn_L.length bJn_cap) := XP1.out.cell 11
      try clear cP1_12
      have cP1_12 : World.cell? ((World.drew w3)) ⟨w.heap.size + 1, 12, none⟩ = some (.int .i64 bXDay) := XP1.out.cell 12
      try clear cP1_13
      have cP1_13 : World.cell? ((World.drew w3)) ⟨w.heap.size + 1, 13, none⟩ = some (.int .i64 bXGiven) := XP1.out.cell 13
      try clear cP1_14
      have cP1_14 : World.cell? ((World.drew w3)) ⟨w.heap.size + 1, 14, none⟩ = some (.int .i64 bXEaten) := XP1.out.cell 14
      refine wp_region_held_drew (S := fun w' => w'.cell? ⟨w.heap.size, 0, none⟩ = some (.int .i64 aLW) ∧ w'.cell? ⟨w.heap.size, 1, none⟩ = some (.int .i64 aLH) ∧ w'.cell? ⟨w.heap.size, 2, none⟩ = some (.slice aLC_a aLC_L.length aLC_cap) ∧ w'.cell? ⟨w.heap.size, 3, none⟩ = some (.int .i64 aXBase) ∧ w'.cell? ⟨w.heap.size, 4, none⟩ = some (.int .i64 aRM) ∧ w'.cell? ⟨w.heap.size, 5, none⟩ = some (.int .i64 aRW) ∧ w'.cell? ⟨w.heap.size, 6, none⟩ = some (.slice aDp_a aDp_L.length aDp_cap) ∧ w'.cell? ⟨w.heap.size, 7, none⟩ = some (.int .i64 aPA) ∧ w'.cell? ⟨w.heap.size, 8, none⟩ = some (.int .i64 aPF) ∧ w'.cell? ⟨w.heap.size, 9, none⟩ = some (.slice aPC_a aPC_L.length aPC_cap) ∧ w'.cell? ⟨w.heap.size, 10, none⟩ = some (.slice aPP_a aPP_L.length aPP_cap) ∧ w'.cell? ⟨w.heap.size, 11, none⟩ = some (.slice aJn_a aJn_L.length aJn_cap) ∧ w'.cell? ⟨w.heap.size, 12, none⟩ = some (.int .i64 aXDay) ∧ w'.cell? ⟨w.heap.size, 13, none⟩ = some (.int .i64 aXGiven) ∧ w'.cell? ⟨w.heap.size, 14, none⟩ = some (.int .i64 aXEaten) ∧ w'.cell? ⟨w.heap.size + 1, 0, none⟩ = some (.int .i64 bLW) ∧ w'.cell? ⟨w.heap.size + 1, 1, none⟩ = some (.int .i64 bLH) ∧ w'.cell? ⟨w.heap.size + 1, 2, none⟩ = some (.slice bLC_a bLC_L.length bLC_cap) ∧ w'.cell? ⟨w.heap.size + 1, 3, none⟩ = some (.int .i64 bXBase) ∧ w'.cell? ⟨w.heap.size + 1, 4, none⟩ = some (.int .i64 bRM) ∧ w'.cell? ⟨w.heap.size + 1, 5, none⟩ = some (.int .i64 bRW) ∧ w'.cell? ⟨w.heap.size + 1, 6, none⟩ = some (.slice bDp_a bDp_L.length bDp_cap) ∧ w'.cell? ⟨w.heap.size + 1, 7, none⟩ = some (.int .i64 bPA) ∧ w'.cell? ⟨w.heap.size + 1, 8, none⟩ = some (.int .i64 bPF) ∧ w'.cell? ⟨w.heap.size + 1, 9, none⟩ = some (.slice bPC_a bPC_L.length bPC_cap) ∧ w'.cell? ⟨w.heap.size + 1, 10, none⟩ = some (.slice bPP_a bPP_L.length bPP_cap) ∧ w'.cell? ⟨w.heap.size + 1, 11, none⟩ = some (.slice bJn_a bJn_L.length bJn_cap) ∧ w'.cell? ⟨w.heap.size + 1, 12, none⟩ = some (.int .i64 bXDay) ∧ w'.cell? ⟨w.heap.size + 1, 13, none⟩ = some (.int .i64 bXGiven) ∧ w'.cell? ⟨w.heap.size + 1, 14, none⟩ = some (.int .i64 bXEaten)) (by kernel_rfl) ⟨cP0_0, cP0_1, cP0_2, cP0_3, cP0_4, cP0_5, cP0_6, cP0_7, cP0_8, cP0_9, cP0_10, cP0_11, cP0_12, cP0_13, cP0_14, cP1_0, cP1_1, cP1_2, cP1_3, cP1_4, cP1_5, cP1_6, cP1_7, cP1_8, cP1_9, cP1_10, cP1_11, cP1_12, cP1_13, cP1_14⟩ (fun hHeld => ?_)
      refine wpAnyH_take (i := 0) (v := ?_) rfl (by kernel_rfl) (by kernel_rfl) (by kernel_rfl) (fun _ _ _ h => h) (Or.inl ⟨by rfl, ?_⟩) (by assumption) ?_; rotate_left; (focus (intro wS hSw; (try dsimp only at hSw); go_simp <;> with_reducible rfl)); (try simp only [Act.put, List.getElem_toArray, List.getElem_cons_succ, List.getElem_cons_zero, List.setIfInBounds_toArray, List.set_cons_zero, List.set_cons_succ])
      refine wpAnyH_take (i := 2) (v := ?_) rfl (by kernel_rfl) (by kernel_rfl) (by kernel_rfl) (fun _ _ _ h => h) (Or.inl ⟨by rfl, ?_⟩) (by assumption) ?_; rotate_left; (focus (intro wS hSw; (try dsimp only at hSw); go_simp <;> with_reducible rfl)); (try simp only [Act.put, List.getElem_toArray, List.getElem_cons_succ, List.getElem_cons_zero, List.setIfInBounds_toArray, List.set_cons_zero, List.set_cons_succ])
      refine wpAnyH_ready (rs := [1]) (by kernel_rfl) (by simp) ?_; refine AllReadyH.cons rfl (fun K hK => ?_) AllReadyH.nil; go_simp; (go_at_call 44; refine (TrekL.toTrek_any (World.drew w3) aLW aLH aXBase aRM aRW aPA aPF aXDay aXGiven aXEaten _ _ _ _ _ _ _ _ _ _ (aLC_S.out.below HB5.out) (aDp_S.out.below HB5.out) (aPC_S.out.below HB5.out) (aPP_S.out.below HB5.out) (aJn_S.out.below HB5.out) (by omega) (by omega) (by omega) (by omega) (by omega)).mono ?_; rintro e w5 ⟨u1, u2, u3, u4, u5, rfl, ho1, ho2, ho3, ho4, ho5, hap, hg⟩; have D_u1_P0 := Lib.hid (ho1.off XP0.out.lt); have D_u1_P1 := Lib.hid (ho1.off XP1.out.lt); have Ou1 := Lib.hid (ho1.lower HB5.out.size); have D_u2_P0 := Lib.hid (ho2.off XP0.out.lt); have D_u2_P1 := Lib.hid (ho2.off XP1.out.lt); have Ou2 := Lib.hid (ho2.lower HB5.out.size); have D_u3_P0 := Lib.hid (ho3.off XP0.out.lt); have D_u3_P1 := Lib.hid (ho3.off XP1.out.lt); have Ou3 := Lib.hid (ho3.lower HB5.out.size); have D_u4_P0 := Lib.hid (ho4.off XP0.out.lt); have D_u4_P1 := Lib.hid (ho4.off XP1.out.lt); have Ou4 := Lib.hid (ho4.lower HB5.out.size); have D_u5_P0 := Lib.hid (ho5.off XP0.out.lt); have D_u5_P1 := Lib.hid (ho5.off XP1.out.lt); have Ou5 := Lib.hid (ho5.lower HB5.out.size); simp only [TrekL.ApN, List.mem_cons, List.not_mem_nil, or_false, forall_eq_or_imp, forall_eq] at hap; obtain ⟨⟨x43, x42, x41, x40⟩, ⟨x32, x31, x30⟩, ⟨x21, x20⟩, x10, _⟩ := hap; have A_u2_u1 := Lib.hid x10; clear x10; have A_u3_u1 := Lib.hid x20; clear x20; have A_u3_u2 := Lib.hid x21; clear x21; have A_u4_u1 := Lib.hid x30; clear x30; have A_u4_u2 := Lib.hid x31; clear x31; have A_u4_u3 := Lib.hid x32; clear x32; have A_u5_u1 := Lib.hid x40; clear x40; have A_u5_u2 := Lib.hid x41; clear x41; have A_u5_u3 := Lib.hid x42; clear x42; have A_u5_u4 := Lib.hid x43; clear x43; have hap := trivial; have HB6 := Lib.hid (HB5.out.grown hg HB5.out.size (fun _ h => by cases h)); clear HB5; have XP0 := Lib.hid (XP0.out.grown hg); have XP1 := Lib.hid (XP1.out.grown hg); clear ho1 ho2 ho3 ho4 ho5 hap hg)
      refine hK.out _ _ ?_ (fun hHeld => ?_)
      · exact ⟨XP0.out.cell 0, XP0.out.cell 1, XP0.out.cell 2, XP0.out.cell 3, XP0.out.cell 4, XP0.out.cell 5, XP0.out.cell 6, XP0.out.cell 7, XP0.out.cell 8, XP0.out.cell 9, XP0.out.cell 10, XP0.out.cell 11, XP0.out.cell 12, XP0.out.cell 13, XP0.out.cell 14, XP1.out.cell 0, XP1.out.cell 1, XP1.out.cell 2, XP1.out.cell 3, XP1.out.cell 4, XP1.out.cell 5, XP1.out.cell 6, XP1.out.cell 7, XP1.out.cell 8, XP1.out.cell 9, XP1.out.cell 10, XP1.out.cell 11, XP1.out.cell 12, XP1.out.cell 13, XP1.out.cell 14⟩
      clear hK K
      (try simp only [Act.put, List.getElem_toArray, List.getElem_cons_succ, List.getElem_cons_zero, List.setIfInBounds_toArray, List.set_cons_zero, List.set_cons_succ])
      refine wpAnyH_ready (rs := [3]) (by kernel_rfl) (by simp) ?_; refine AllReadyH.cons rfl (fun K hK => ?_) AllReadyH.nil; go_simp; (go_at_call 44; refine (TrekL.toTrek_any w5 bLW bLH bXBase bRM bRW bPA bPF bXDay bXGiven bXEaten _ _ _ _ _ _ _ _ _ _ (bLC_S.out.below HB6.out) (bDp_S.out.below HB6.out) (bPC_S.out.below HB6.out) (bPP_S.out.below HB6.out) (bJn_S.out.below HB6.out) (by omega) (by omega) (by omega) (by omega) (by omega)).mono ?_; rintro e w6 ⟨u6, u7, u8, u9, u10, rfl, ho1, ho2, ho3, ho4, ho5, hap, hg⟩; have A_u6_u1 := Lib.hid (Rg.apart_lt ho1.lt Ou1.out.lt (Nat.le_refl _)); have A_u6_u2 := Lib.hid (Rg.apart_lt ho1.lt Ou2.out.lt (Nat.le_refl _)); have A_u6_u3 := Lib.hid (Rg.apart_lt ho1.lt Ou3.out.lt (Nat.le_refl _)); have A_u6_u4 := Lib.hid (Rg.apart_lt ho1.lt Ou4.out.lt (Nat.le_refl _)); have A_u6_u5 := Lib.hid (Rg.apart_lt ho1.lt Ou5.out.lt (Nat.le_refl _)); have D_u6_P0 := Lib.hid (ho1.off XP0.out.lt); have D_u6_P1 := Lib.hid (ho1.off XP1.out.lt); have Ou6 := Lib.hid (ho1.lower HB6.out.size); have A_u7_u1 := Lib.hid (Rg.apart_lt ho2.lt Ou1.out.lt (Nat.le_refl _)); have A_u7_u2 := Lib.hid (Rg.apart_lt ho2.lt Ou2.out.lt (Nat.le_refl _)); have A_u7_u3 := Lib.hid (Rg.apart_lt ho2.lt Ou3.out.lt (Nat.le_refl _)); have A_u7_u4 := Lib.hid (Rg.apart_lt ho2.lt Ou4.out.lt (Nat.le_refl _)); have A_u7_u5 := Lib.hid (Rg.apart_lt ho2.lt Ou5.out.lt (Nat.le_refl _)); have D_u7_P0 := Lib.hid (ho2.off XP0.out.lt); have D_u7_P1 := Lib.hid (ho2.off XP1.out.lt); have Ou7 := Lib.hid (ho2.lower HB6.out.size); have A_u8_u1 := Lib.hid (Rg.apart_lt ho3.lt Ou1.out.lt (Nat.le_refl _)); have A_u8_u2 := Lib.hid (Rg.apart_lt ho3.lt Ou2.out.lt (Nat.le_refl _)); have A_u8_u3 := Lib.hid (Rg.apart_lt ho3.lt Ou3.out.lt (Nat.le_refl _)); have A_u8_u4 := Lib.hid (Rg.apart_lt ho3.lt Ou4.out.lt (Nat.le_refl _)); have A_u8_u5 := Lib.hid (Rg.apart_lt ho3.lt Ou5.out.lt (Nat.le_refl _)); have D_u8_P0 := Lib.hid (ho3.off XP0.out.lt); have D_u8_P1 := Lib.hid (ho3.off XP1.out.lt); have Ou8 := Lib.hid (ho3.lower HB6.out.size); have A_u9_u1 := Lib.hid (Rg.apart_lt ho4.lt Ou1.out.lt (Nat.le_refl _)); have A_u9_u2 := Lib.hid (Rg.apart_lt ho4.lt Ou2.out.lt (Nat.le_refl _)); have A_u9_u3 := Lib.hid (Rg.apart_lt ho4.lt Ou3.out.lt (Nat.le_refl _)); have A_u9_u4 := Lib.hid (Rg.apart_lt ho4.lt Ou4.out.lt (Nat.le_refl _)); have A_u9_u5 := Lib.hid (Rg.apart_lt ho4.lt Ou5.out.lt (Nat.le_refl _)); have D_u9_P0 := Lib.hid (ho4.off XP0.out.lt); have D_u9_P1 := Lib.hid (ho4.off XP1.out.lt); have Ou9 := Lib.hid (ho4.lower HB6.out.size); have A_u10_u1 := Lib.hid (Rg.apart_lt ho5.lt Ou1.out.lt (Nat.le_refl _)); have A_u10_u2 := Lib.hid (Rg.apart_lt ho5.lt Ou2.out.lt (Nat.le_refl _)); have A_u10_u3 := Lib.hid (Rg.apart_lt ho5.lt Ou3.out.lt (Nat.le_refl _)); have A_u10_u4 := Lib.hid (Rg.apart_lt ho5.lt Ou4.out.lt (Nat.le_refl _)); have A_u10_u5 := Lib.hid (Rg.apart_lt ho5.lt Ou5.out.lt (Nat.le_refl _)); have D_u10_P0 := Lib.hid (ho5.off XP0.out.lt); have D_u10_P1 := Lib.hid (ho5.off XP1.out.lt); have Ou10 := Lib.hid (ho5.lower HB6.out.size); simp only [TrekL.ApN, List.mem_cons, List.not_mem_nil, or_false, forall_eq_or_imp, forall_eq] at hap; obtain ⟨⟨x43, x42, x41, x40⟩, ⟨x32, x31, x30⟩, ⟨x21, x20⟩, x10, _⟩ := hap; have A_u7_u6 := Lib.hid x10; clear x10; have A_u8_u6 := Lib.hid x20; clear x20; have A_u8_u7 := Lib.hid x21; clear x21; have A_u9_u6 := Lib.hid x30; clear x30; have A_u9_u7 := Lib.hid x31; clear x31; have A_u9_u8 := Lib.hid x32; clear x32; have A_u10_u6 := Lib.hid x40; clear x40; have A_u10_u7 := Lib.hid x41; clear x41; have A_u10_u8 := Lib.hid x42; clear x42; have A_u10_u9 := Lib.hid x43; clear x43; have hap := trivial; have HB7 := Lib.hid (HB6.out.grown hg HB6.out.size (fun _ h => by cases h)); clear HB6; have Ou1 := Lib.hid (Ou1.out.grown hg); have Ou2 := Lib.hid (Ou2.out.grown hg); have Ou3 := Lib.hid (Ou3.out.grown hg); have Ou4 := Lib.hid (Ou4.out.grown hg); have Ou5 := Lib.hid (Ou5.out.grown hg); have XP0 := Lib.hid (XP0.out.grown hg); have XP1 := Lib.hid (XP1.out.grown hg); clear ho1 ho2 ho3 ho4 ho5 hap hg)
      refine hK.out _ _ ?_ (fun hHeld => ?_)
      · exact ⟨XP0.out.cell 0, XP0.out.cell 1, XP0.out.cell 2, XP0.out.cell 3, XP0.out.cell 4, XP0.out.cell 5, XP0.out.cell 6, XP0.out.cell 7, XP0.out.cell 8, XP0.out.cell 9, XP0.out.cell 10, XP0.out.cell 11, XP0.out.cell 12, XP0.out.cell 13, XP0.out.cell 14, XP1.out.cell 0, XP1.out.cell 1, XP1.out.cell 2, XP1.out.cell 3, XP1.out.cell 4, XP1.out.cell 5, XP1.out.cell 6, XP1.out.cell 7, XP1.out.cell 8, XP1.out.cell 9, XP1.out.cell 10, XP1.out.cell 11, XP1.out.cell 12, XP1.out.cell 13, XP1.out.cell 14⟩
      clear hK K
      (try simp only [Act.put, List.getElem_toArray, List.getElem_cons_succ, List.getElem_cons_zero, List.setIfInBounds_toArray, List.set_cons_zero, List.set_cons_succ])
      refine wpAnyH_ready (rs := [4]) (by kernel_rfl) (by simp) ?_; refine AllReadyH.cons rfl (fun K hK => ?_) AllReadyH.nil; go_simp; (go_at_call 47; refine (EqW.sEqual_any w6 aLW aLH aXBase aRM aRW aPA aPF aXDay aXGiven aXEaten bLW bLH bXBase bRM bRW bPA bPF bXDay bXGiven bXEaten _ _ _ _ _ _ _ _ _ _ aLC_L bLC_L aDp_L bDp_L aPC_L bPC_L aPP_L bPP_L aJn_L bJn_L (Ou1.out.sees) (Ou6.out.sees) (Ou2.out.sees) (Ou7.out.sees) (Ou3.out.sees) (Ou8.out.sees) (Ou4.out.sees) (Ou9.out.sees) (Ou5.out.sees) (Ou10.out.sees)).mono ?_; rintro e w7 ⟨rfl, hg⟩; have HB8 := Lib.hid (HB7.out.grown hg HB7.out.size (fun _ h => by cases h)); clear HB7; have Ou1 := Lib.hid (Ou1.out.grown hg); have Ou2 := Lib.hid (Ou2.out.grown hg); have Ou3 := Lib.hid (Ou3.out.grown hg); have Ou4 := Lib.hid (Ou4.out.grown hg); have Ou5 := Lib.hid (Ou5.out.grown hg); have Ou6 := Lib.hid (Ou6.out.grown hg); have Ou7 := Lib.hid (Ou7.out.grown hg); have Ou8 := Lib.hid (Ou8.out.grown hg); have Ou9 := Lib.hid (Ou9.out.grown hg); have Ou10 := Lib.hid (Ou10.out.grown hg); have XP0 := Lib.hid (XP0.out.grown hg); have XP1 := Lib.hid (XP1.out.grown hg); clear hg)
      refine hK.out _ _ ?_ (fun hHeld => ?_)
      · exact ⟨XP0.out.cell 0, XP0.out.cell 1, XP0.out.cell 2, XP0.out.cell 3, XP0.out.cell 4, XP0.out.cell 5, XP0.out.cell 6, XP0.out.cell 7, XP0.out.cell 8, XP0.out.cell 9, XP0.out.cell 10, XP0.out.cell 11, XP0.out.cell 12, XP0.out.cell 13, XP0.out.cell 14, XP1.out.cell 0, XP1.out.cell 1, XP1.out.cell 2, XP1.out.cell 3, XP1.out.cell 4, XP1.out.cell 5, XP1.out.cell 6, XP1.out.cell 7, XP1.out.cell 8, XP1.out.cell 9, XP1.out.cell 10, XP1.out.cell 11, XP1.out.cell 12, XP1.out.cell 13, XP1.out.cell 14⟩
      clear hK K
      (try simp only [Act.put, List.getElem_toArray, List.getElem_cons_succ, List.getElem_cons_zero, List.setIfInBounds_toArray, List.set_cons_zero, List.set_cons_succ])
      refine wpAnyH_take (i := 5) (v := ?_) rfl (by kernel_rfl) (by kernel_rfl) (by kernel_rfl) (fun _ _ _ h => h) (Or.inl ⟨by rfl, ?_⟩) (by assumption) ?_; rotate_left; (focus (intro wS hSw; (try dsimp only at hSw); go_simp <;> with_reducible rfl)); (try simp only [Act.put, List.getElem_toArray, List.getElem_cons_succ, List.getElem_cons_zero, List.setIfInBounds_toArray, List.set_cons_zero, List.set_cons_succ])
      refine wpAnyH_done (by kernel_rfl) ?_ _
      (try simp only [Act.put, List.getElem_toArray, List.getElem_cons_succ, List.getElem_cons_zero, List.setIfInBounds_toArray, List.set_cons_zero, List.set_cons_succ])
      clear Ou1
      clear Ou2
      clear Ou3
      clear Ou4
      clear Ou5
      clear Ou6
      clear Ou7
      clear Ou8
      clear Ou9
      clear Ou10
      try clear cP0_0
      have cP0_0 : World.cell? (w7) ⟨w.heap.size, 0, none⟩ = some (.int .i64 aLW) := XP0.out.cell 0
      try clear cP0_1
      have cP0_1 : World.cell? (w7) ⟨w.heap.size, 1, none⟩ = some (.int .i64 aLH) := XP0.out.cell 1
      try clear cP0_2
      have cP0_2 : World.cell? (w7) ⟨w.heap.size, 2, none⟩ = some (.slice aLC_a aLC_L.length aLC_cap) := XP0.out.cell 2
      try clear cP0_3
      have cP0_3 : World.cell? (w7) ⟨w.heap.size, 3, none⟩ = some (.int .i64 aXBase) := XP0.out.cell 3
      try clear cP0_4
      have cP0_4 : World.cell? (w7) ⟨w.heap.size, 4, none⟩ = some (.int .i64 aRM) := XP0.out.cell 4
      try clear cP0_5
      have cP0_5 : World.cell? (w7) ⟨w.heap.size, 5, none⟩ = some (.int .i64 aRW) := XP0.out.cell 5
      try clear cP0_6
      have cP0_6 : World.cell? (w7) ⟨w.heap.size, 6, none⟩ = some (.slice aDp_a aDp_L.length aDp_cap) := XP0.out.cell 6
      try clear cP0_7
      have cP0_7 : World.cell? (w7) ⟨w.heap.size, 7, none⟩ = some (.int .i64 aPA) := XP0.out.cell 7
      try clear cP0_8
      have cP0_8 : World.cell? (w7) ⟨w.heap.size, 8, none⟩ = some (.int .i64 aPF) := XP0.out.cell 8
      try clear cP0_9
      have cP0_9 : World.cell? (w7) ⟨w.heap.size, 9, none⟩ = some (.slice aPC_a aPC_L.length aPC_cap) := XP0.out.cell 9
      try clear cP0_10
      have cP0_10 : World.cell? (w7) ⟨w.heap.size, 10, none⟩ = some (.slice aPP_a aPP_L.length aPP_cap) := XP0.out.cell 10
      try clear cP0_11
      have cP0_11 : World.cell? (w7) ⟨w.heap.size, 11, none⟩ = some (.slice aJn_a aJn_L.length aJn_cap) := XP0.out.cell 11
      try clear cP0_12
      have cP0_12 : World.cell? (w7) ⟨w.heap.size, 12, none⟩ = some (.int .i64 aXDay) := XP0.out.cell 12
      try clear cP0_13
      have cP0_13 : World.cell? (w7) ⟨w.heap.size, 13, none⟩ = some (.int .i64 aXGiven) := XP0.out.cell 13
      try clear cP0_14
      have cP0_14 : World.cell? (w7) ⟨w.heap.size, 14, none⟩ = some (.int .i64 aXEaten) := XP0.out.cell 14
      try clear cP1_0
      have cP1_0 : World.cell? (w7) ⟨w.heap.size + 1, 0, none⟩ = some (.int .i64 bLW) := XP1.out.cell 0
      try clear cP1_1
      have cP1_1 : World.cell? (w7) ⟨w.heap.size + 1, 1, none⟩ = some (.int .i64 bLH) := XP1.out.cell 1
      try clear cP1_2
      have cP1_2 : World.cell? (w7) ⟨w.heap.size + 1, 2, none⟩ = some (.slice bLC_a bLC_L.length bLC_cap) := XP1.out.cell 2
      try clear cP1_3
      have cP1_3 : World.cell? (w7) ⟨w.heap.size + 1, 3, none⟩ = some (.int .i64 bXBase) := XP1.out.cell 3
      try clear cP1_4
      have cP1_4 : World.cell? (w7) ⟨w.heap.size + 1, 4, none⟩ = some (.int .i64 bRM) := XP1.out.cell 4
      try clear cP1_5
      have cP1_5 : World.cell? (w7) ⟨w.heap.size + 1, 5, none⟩ = some (.int .i64 bRW) := XP1.out.cell 5
      try clear cP1_6
      have cP1_6 : World.cell? (w7) ⟨w.heap.size + 1, 6, none⟩ = some (.slice bDp_a bDp_L.length bDp_cap) := XP1.out.cell 6
      try clear cP1_7
      have cP1_7 : World.cell? (w7) ⟨w.heap.size + 1, 7, none⟩ = some (.int .i64 bPA) := XP1.out.cell 7
      try clear cP1_8
      have cP1_8 : World.cell? (w7) ⟨w.heap.size + 1, 8, none⟩ = some (.int .i64 bPF) := XP1.out.cell 8
      try clear cP1_9
      have cP1_9 : World.cell? (w7) ⟨w.heap.size + 1, 9, none⟩ = some (.slice bPC_a bPC_L.length bPC_cap) := XP1.out.cell 9
      try clear cP1_10
      have cP1_10 : World.cell? (w7) ⟨w.heap.size + 1, 10, none⟩ = some (.slice bPP_a bPP_L.length bPP_cap) := XP1.out.cell 10
      try clear cP1_11
      have cP1_11 : World.cell? (w7) ⟨w.heap.size + 1, 11, none⟩ = some (.slice bJn_a bJn_L.length bJn_cap) := XP1.out.cell 11
      try clear cP1_12
      have cP1_12 : World.cell? (w7) ⟨w.heap.size + 1, 12, none⟩ = some (.int .i64 bXDay) := XP1.out.cell 12
      try clear cP1_13
      have cP1_13 : World.cell? (w7) ⟨w.heap.size + 1, 13, none⟩ = some (.int .i64 bXGiven) := XP1.out.cell 13
      try clear cP1_14
      have cP1_14 : World.cell? (w7) ⟨w.heap.size + 1, 14, none⟩ = some (.int .i64 bXEaten) := XP1.out.cell 14
      go_wp2_with fail
      refine (TrekL.toTrek_any w7 aLW aLH aXBase aRM aRW aPA aPF aXDay aXGiven aXEaten _ _ _ _ _ _ _ _ _ _ (aLC_S.out.below HB8.out) (aDp_S.out.below HB8.out) (aPC_S.out.below HB8.out) (aPP_S.out.below HB8.out) (aJn_S.out.below HB8.out) (by omega) (by omega) (by omega) (by omega) (by omega)).mono ?_
      rintro e w8 ⟨u11, u12, u13, u14, u15, rfl, ho1, ho2, ho3, ho4, ho5, hap, hg⟩
      as_aux_lemma =>
        have D_u11_P0 := Lib.hid (ho1.off XP0.out.lt)
        have D_u11_P1 := Lib.hid (ho1.off XP1.out.lt)
        have Ou11 := Lib.hid (ho1.lower HB8.out.size)
        have D_u12_P0 := Lib.hid (ho2.off XP0.out.lt)
        have D_u12_P1 := Lib.hid (ho2.off XP1.out.lt)
        have Ou12 := Lib.hid (ho2.lower HB8.out.size)
        have D_u13_P0 := Lib.hid (ho3.off XP0.out.lt)
        have D_u13_P1 := Lib.hid (ho3.off XP1.out.lt)
        have Ou13 := Lib.hid (ho3.lower HB8.out.size)
        have D_u14_P0 := Lib.hid (ho4.off XP0.out.lt)
        have D_u14_P1 := Lib.hid (ho4.off XP1.out.lt)
        have Ou14 := Lib.hid (ho4.lower HB8.out.size)
        have D_u15_P0 := Lib.hid (ho5.off XP0.out.lt)
        have D_u15_P1 := Lib.hid (ho5.off XP1.out.lt)
        have Ou15 := Lib.hid (ho5.lower HB8.out.size)
        simp only [TrekL.ApN, List.mem_cons, List.not_mem_nil, or_false, forall_eq_or_imp, forall_eq] at hap
        obtain ⟨⟨x43, x42, x41, x40⟩, ⟨x32, x31, x30⟩, ⟨x21, x20⟩, x10, _⟩ := hap
        have A_u12_u11 := Lib.hid x10; clear x10
        have A_u13_u11 := Lib.hid x20; clear x20
        have A_u13_u12 := Lib.hid x21; clear x21
        have A_u14_u11 := Lib.hid x30; clear x30
        have A_u14_u12 := Lib.hid x31; clear x31
        have A_u14_u13 := Lib.hid x32; clear x32
        have A_u15_u11 := Lib.hid x40; clear x40
        have A_u15_u12 := Lib.hid x41; clear x41
        have A_u15_u13 := Lib.hid x42; clear x42
        have A_u15_u14 := Lib.hid x43; clear x43
        have hap := trivial
        have HB9 := Lib.hid (HB8.out.grown hg HB8.out.size (fun _ h => by cases h)); clear HB8
        have XP0 := Lib.hid (XP0.out.grown hg)
        have XP1 := Lib.hid (XP1.out.grown hg)
        clear ho1 ho2 ho3 ho4 ho5 hap hg
        obtain ⟨u11_a, u11_n, u11_c, hu11, Nu11⟩ := Ou11.out.sees.shape; subst hu11
        obtain ⟨u12_a, u12_n, u12_c, hu12, Nu12⟩ := Ou12.out.sees.shape; subst hu12
        obtain ⟨u13_a, u13_n, u13_c, hu13, Nu13⟩ := Ou13.out.sees.shape; subst hu13
        obtain ⟨u14_a, u14_n, u14_c, hu14, Nu14⟩ := Ou14.out.sees.shape; subst hu14
        obtain ⟨u15_a, u15_n, u15_c, hu15, Nu15⟩ := Ou15.out.sees.shape; subst hu15
        have hgb := World.grownBy_alloc w8 (.cells #[.int .i64 aLW, .int .i64 aLH, .slice u11_a u11_n u11_c, .int .i64 aXBase, .int .i64 aRM, .int .i64 aRW, .slice u12_a u12_n u12_c, .int .i64 aPA, .int .i64 aPF, .slice u13_a u13_n u13_c, .slice u14_a u14_n u14_c, .slice u15_a u15_n u15_c, .int .i64 aXDay, .int .i64 aXGiven, .int .i64 aXEaten] 67 (0, 0)) none
        have D_u11_B16 := Lib.hid (Ou11.out.off' (Nat.le_refl _))
        have D_u12_B16 := Lib.hid (Ou12.out.off' (Nat.le_refl _))
        have D_u13_B16 := Lib.hid (Ou13.out.off' (Nat.le_refl _))
        have D_u14_B16 := Lib.hid (Ou14.out.off' (Nat.le_refl _))
        have D_u15_B16 := Lib.hid (Ou15.out.off' (Nat.le_refl _))
        have HB10 := Lib.hid (HB9.out.grown hgb HB9.out.size (fun _ h => by cases h)); clear HB9
        have Ou11 := Lib.hid (Ou11.out.grown hgb)
        have Ou12 := Lib.hid (Ou12.out.grown hgb)
        have Ou13 := Lib.hid (Ou13.out.grown hgb)
        have Ou14 := Lib.hid (Ou14.out.grown hgb)
        have Ou15 := Lib.hid (Ou15.out.grown hgb)
        have XP0 := Lib.hid (XP0.out.grown hgb)
        have XP1 := Lib.hid (XP1.out.grown hgb)
        have XB16 := Lib.hid (box_new w8 #[.int .i64 aLW, .int .i64 aLH, .slice u11_a u11_n u11_c, .int .i64 aXBase, .int .i64 aRM, .int .i64 aRW, .slice u12_a u12_n u12_c, .int .i64 aPA, .int .i64 aPF, .slice u13_a u13_n u13_c, .slice u14_a u14_n u14_c, .slice u15_a u15_n u15_c, .int .i64 aXDay, .int .i64 aXGiven, .int .i64 aXEaten] 67); clear hgb
        try clear cP0_0
        have cP0_0 : World.cell? (w8.alloc (.cells #[.int .i64 aLW, .int .i64 aLH, .slice u11_a u11_n u11_c, .int .i64 aXBase, .int .i64 aRM, .int .i64 aRW, .slice u12_a u12_n u12_c, .int .i64 aPA, .int .i64 aPF, .slice u13_a u13_n u13_c, .slice u14_a u14_n u14_c, .slice u15_a u15_n u15_c, .int .i64 aXDay, .int .i64 aXGiven, .int .i64 aXEaten] 67 (0, 0))) ⟨w.heap.size, 0, none⟩ = some (.int .i64 aLW) := XP0.out.cell 0
        try clear cP0_1
        have cP0_1 : World.cell? (w8.alloc (.cells #[.int .i64 aLW, .int .i64 aLH, .slice u11_a u11_n u11_c, .int .i64 aXBase, .int .i64 aRM, .int .i64 aRW, .slice u12_a u12_n u12_c, .int .i64 aPA, .int .i64 aPF, .slice u13_a u13_n u13_c, .slice u14_a u14_n u14_c, .slice u15_a u15_n u15_c, .int .i64 aXDay, .int .i64 aXGiven, .int .i64 aXEaten] 67 (0, 0))) ⟨w.heap.size, 1, none⟩ = some (.int .i64 aLH) := XP0.out.cell 1
        try clear cP0_2
        have cP0_2 : World.cell? (w8.alloc (.cells #[.int .i64 aLW, .int .i64 aLH, .slice u11_a u11_n u11_c, .int .i64 aXBase, .int .i64 aRM, .int .i64 aRW, .slice u12_a u12_n u12_c, .int .i64 aPA, .int .i64 aPF, .slice u13_a u13_n u13_c, .slice u14_a u14_n u14_c, .slice u15_a u15_n u15_c, .int .i64 aXDay, .int .i64 aXGiven, .int .i64 aXEaten] 67 (0, 0))) ⟨w.heap.size, 2, none⟩ = some (.slice aLC_a aLC_L.length aLC_cap) := XP0.out.cell 2
        try clear cP0_3
        have cP0_3 : World.cell? (w8.alloc (.cells #[.int .i64 aLW, .int .i64 aLH, .slice u11_a u11_n u11_c, .int .i64 aXBase, .int .i64 aRM, .int .i64 aRW, .slice u12_a u12_n u12_c, .int .i64 aPA, .int .i64 aPF, .slice u13_a u13_n u13_c, .slice u14_a u14_n u14_c, .slice u15_a u15_n u15_c, .int .i64 aXDay, .int .i64 aXGiven, .int .i64 aXEaten] 67 (0, 0))) ⟨w.heap.size, 3, none⟩ = some (.int .i64 aXBase) := XP0.out.cell 3
        try clear cP0_4
        have cP0_4 : World.cell? (w8.alloc (.cells #[.int .i64 aLW, .int .i64 aLH, .slice u11_a u11_n u11_c, .int .i64 aXBase, .int .i64 aRM, .int .i64 aRW, .slice u12_a u12_n u12_c, .int .i64 aPA, .int .i64 aPF, .slice u13_a u13_n u13_c, .slice u14_a u14_n u14_c, .slice u15_a u15_n u15_c, .int .i64 aXDay, .int .i64 aXGiven, .int .i64 aXEaten] 67 (0, 0))) ⟨w.heap.size, 4, none⟩ = some (.int .i64 aRM) := XP0.out.cell 4
        try clear cP0_5
        have cP0_5 : World.cell? (w8.alloc (.cells #[.int .i64 aLW, .int .i64 aLH, .slice u11_a u11_n u11_c, .int .i64 aXBase, .int .i64 aRM, .int .i64 aRW, .slice u12_a u12_n u12_c, .int .i64 aPA, .int .i64 aPF, .slice u13_a u13_n u13_c, .slice u14_a u14_n u14_c, .slice u15_a u15_n u15_c, .int .i64 aXDay, .int .i64 aXGiven, .int .i64 aXEaten] 67 (0, 0))) ⟨w.heap.size, 5, none⟩ = some (.int .i64 aRW) := XP0.out.cell 5
        try clear cP0_6
        have cP0_6 : World.cell? (w8.alloc (.cells #[.int .i64 aLW, .int .i64 aLH, .slice u11_a u11_n u11_c, .int .i64 aXBase, .int .i64 aRM, .int .i64 aRW, .slice u12_a u12_n u12_c, .int .i64 aPA, .int .i64 aPF, .slice u13_a u13_n u13_c, .slice u14_a u14_n u14_c, .slice u15_a u15_n u15_c, .int .i64 aXDay, .int .i64 aXGiven, .int .i64 aXEaten] 67 (0, 0))) ⟨w.heap.size, 6, none⟩ = some (.slice aDp_a aDp_L.length aDp_cap) := XP0.out.cell 6
        try clear cP0_7
        have cP0_7 : World.cell? (w8.alloc (.cells #[.int .i64 aLW, .int .i64 aLH, .slice u11_a u11_n u11_c, .int .i64 aXBase, .int .i64 aRM, .int .i64 aRW, .slice u12_a u12_n u12_c, .int .i64 aPA, .int .i64 aPF, .slice u13_a u13_n u13_c, .slice u14_a u14_n u14_c, .slice u15_a u15_n u15_c, .int .i64 aXDay, .int .i64 aXGiven, .int .i64 aXEaten] 67 (0, 0))) ⟨w.heap.size, 7, none⟩ = some (.int .i64 aPA) := XP0.out.cell 7
        try clear cP0_8
        have cP0_8 : World.cell? (w8.alloc (.cells #[.int .i64 aLW, .int .i64 aLH, .slice u11_a u11_n u11_c, .int .i64 aXBase, .int .i64 aRM, .int .i64 aRW, .slice u12_a u12_n u12_c, .int .i64 aPA, .int .i64 aPF, .slice u13_a u13_n u13_c, .slice u14_a u14_n u14_c, .slice u15_a u15_n u15_c, .int .i64 aXDay, .int .i64 aXGiven, .int .i64 aXEaten] 67 (0, 0))) ⟨w.heap.size, 8, none⟩ = some (.int .i64 aPF) := XP0.out.cell 8
        try clear cP0_9
        have cP0_9 : World.cell? (w8.alloc (.cells #[.int .i64 aLW, .int .i64 aLH, .slice u11_a u11_n u11_c, .int .i64 aXBase, .int .i64 aRM, .int .i64 aRW, .slice u12_a u12_n u12_c, .int .i64 aPA, .int .i64 aPF, .slice u13_a u13_n u13_c, .slice u14_a u14_n u14_c, .slice u15_a u15_n u15_c, .int .i64 aXDay, .int .i64 aXGiven, .int .i64 aXEaten] 67 (0, 0))) ⟨w.heap.size, 9, none⟩ = some (.slice aPC_a aPC_L.length aPC_cap) := XP0.out.cell 9
        try clear cP0_10
        have cP0_10 : World.cell? (w8.alloc (.cells #[.int .i64 aLW, .int .i64 aLH, .slice u11_a u11_n u11_c, .int .i64 aXBase, .int .i64 aRM, .int .i64 aRW, .slice u12_a u12_n u12_c, .int .i64 aPA, .int .i64 aPF, .slice u13_a u13_n u13_c, .slice u14_a u14_n u14_c, .slice u15_a u15_n u15_c, .int .i64 aXDay, .int .i64 aXGiven, .int .i64 aXEaten] 67 (0, 0))) ⟨w.heap.size, 10, none⟩ = some (.slice aPP_a aPP_L.length aPP_cap) := XP0.out.cell 10
        try clear cP0_11
        have cP0_11 : World.cell? (w8.alloc (.cells #[.int .i64 aLW, .int .i64 aLH, .slice u11_a u11_n u11_c, .int .i64 aXBase, .int .i64 aRM, .int .i64 aRW, .slice u12_a u12_n u12_c, .int .i64 aPA, .int .i64 aPF, .slice u13_a u13_n u13_c, .slice u14_a u14_n u14_c, .slice u15_a u15_n u15_c, .int .i64 aXDay, .int .i64 aXGiven, .int .i64 aXEaten] 67 (0, 0))) ⟨w.heap.size, 11, none⟩ = some (.slice aJn_a aJn_L.length aJn_cap) := XP0.out.cell 11
        try clear cP0_12
        have cP0_12 : World.cell? (w8.alloc (.cells #[.int .i64 aLW, .int .i64 aLH, .slice u11_a u11_n u11_c, .int .i64 aXBase, .int .i64 aRM, .int .i64 aRW, .slice u12_a u12_n u12_c, .int .i64 aPA, .int .i64 aPF, .slice u13_a u13_n u13_c, .slice u14_a u14_n u14_c, .slice u15_a u15_n u15_c, .int .i64 aXDay, .int .i64 aXGiven, .int .i64 aXEaten] 67 (0, 0))) ⟨w.heap.size, 12, none⟩ = some (.int .i64 aXDay) := XP0.out.cell 12
        try clear cP0_13
        have cP0_13 : World.cell? (w8.alloc (.cells #[.int .i64 aLW, .int .i64 aLH, .slice u11_a u11_n u11_c, .int .i64 aXBase, .int .i64 aRM, .int .i64 aRW, .slice u12_a u12_n u12_c, .int .i64 aPA, .int .i64 aPF, .slice u13_a u13_n u13_c, .slice u14_a u14_n u14_c, .slice u15_a u15_n u15_c, .int .i64 aXDay, .int .i64 aXGiven, .int .i64 aXEaten] 67 (0, 0))) ⟨w.heap.size, 13, none⟩ = some (.int .i64 aXGiven) := XP0.out.cell 13
        try clear cP0_14
        have cP0_14 : World.cell? (w8.alloc (.cells #[.int .i64 aLW, .int .i64 aLH, .slice u11_a u11_n u11_c, .int .i64 aXBase, .int .i64 aRM, .int .i64 aRW, .slice u12_a u12_n u12_c, .int .i64 aPA, .int .i64 aPF, .slice u13_a u13_n u13_c, .slice u14_a u14_n u14_c, .slice u15_a u15_n u15_c, .int .i64 aXDay, .int .i64 aXGiven, .int .i64 aXEaten] 67 (0, 0))) ⟨w.heap.size, 14, none⟩ = some (.int .i64 aXEaten) := XP0.out.cell 14
        try clear cP1_0
        have cP1_0 : World.cell? (w8.alloc (.cells #[.int .i64 aLW, .int .i64 aLH, .slice u11_a u11_n u11_c, .int .i64 aXBase, .int .i64 aRM, .int .i64 aRW, .slice u12_a u12_n u12_c, .int .i64 aPA, .int .i64 aPF, .slice u13_a u13_n u13_c, .slice u14_a u14_n u14_c, .slice u15_a u15_n u15_c, .int .i64 aXDay, .int .i64 aXGiven, .int .i64 aXEaten] 67 (0, 0))) ⟨w.heap.size + 1, 0, none⟩ = some (.int .i64 bLW) := XP1.out.cell 0
        try clear cP1_1
        have cP1_1 : World.cell? (w8.alloc (.cells #[.int .i64 aLW, .int .i64 aLH, .slice u11_a u11_n u11_c, .int .i64 aXBase, .int .i64 aRM, .int .i64 aRW, .slice u12_a u12_n u12_c, .int .i64 aPA, .int .i64 aPF, .slice u13_a u13_n u13_c, .slice u14_a u14_n u14_c, .slice u15_a u15_n u15_c, .int .i64 aXDay, .int .i64 aXGiven, .int .i64 aXEaten] 67 (0, 0))) ⟨w.heap.size + 1, 1, none⟩ = some (.int .i64 bLH) := XP1.out.cell 1
        try clear cP1_2
        have cP1_2 : World.cell? (w8.alloc (.cells #[.int .i64 aLW, .int .i64 aLH, .slice u11_a u11_n u11_c, .int .i64 aXBase, .int .i64 aRM, .int .i64 aRW, .slice u12_a u12_n u12_c, .int .i64 aPA, .int .i64 aPF, .slice u13_a u13_n u13_c, .slice u14_a u14_n u14_c, .slice u15_a u15_n u15_c, .int .i64 aXDay, .int .i64 aXGiven, .int .i64 aXEaten] 67 (0, 0))) ⟨w.heap.size + 1, 2, none⟩ = some (.slice bLC_a bLC_L.length bLC_cap) := XP1.out.cell 2
        try clear cP1_3
        have cP1_3 : World.cell? (w8.alloc (.cells #[.int .i64 aLW, .int .i64 aLH, .slice u11_a u11_n u11_c, .int .i64 aXBase, .int .i64 aRM, .int .i64 aRW, .slice u12_a u12_n u12_c, .int .i64 aPA, .int .i64 aPF, .slice u13_a u13_n u13_c, .slice u14_a u14_n u14_c, .slice u15_a u15_n u15_c, .int .i64 aXDay, .int .i64 aXGiven, .int .i64 aXEaten] 67 (0, 0))) ⟨w.heap.size + 1, 3, none⟩ = some (.int .i64 bXBase) := XP1.out.cell 3
        try clear cP1_4
        have cP1_4 : World.cell? (w8.alloc (.cells #[.int .i64 aLW, .int .i64 aLH, .slice u11_a u11_n u11_c, .int .i64 aXBase, .int .i64 aRM, .int .i64 aRW, .slice u12_a u12_n u12_c, .int .i64 aPA, .int .i64 aPF, .slice u13_a u13_n u13_c, .slice u14_a u14_n u14_c, .slice u15_a u15_n u15_c, .int .i64 aXDay, .int .i64 aXGiven, .int .i64 aXEaten] 67 (0, 0))) ⟨w.heap.size + 1, 4, none⟩ = some (.int .i64 bRM) := XP1.out.cell 4
        try clear cP1_5
        have cP1_5 : World.cell? (w8.alloc (.cells #[.int .i64 aLW, .int .i64 aLH, .slice u11_a u11_n u11_c, .int .i64 aXBase, .int .i64 aRM, .int .i64 aRW, .slice u12_a u12_n u12_c, .int .i64 aPA, .int .i64 aPF, .slice u13_a u13_n u13_c, .slice u14_a u14_n u14_c, .slice u15_a u15_n u15_c, .int .i64 aXDay, .int .i64 aXGiven, .int .i64 aXEaten] 67 (0, 0))) ⟨w.heap.size + 1, 5, none⟩ = some (.int .i64 bRW) := XP1.out.cell 5
        try clear cP1_6
        have cP1_6 : World.cell? (w8.alloc (.cells #[.int .i64 aLW, .int .i64 aLH, .slice u11_a u11_n u11_c, .int .i64 aXBase, .int .i64 aRM, .int .i64 aRW, .slice u12_a u12_n u12_c, .int .i64 aPA, .int .i64 aPF, .slice u13_a u13_n u13_c, .slice u14_a u14_n u14_c, .slice u15_a u15_n u15_c, .int .i64 aXDay, .int .i64 aXGiven, .int .i64 aXEaten] 67 (0, 0))) ⟨w.heap.size + 1, 6, none⟩ = some (.slice bDp_a bDp_L.length bDp_cap) := XP1.out.cell 6
        try clear cP1_7
        have cP1_7 : World.cell? (w8.alloc (.cells #[.int .i64 aLW, .int .i64 aLH, .slice u11_a u11_n u11_c, .int .i64 aXBase, .int .i64 aRM, .int .i64 aRW, .slice u12_a u12_n u12_c, .int .i64 aPA, .int .i64 aPF, .slice u13_a u13_n u13_c, .slice u14_a u14_n u14_c, .slice u15_a u15_n u15_c, .int .i64 aXDay, .int .i64 aXGiven, .int .i64 aXEaten] 67 (0, 0))) ⟨w.heap.size + 1, 7, none⟩ = some (.int .i64 bPA) := XP1.out.cell 7
        try clear cP1_8
        have cP1_8 : World.cell? (w8.alloc (.cells #[.int .i64 aLW, .int .i64 aLH, .slice u11_a u11_n u11_c, .int .i64 aXBase, .int .i64 aRM, .int .i64 aRW, .slice u12_a u12_n u12_c, .int .i64 aPA, .int .i64 aPF, .slice u13_a u13_n u13_c, .slice u14_a u14_n u14_c, .slice u15_a u15_n u15_c, .int .i64 aXDay, .int .i64 aXGiven, .int .i64 aXEaten] 67 (0, 0))) ⟨w.heap.size + 1, 8, none⟩ = some (.int .i64 bPF) := XP1.out.cell 8
        try clear cP1_9
        have cP1_9 : World.cell? (w8.alloc (.cells #[.int .i64 aLW, .int .i64 aLH, .slice u11_a u11_n u11_c, .int .i64 aXBase, .int .i64 aRM, .int .i64 aRW, .slice u12_a u12_n u12_c, .int .i64 aPA, .int .i64 aPF, .slice u13_a u13_n u13_c, .slice u14_a u14_n u14_c, .slice u15_a u15_n u15_c, .int .i64 aXDay, .int .i64 aXGiven, .int .i64 aXEaten] 67 (0, 0))) ⟨w.heap.size + 1, 9, none⟩ = some (.slice bPC_a bPC_L.length bPC_cap) := XP1.out.cell 9
        try clear cP1_10
        have cP1_10 : World.cell? (w8.alloc (.cells #[.int .i64 aLW, .int .i64 aLH, .slice u11_a u11_n u11_c, .int .i64 aXBase, .int .i64 aRM, .int .i64 aRW, .slice u12_a u12_n u12_c, .int .i64 aPA, .int .i64 aPF, .slice u13_a u13_n u13_c, .slice u14_a u14_n u14_c, .slice u15_a u15_n u15_c, .int .i64 aXDay, .int .i64 aXGiven, .int .i64 aXEaten] 67 (0, 0))) ⟨w.heap.size + 1, 10, none⟩ = some (.slice bPP_a bPP_L.length bPP_cap) := XP1.out.cell 10
        try clear cP1_11
        have cP1_11 : World.cell? (w8.alloc (.cells #[.int .i64 aLW, .int .i64 aLH, .slice u11_a u11_n u11_c, .int .i64 aXBase, .int .i64 aRM, .int .i64 aRW, .slice u12_a u12_n u12_c, .int .i64 aPA, .int .i64 aPF, .slice u13_a u13_n u13_c, .slice u14_a u14_n u14_c, .slice u15_a u15_n u15_c, .int .i64 aXDay, .int .i64 aXGiven, .int .i64 aXEaten] 67 (0, 0))) ⟨w.heap.size + 1, 11, none⟩ = some (.slice bJn_a bJn_L.length bJn_cap) := XP1.out.cell 11
        try clear cP1_12
        have cP1_12 : World.cell? (w8.alloc (.cells #[.int .i64 aLW, .int .i64 aLH, .slice u11_a u11_n u11_c, .int .i64 aXBase, .int .i64 aRM, .int .i64 aRW, .slice u12_a u12_n u12_c, .int .i64 aPA, .int .i64 aPF, .slice u13_a u13_n u13_c, .slice u14_a u14_n u14_c, .slice u15_a u15_n u15_c, .int .i64 aXDay, .int .i64 aXGiven, .int .i64 aXEaten] 67 (0, 0))) ⟨w.heap.size + 1, 12, none⟩ = some (.int .i64 bXDay) := XP1.out.cell 12
        try clear cP1_13
        have cP1_13 : World.cell? (w8.alloc (.cells #[.int .i64 aLW, .int .i64 aLH, .slice u11_a u11_n u11_c, .int .i64 aXBase, .int .i64 aRM, .int .i64 aRW, .slice u12_a u12_n u12_c, .int .i64 aPA, .int .i64 aPF, .slice u13_a u13_n u13_c, .slice u14_a u14_n u14_c, .slice u15_a u15_n u15_c, .int .i64 aXDay, .int .i64 aXGiven, .int .i64 aXEaten] 67 (0, 0))) ⟨w.heap.size + 1, 13, none⟩ = some (.int .i64 bXGiven) := XP1.out.cell 13
        try clear cP1_14
        have cP1_14 : World.cell? (w8.alloc (.cells #[.int .i64 aLW, .int .i64 aLH, .slice u11_a u11_n u11_c, .int .i64 aXBase, .int .i64 aRM, .int .i64 aRW, .slice u12_a u12_n u12_c, .int .i64 aPA, .int .i64 aPF, .slice u13_a u13_n u13_c, .slice u14_a u14_n u14_c, .slice u15_a u15_n u15_c, .int .i64 aXDay, .int .i64 aXGiven, .int .i64 aXEaten] 67 (0, 0))) ⟨w.heap.size + 1, 14, none⟩ = some (.int .i64 bXEaten) := XP1.out.cell 14
        try clear cB16_0
        have cB16_0 : World.cell? (w8.alloc (.cells #[.int .i64 aLW, .int .i64 aLH, .slice u11_a u11_n u11_c, .int .i64 aXBase, .int .i64 aRM, .int .i64 aRW, .slice u12_a u12_n u12_c, .int .i64 aPA, .int .i64 aPF, .slice u13_a u13_n u13_c, .slice u14_a u14_n u14_c, .slice u15_a u15_n u15_c, .int .i64 aXDay, .int .i64 aXGiven, .int .i64 aXEaten] 67 (0, 0))) ⟨w8.heap.size, 0, none⟩ = some (.int .i64 aLW) := XB16.out.cell 0
        try clear cB16_1
        have cB16_1 : World.cell? (w8.alloc (.cells #[.int .i64 aLW, .int .i64 aLH, .slice u11_a u11_n u11_c, .int .i64 aXBase, .int .i64 aRM, .int .i64 aRW, .slice u12_a u12_n u12_c, .int .i64 aPA, .int .i64 aPF, .slice u13_a u13_n u13_c, .slice u14_a u14_n u14_c, .slice u15_a u15_n u15_c, .int .i64 aXDay, .int .i64 aXGiven, .int .i64 aXEaten] 67 (0, 0))) ⟨w8.heap.size, 1, none⟩ = some (.int .i64 aLH) := XB16.out.cell 1
        try clear cB16_2
        have cB16_2 : World.cell? (w8.alloc (.cells #[.int .i64 aLW, .int .i64 aLH, .slice u11_a u11_n u11_c, .int .i64 aXBase, .int .i64 aRM, .int .i64 aRW, .slice u12_a u12_n u12_c, .int .i64 aPA, .int .i64 aPF, .slice u13_a u13_n u13_c, .slice u14_a u14_n u14_c, .slice u15_a u15_n u15_c, .int .i64 aXDay, .int .i64 aXGiven, .int .i64 aXEaten] 67 (0, 0))) ⟨w8.heap.size, 2, none⟩ = some (.slice u11_a u11_n u11_c) := XB16.out.cell 2
        try clear cB16_3
        have cB16_3 : World.cell? (w8.alloc (.cells #[.int .i64 aLW, .int .i64 aLH, .slice u11_a u11_n u11_c, .int .i64 aXBase, .int .i64 aRM, .int .i64 aRW, .slice u12_a u12_n u12_c, .int .i64 aPA, .int .i64 aPF, .slice u13_a u13_n u13_c, .slice u14_a u14_n u14_c, .slice u15_a u15_n u15_c, .int .i64 aXDay, .int .i64 aXGiven, .int .i64 aXEaten] 67 (0, 0))) ⟨w8.heap.size, 3, none⟩ = some (.int .i64 aXBase) := XB16.out.cell 3
        try clear cB16_4
        have cB16_4 : World.cell? (w8.alloc (.cells #[.int .i64 aLW, .int .i64 aLH, .slice u11_a u11_n u11_c, .int .i64 aXBase, .int .i64 aRM, .int .i64 aRW, .slice u12_a u12_n u12_c, .int .i64 aPA, .int .i64 aPF, .slice u13_a u13_n u13_c, .slice u14_a u14_n u14_c, .slice u15_a u15_n u15_c, .int .i64 aXDay, .int .i64 aXGiven, .int .i64 aXEaten] 67 (0, 0))) ⟨w8.heap.size, 4, none⟩ = some (.int .i64 aRM) := XB16.out.cell 4
        try clear cB16_5
        have cB16_5 : World.cell? (w8.alloc (.cells #[.int .i64 aLW, .int .i64 aLH, .slice u11_a u11_n u11_c, .int .i64 aXBase, .int .i64 aRM, .int .i64 aRW, .slice u12_a u12_n u12_c, .int .i64 aPA, .int .i64 aPF, .slice u13_a u13_n u13_c, .slice u14_a u14_n u14_c, .slice u15_a u15_n u15_c, .int .i64 aXDay, .int .i64 aXGiven, .int .i64 aXEaten] 67 (0, 0))) ⟨w8.heap.size, 5, none⟩ = some (.int .i64 aRW) := XB16.out.cell 5
        try clear cB16_6
        have cB16_6 : World.cell? (w8.alloc (.cells #[.int .i64 aLW, .int .i64 aLH, .slice u11_a u11_n u11_c, .int .i64 aXBase, .int .i64 aRM, .int .i64 aRW, .slice u12_a u12_n u12_c, .int .i64 aPA, .int .i64 aPF, .slice u13_a u13_n u13_c, .slice u14_a u14_n u14_c, .slice u15_a u15_n u15_c, .int .i64 aXDay, .int .i64 aXGiven, .int .i64 aXEaten] 67 (0, 0))) ⟨w8.heap.size, 6, none⟩ = some (.slice u12_a u12_n u12_c) := XB16.out.cell 6
        try clear cB16_7
        have cB16_7 : World.cell? (w8.alloc (.cells #[.int .i64 aLW, .int .i64 aLH, .slice u11_a u11_n u11_c, .int .i64 aXBase, .int .i64 aRM, .int .i64 aRW, .slice u12_a u12_n u12_c, .int .i64 aPA, .int .i64 aPF, .slice u13_a u13_n u13_c, .slice u14_a u14_n u14_c, .slice u15_a u15_n u15_c, .int .i64 aXDay, .int .i64 aXGiven, .int .i64 aXEaten] 67 (0, 0))) ⟨w8.heap.size, 7, none⟩ = some (.int .i64 aPA) := XB16.out.cell 7
        try clear cB16_8
        have cB16_8 : World.cell? (w8.alloc (.cells #[.int .i64 aLW, .int .i64 aLH, .slice u11_a u11_n u11_c, .int .i64 aXBase, .int .i64 aRM, .int .i64 aRW, .slice u12_a u12_n u12_c, .int .i64 aPA, .int .i64 aPF, .slice u13_a u13_n u13_c, .slice u14_a u14_n u14_c, .slice u15_a u15_n u15_c, .int .i64 aXDay, .int .i64 aXGiven, .int .i64 aXEaten] 67 (0, 0))) ⟨w8.heap.size, 8, none⟩ = some (.int .i64 aPF) := XB16.out.cell 8
        try clear cB16_9
        have cB16_9 : World.cell? (w8.alloc (.cells #[.int .i64 aLW, .int .i64 aLH, .slice u11_a u11_n u11_c, .int .i64 aXBase, .int .i64 aRM, .int .i64 aRW, .slice u12_a u12_n u12_c, .int .i64 aPA, .int .i64 aPF, .slice u13_a u13_n u13_c, .slice u14_a u14_n u14_c, .slice u15_a u15_n u15_c, .int .i64 aXDay, .int .i64 aXGiven, .int .i64 aXEaten] 67 (0, 0))) ⟨w8.heap.size, 9, none⟩ = some (.slice u13_a u13_n u13_c) := XB16.out.cell 9
        try clear cB16_10
        have cB16_10 : World.cell? (w8.alloc (.cells #[.int .i64 aLW, .int .i64 aLH, .slice u11_a u11_n u11_c, .int .i64 aXBase, .int .i64 aRM, .int .i64 aRW, .slice u12_a u12_n u12_c, .int .i64 aPA, .int .i64 aPF, .slice u13_a u13_n u13_c, .slice u14_a u14_n u14_c, .slice u15_a u15_n u15_c, .int .i64 aXDay, .int .i64 aXGiven, .int .i64 aXEaten] 67 (0, 0))) ⟨w8.heap.size, 10, none⟩ = some (.slice u14_a u14_n u14_c) := XB16.out.cell 10
        try clear cB16_11
        have cB16_11 : World.cell? (w8.alloc (.cells #[.int .i64 aLW, .int .i64 aLH, .slice u11_a u11_n u11_c, .int .i64 aXBase, .int .i64 aRM, .int .i64 aRW, .slice u12_a u12_n u12_c, .int .i64 aPA, .int .i64 aPF, .slice u13_a u13_n u13_c, .slice u14_a u14_n u14_c, .slice u15_a u15_n u15_c, .int .i64 aXDay, .int .i64 aXGiven, .int .i64 aXEaten] 67 (0, 0))) ⟨w8.heap.size, 11, none⟩ = some (.slice u15_a u15_n u15_c) := XB16.out.cell 11
        try clear cB16_12
        have cB16_12 : World.cell? (w8.alloc (.cells #[.int .i64 aLW, .int .i64 aLH, .slice u11_a u11_n u11_c, .int .i64 aXBase, .int .i64 aRM, .int .i64 aRW, .slice u12_a u12_n u12_c, .int .i64 aPA, .int .i64 aPF, .slice u13_a u13_n u13_c, .slice u14_a u14_n u14_c, .slice u15_a u15_n u15_c, .int .i64 aXDay, .int .i64 aXGiven, .int .i64 aXEaten] 67 (0, 0))) ⟨w8.heap.size, 12, none⟩ = some (.int .i64 aXDay) := XB16.out.cell 12
        try clear cB16_13
        have cB16_13 : World.cell? (w8.alloc (.cells #[.int .i64 aLW, .int .i64 aLH, .slice u11_a u11_n u11_c, .int .i64 aXBase, .int .i64 aRM, .int .i64 aRW, .slice u12_a u12_n u12_c, .int .i64 aPA, .int .i64 aPF, .slice u13_a u13_n u13_c, .slice u14_a u14_n u14_c, .slice u15_a u15_n u15_c, .int .i64 aXDay, .int .i64 aXGiven, .int .i64 aXEaten] 67 (0, 0))) ⟨w8.heap.size, 13, none⟩ = some (.int .i64 aXGiven) := XB16.out.cell 13
        try clear cB16_14
        have cB16_14 : World.cell? (w8.alloc (.cells #[.int .i64 aLW, .int .i64 aLH, .slice u11_a u11_n u11_c, .int .i64 aXBase, .int .i64 aRM, .int .i64 aRW, .slice u12_a u12_n u12_c, .int .i64 aPA, .int .i64 aPF, .slice u13_a u13_n u13_c, .slice u14_a u14_n u14_c, .slice u15_a u15_n u15_c, .int .i64 aXDay, .int .i64 aXGiven, .int .i64 aXEaten] 67 (0, 0))) ⟨w8.heap.size, 14, none⟩ = some (.int .i64 aXEaten) := XB16.out.cell 14
        go_wp2_with fail
        generalize w8.alloc (.cells #[.int .i64 aLW, .int .i64 aLH, .slice u11_a u11_n u11_c, .int .i64 aXBase, .int .i64 aRM, .int .i64 aRW, .slice u12_a u12_n u12_c, .int .i64 aPA, .int .i64 aPF, .slice u13_a u13_n u13_c, .slice u14_a u14_n u14_c, .slice u15_a u15_n u15_c, .int .i64 aXDay, .int .i64 aXGiven, .int .i64 aXEaten] 67 (0, 0)) = w9 at *
        refine (TrekL.toTrek_any w9 bLW bLH bXBase bRM bRW bPA bPF bXDay bXGiven bXEaten _ _ _ _ _ _ _ _ _ _ (bLC_S.out.below HB10.out) (bDp_S.out.below HB10.out) (bPC_S.out.below HB10.out) (bPP_S.out.below HB10.out) (bJn_S.out.below HB10.out) (by omega) (by omega) (by omega) (by omega) (by omega)).mono ?_
        rintro e w10 ⟨u17, u18, u19, u20, u21, rfl, ho1, ho2, ho3, ho4, ho5, hap, hg⟩
        as_aux_lemma =>
          have A_u17_u11 := Lib.hid (Rg.apart_lt ho1.lt Ou11.out.lt (Nat.le_refl _))
          have A_u17_u12 := Lib.hid (Rg.apart_lt ho1.lt Ou12.out.lt (Nat.le_refl _))
          have A_u17_u13 := Lib.hid (Rg.apart_lt ho1.lt Ou13.out.lt (Nat.le_refl _))
          have A_u17_u14 := Lib.hid (Rg.apart_lt ho1.lt Ou14.out.lt (Nat.le_refl _))
          have A_u17_u15 := Lib.hid (Rg.apart_lt ho1.lt Ou15.out.lt (Nat.le_refl _))
          have D_u17_P0 := Lib.hid (ho1.off XP0.out.lt)
          have D_u17_P1 := Lib.hid (ho1.off XP1.out.lt)
          have D_u17_B16 := Lib.hid (ho1.off XB16.out.lt)
          have Ou17 := Lib.hid (ho1.lower HB10.out.size)
          have A_u18_u11 := Lib.hid (Rg.apart_lt ho2.lt Ou11.out.lt (Nat.le_refl _))
          have A_u18_u12 := Lib.hid (Rg.apart_lt ho2.lt Ou12.out.lt (Nat.le_refl _))
          have A_u18_u13 := Lib.hid (Rg.apart_lt ho2.lt Ou13.out.lt (Nat.le_refl _))
          have A_u18_u14 := Lib.hid (Rg.apart_lt ho2.lt Ou14.out.lt (Nat.le_refl _))
          have A_u18_u15 := Lib.hid (Rg.apart_lt ho2.lt Ou15.out.lt (Nat.le_refl _))
          have D_u18_P0 := Lib.hid (ho2.off XP0.out.lt)
          have D_u18_P1 := Lib.hid (ho2.off XP1.out.lt)
          have D_u18_B16 := Lib.hid (ho2.off XB16.out.lt)
          have Ou18 := Lib.hid (ho2.lower HB10.out.size)
          have A_u19_u11 := Lib.hid (Rg.apart_lt ho3.lt Ou11.out.lt (Nat.le_refl _))
          have A_u19_u12 := Lib.hid (Rg.apart_lt ho3.lt Ou12.out.lt (Nat.le_refl _))
          have A_u19_u13 := Lib.hid (Rg.apart_lt ho3.lt Ou13.out.lt (Nat.le_refl _))
          have A_u19_u14 := Lib.hid (Rg.apart_lt ho3.lt Ou14.out.lt (Nat.le_refl _))
          have A_u19_u15 := Lib.hid (Rg.apart_lt ho3.lt Ou15.out.lt (Nat.le_refl _))
          have D_u19_P0 := Lib.hid (ho3.off XP0.out.lt)
          have D_u19_P1 := Lib.hid (ho3.off XP1.out.lt)
          have D_u19_B16 := Lib.hid (ho3.off XB16.out.lt)
          have Ou19 := Lib.hid (ho3.lower HB10.out.size)
          have A_u20_u11 := Lib.hid (Rg.apart_lt ho4.lt Ou11.out.lt (Nat.le_refl _))
          have A_u20_u12 := Lib.hid (Rg.apart_lt ho4.lt Ou12.out.lt (Nat.le_refl _))
          have A_u20_u13 := Lib.hid (Rg.apart_lt ho4.lt Ou13.out.lt (Nat.le_refl _))
          have A_u20_u14 := Lib.hid (Rg.apart_lt ho4.lt Ou14.out.lt (Nat.le_refl _))
          have A_u20_u15 := Lib.hid (Rg.apart_lt ho4.lt Ou15.out.lt (Nat.le_refl _))
          have D_u20_P0 := Lib.hid (ho4.off XP0.out.lt)
          have D_u20_P1 := Lib.hid (ho4.off XP1.out.lt)
          have D_u20_B16 := Lib.hid (ho4.off XB16.out.lt)
          have Ou20 := Lib.hid (ho4.lower HB10.out.size)
          have A_u21_u11 := Lib.hid (Rg.apart_lt ho5.lt Ou11.out.lt (Nat.le_refl _))
          have A_u21_u12 := Lib.hid (Rg.apart_lt ho5.lt Ou12.out.lt (Nat.le_refl _))
          have A_u21_u13 := Lib.hid (Rg.apart_lt ho5.lt Ou13.out.lt (Nat.le_refl _))
          have A_u21_u14 := Lib.hid (Rg.apart_lt ho5.lt Ou14.out.lt (Nat.le_refl _))
          have A_u21_u15 := Lib.hid (Rg.apart_lt ho5.lt Ou15.out.lt (Nat.le_refl _))
          have D_u21_P0 := Lib.hid (ho5.off XP0.out.lt)
          have D_u21_P1 := Lib.hid (ho5.off XP1.out.lt)
          have D_u21_B16 := Lib.hid (ho5.off XB16.out.lt)
          have Ou21 := Lib.hid (ho5.lower HB10.out.size)
          simp only [TrekL.ApN, List.mem_cons, List.not_mem_nil, or_false, forall_eq_or_imp, forall_eq] at hap
          obtain ⟨⟨x43, x42, x41, x40⟩, ⟨x32, x31, x30⟩, ⟨x21, x20⟩, x10, _⟩ := hap
          have A_u18_u17 := Lib.hid x10; clear x10
          have A_u19_u17 := Lib.hid x20; clear x20
          have A_u19_u18 := Lib.hid x21; clear x21
          have A_u20_u17 := Lib.hid x30; clear x30
          have A_u20_u18 := Lib.hid x31; clear x31
          have A_u20_u19 := Lib.hid x32; clear x32
          have A_u21_u17 := Lib.hid x40; clear x40
          have A_u21_u18 := Lib.hid x41; clear x41
          have A_u21_u19 := Lib.hid x42; clear x42
          have A_u21_u20 := Lib.hid x43; clear x43
          have hap := trivial
          have HB11 := Lib.hid (HB10.out.grown hg HB10.out.size (fun _ h => by cases h)); clear HB10
          have Ou11 := Lib.hid (Ou11.out.grown hg)
          have Ou12 := Lib.hid (Ou12.out.grown hg)
          have Ou13 := Lib.hid (Ou13.out.grown hg)
          have Ou14 := Lib.hid (Ou14.out.grown hg)
          have Ou15 := Lib.hid (Ou15.out.grown hg)
          have XP0 := Lib.hid (XP0.out.grown hg)
          have XP1 := Lib.hid (XP1.out.grown hg)
          have XB16 := Lib.hid (XB16.out.grown hg)
          clear ho1 ho2 ho3 ho4 ho5 hap hg
          obtain ⟨u17_a, u17_n, u17_c, hu17, Nu17⟩ := Ou17.out.sees.shape; subst hu17
          obtain ⟨u18_a, u18_n, u18_c, hu18, Nu18⟩ := Ou18.out.sees.shape; subst hu18
          obtain ⟨u19_a, u19_n, u19_c, hu19, Nu19⟩ := Ou19.out.sees.shape; subst hu19
          obtain ⟨u20_a, u20_n, u20_c, hu20, Nu20⟩ := Ou20.out.sees.shape; subst hu20
          obtain ⟨u21_a, u21_n, u21_c, hu21, Nu21⟩ := Ou21.out.sees.shape; subst hu21
          have hgb := World.grownBy_alloc w10 (.cells #[.int .i64 bLW, .int .i64 bLH, .slice u17_a u17_n u17_c, .int .i64 bXBase, .int .i64 bRM, .int .i64 bRW, .slice u18_a u18_n u18_c, .int .i64 bPA, .int .i64 bPF, .slice u19_a u19_n u19_c, .slice u20_a u20_n u20_c, .slice u21_a u21_n u21_c, .int .i64 bXDay, .int .i64 bXGiven, .int .i64 bXEaten] 67 (0, 0)) none
          have D_u11_B22 := Lib.hid (Ou11.out.off' (Nat.le_refl _))
          have D_u12_B22 := Lib.hid (Ou12.out.off' (Nat.le_refl _))
          have D_u13_B22 := Lib.hid (Ou13.out.off' (Nat.le_refl _))
          have D_u14_B22 := Lib.hid (Ou14.out.off' (Nat.le_refl _))
          have D_u15_B22 := Lib.hid (Ou15.out.off' (Nat.le_refl _))
          have D_u17_B22 := Lib.hid (Ou17.out.off' (Nat.le_refl _))
          have D_u18_B22 := Lib.hid (Ou18.out.off' (Nat.le_refl _))
          have D_u19_B22 := Lib.hid (Ou19.out.off' (Nat.le_refl _))
          have D_u20_B22 := Lib.hid (Ou20.out.off' (Nat.le_refl _))
          have D_u21_B22 := Lib.hid (Ou21.out.off' (Nat.le_refl _))
          have HB12 := Lib.hid (HB11.out.grown hgb HB11.out.size (fun _ h => by cases h)); clear HB11
          have Ou11 := Lib.hid (Ou11.out.grown hgb)
          have Ou12 := Lib.hid (Ou12.out.grown hgb)
          have Ou13 := Lib.hid (Ou13.out.grown hgb)
          have Ou14 := Lib.hid (Ou14.out.grown hgb)
          have Ou15 := Lib.hid (Ou15.out.grown hgb)
          have Ou17 := Lib.hid (Ou17.out.grown hgb)
          have Ou18 := Lib.hid (Ou18.out.grown hgb)
          have Ou19 := Lib.hid (Ou19.out.grown hgb)
          have Ou20 := Lib.hid (Ou20.out.grown hgb)
          have Ou21 := Lib.hid (Ou21.out.grown hgb)
          have XP0 := Lib.hid (XP0.out.grown hgb)
          have XP1 := Lib.hid (XP1.out.grown hgb)
          have XB16 := Lib.hid (XB16.out.grown hgb)
          have XB22 := Lib.hid (box_new w10 #[.int .i64 bLW, .int .i64 bLH, .slice u17_a u17_n u17_c, .int .i64 bXBase, .int .i64 bRM, .int .i64 bRW, .slice u18_a u18_n u18_c, .int .i64 bPA, .int .i64 bPF, .slice u19_a u19_n u19_c, .slice u20_a u20_n u20_c, .slice u21_a u21_n u21_c, .int .i64 bXDay, .int .i64 bXGiven, .int .i64 bXEaten] 67); clear hgb
          try clear cP0_0
          have cP0_0 : World.cell? (w10.alloc (.cells #[.int .i64 bLW, .int .i64 bLH, .slice u17_a u17_n u17_c, .int .i64 bXBase, .int .i64 bRM, .int .i64 bRW, .slice u18_a u18_n u18_c, .int .i64 bPA, .int .i64 bPF, .slice u19_a u19_n u19_c, .slice u20_a u20_n u20_c, .slice u21_a u21_n u21_c, .int .i64 bXDay, .int .i64 bXGiven, .int .i64 bXEaten] 67 (0, 0))) ⟨w.heap.size, 0, none⟩ = some (.int .i64 aLW) := XP0.out.cell 0
          try clear cP0_1
          have cP0_1 : World.cell? (w10.alloc (.cells #[.int .i64 bLW, .int .i64 bLH, .slice u17_a u17_n u17_c, .int .i64 bXBase, .int .i64 bRM, .int .i64 bRW, .slice u18_a u18_n u18_c, .int .i64 bPA, .int .i64 bPF, .slice u19_a u19_n u19_c, .slice u20_a u20_n u20_c, .slice u21_a u21_n u21_c, .int .i64 bXDay, .int .i64 bXGiven, .int .i64 bXEaten] 67 (0, 0))) ⟨w.heap.size, 1, none⟩ = some (.int .i64 aLH) := XP0.out.cell 1
          try clear cP0_2
          have cP0_2 : World.cell? (w10.alloc (.cells #[.int .i64 bLW, .int .i64 bLH, .slice u17_a u17_n u17_c, .int .i64 bXBase, .int .i64 bRM, .int .i64 bRW, .slice u18_a u18_n u18_c, .int .i64 bPA, .int .i64 bPF, .slice u19_a u19_n u19_c, .slice u20_a u20_n u20_c, .slice u21_a u21_n u21_c, .int .i64 bXDay, .int .i64 bXGiven, .int .i64 bXEaten] 67 (0, 0))) ⟨w.heap.size, 2, none⟩ = some (.slice aLC_a aLC_L.length aLC_cap) := XP0.out.cell 2
          try clear cP0_3
          have cP0_3 : World.cell? (w10.alloc (.cells #[.int .i64 bLW, .int .i64 bLH, .slice u17_a u17_n u17_c, .int .i64 bXBase, .int .i64 bRM, .int .i64 bRW, .slice u18_a u18_n u18_c, .int .i64 bPA, .int .i64 bPF, .slice u19_a u19_n u19_c, .slice u20_a u20_n u20_c, .slice u21_a u21_n u21_c, .int .i64 bXDay, .int .i64 bXGiven, .int .i64 bXEaten] 67 (0, 0))) ⟨w.heap.size, 3, none⟩ = some (.int .i64 aXBase) := XP0.out.cell 3
          try clear cP0_4
          have cP0_4 : World.cell? (w10.alloc (.cells #[.int .i64 bLW, .int .i64 bLH, .slice u17_a u17_n u17_c, .int .i64 bXBase, .int .i64 bRM, .int .i64 bRW, .slice u18_a u18_n u18_c, .int .i64 bPA, .int .i64 bPF, .slice u19_a u19_n u19_c, .slice u20_a u20_n u20_c, .slice u21_a u21_n u21_c, .int .i64 bXDay, .int .i64 bXGiven, .int .i64 bXEaten] 67 (0, 0))) ⟨w.heap.size, 4, none⟩ = some (.int .i64 aRM) := XP0.out.cell 4
          try clear cP0_5
          have cP0_5 : World.cell? (w10.alloc (.cells #[.int .i64 bLW, .int .i64 bLH, .slice u17_a u17_n u17_c, .int .i64 bXBase, .int .i64 bRM, .int .i64 bRW, .slice u18_a u18_n u18_c, .int .i64 bPA, .int .i64 bPF, .slice u19_a u19_n u19_c, .slice u20_a u20_n u20_c, .slice u21_a u21_n u21_c, .int .i64 bXDay, .int .i64 bXGiven, .int .i64 bXEaten] 67 (0, 0))) ⟨w.heap.size, 5, none⟩ = some (.int .i64 aRW) := XP0.out.cell 5
          try clear cP0_6
          have cP0_6 : World.cell? (w10.alloc (.cells #[.int .i64 bLW, .int .i64 bLH, .slice u17_a u17_n u17_c, .int .i64 bXBase, .int .i64 bRM, .int .i64 bRW, .slice u18_a u18_n u18_c, .int .i64 bPA, .int .i64 bPF, .slice u19_a u19_n u19_c, .slice u20_a u20_n u20_c, .slice u21_a u21_n u21_c, .int .i64 bXDay, .int .i64 bXGiven, .int .i64 bXEaten] 67 (0, 0))) ⟨w.heap.size, 6, none⟩ = some (.slice aDp_a aDp_L.length aDp_cap) := XP0.out.cell 6
          try clear cP0_7
          have cP0_7 : World.cell? (w10.alloc (.cells #[.int .i64 bLW, .int .i64 bLH, .slice u17_a u17_n u17_c, .int .i64 bXBase, .int .i64 bRM, .int .i64 bRW, .slice u18_a u18_n u18_c, .int .i64 bPA, .int .i64 bPF, .slice u19_a u19_n u19_c, .slice u20_a u20_n u20_c, .slice u21_a u21_n u21_c, .int .i64 bXDay, .int .i64 bXGiven, .int .i64 bXEaten] 67 (0, 0))) ⟨w.heap.size, 7, none⟩ = some (.int .i64 aPA) := XP0.out.cell 7
          try clear cP0_8
          have cP0_8 : World.cell? (w10.alloc (.cells #[.int .i64 bLW, .int .i64 bLH, .slice u17_a u17_n u17_c, .int .i64 bXBase, .int .i64 bRM, .int .i64 bRW, .slice u18_a u18_n u18_c, .int .i64 bPA, .int .i64 bPF, .slice u19_a u19_n u19_c, .slice u20_a u20_n u20_c, .slice u21_a u21_n u21_c, .int .i64 bXDay, .int .i64 bXGiven, .int .i64 bXEaten] 67 (0, 0))) ⟨w.heap.size, 8, none⟩ = some (.int .i64 aPF) := XP0.out.cell 8
          try clear cP0_9
          have cP0_9 : World.cell? (w10.alloc (.cells #[.int .i64 bLW, .int .i64 bLH, .slice u17_a u17_n u17_c, .int .i64 bXBase, .int .i64 bRM, .int .i64 bRW, .slice u18_a u18_n u18_c, .int .i64 bPA, .int .i64 bPF, .slice u19_a u19_n u19_c, .slice u20_a u20_n u20_c, .slice u21_a u21_n u21_c, .int .i64 bXDay, .int .i64 bXGiven, .int .i64 bXEaten] 67 (0, 0))) ⟨w.heap.size, 9, none⟩ = some (.slice aPC_a aPC_L.length aPC_cap) := XP0.out.cell 9
          try clear cP0_10
          have cP0_10 : World.cell? (w10.alloc (.cells #[.int .i64 bLW, .int .i64 bLH, .slice u17_a u17_n u17_c, .int .i64 bXBase, .int .i64 bRM, .int .i64 bRW, .slice u18_a u18_n u18_c, .int .i64 bPA, .int .i64 bPF, .slice u19_a u19_n u19_c, .slice u20_a u20_n u20_c, .slice u21_a u21_n u21_c, .int .i64 bXDay, .int .i64 bXGiven, .int .i64 bXEaten] 67 (0, 0))) ⟨w.heap.size, 10, none⟩ = some (.slice aPP_a aPP_L.length aPP_cap) := XP0.out.cell 10
          try clear cP0_11
          have cP0_11 : World.cell? (w10.alloc (.cells #[.int .i64 bLW, .int .i64 bLH, .slice u17_a u17_n u17_c, .int .i64 bXBase, .int .i64 bRM, .int .i64 bRW, .slice u18_a u18_n u18_c, .int .i64 bPA, .int .i64 bPF, .slice u19_a u19_n u19_c, .slice u20_a u20_n u20_c, .slice u21_a u21_n u21_c, .int .i64 bXDay, .int .i64 bXGiven, .int .i64 bXEaten] 67 (0, 0))) ⟨w.heap.size, 11, none⟩ = some (.slice aJn_a aJn_L.length aJn_cap) := XP0.out.cell 11
          try clear cP0_12
          have cP0_12 : World.cell? (w10.alloc (.cells #[.int .i64 bLW, .int .i64 bLH, .slice u17_a u17_n u17_c, .int .i64 bXBase, .int .i64 bRM, .int .i64 bRW, .slice u18_a u18_n u18_c, .int .i64 bPA, .int .i64 bPF, .slice u19_a u19_n u19_c, .slice u20_a u20_n u20_c, .slice u21_a u21_n u21_c, .int .i64 bXDay, .int .i64 bXGiven, .int .i64 bXEaten] 67 (0, 0))) ⟨w.heap.size, 12, none⟩ = some (.int .i64 aXDay) := XP0.out.cell 12
          try clear cP0_13
          have cP0_13 : World.cell? (w10.alloc (.cells #[.int .i64 bLW, .int .i64 bLH, .slice u17_a u17_n u17_c, .int .i64 bXBase, .int .i64 bRM, .int .i64 bRW, .slice u18_a u18_n u18_c, .int .i64 bPA, .int .i64 bPF, .slice u19_a u19_n u19_c, .slice u20_a u20_n u20_c, .slice u21_a u21_n u21_c, .int .i64 bXDay, .int .i64 bXGiven, .int .i64 bXEaten] 67 (0, 0))) ⟨w.heap.size, 13, none⟩ = some (.int .i64 aXGiven) := XP0.out.cell 13
          try clear cP0_14
          have cP0_14 : World.cell? (w10.alloc (.cells #[.int .i64 bLW, .int .i64 bLH, .slice u17_a u17_n u17_c, .int .i64 bXBase, .int .i64 bRM, .int .i64 bRW, .slice u18_a u18_n u18_c, .int .i64 bPA, .int .i64 bPF, .slice u19_a u19_n u19_c, .slice u20_a u20_n u20_c, .slice u21_a u21_n u21_c, .int .i64 bXDay, .int .i64 bXGiven, .int .i64 bXEaten] 67 (0, 0))) ⟨w.heap.size, 14, none⟩ = some (.int .i64 aXEaten) := XP0.out.cell 14
          try clear cP1_0
          have cP1_0 : World.cell? (w10.alloc (.cells #[.int .i64 bLW, .int .i64 bLH, .slice u17_a u17_n u17_c, .int .i64 bXBase, .int .i64 bRM, .int .i64 bRW, .slice u18_a u18_n u18_c, .int .i64 bPA, .int .i64 bPF, .slice u19_a u19_n u19_c, .slice u20_a u20_n u20_c, .slice u21_a u21_n u21_c, .int .i64 bXDay, .int .i64 bXGiven, .int .i64 bXEaten] 67 (0, 0))) ⟨w.heap.size + 1, 0, none⟩ = some (.int .i64 bLW) := XP1.out.cell 0
          try clear cP1_1
          have cP1_1 : World.cell? (w10.alloc (.cells #[.int .i64 bLW, .int .i64 bLH, .slice u17_a u17_n u17_c, .int .i64 bXBase, .int .i64 bRM, .int .i64 bRW, .slice u18_a u18_n u18_c, .int .i64 bPA, .int .i64 bPF, .slice u19_a u19_n u19_c, .slice u20_a u20_n u20_c, .slice u21_a u21_n u21_c, .int .i64 bXDay, .int .i64 bXGiven, .int .i64 bXEaten] 67 (0, 0))) ⟨w.heap.size + 1, 1, none⟩ = some (.int .i64 bLH) := XP1.out.cell 1
          try clear cP1_2
          have cP1_2 : World.cell? (w10.alloc (.cells #[.int .i64 bLW, .int .i64 bLH, .slice u17_a u17_n u17_c, .int .i64 bXBase, .int .i64 bRM, .int .i64 bRW, .slice u18_a u18_n u18_c, .int .i64 bPA, .int .i64 bPF, .slice u19_a u19_n u19_c, .slice u20_a u20_n u20_c, .slice u21_a u21_n u21_c, .int .i64 bXDay, .int .i64 bXGiven, .int .i64 bXEaten] 67 (0, 0))) ⟨w.heap.size + 1, 2, none⟩ = some (.slice bLC_a bLC_L.length bLC_cap) := XP1.out.cell 2
          try clear cP1_3
          have cP1_3 : World.cell? (w10.alloc (.cells #[.int .i64 bLW, .int .i64 bLH, .slice u17_a u17_n u17_c, .int .i64 bXBase, .int .i64 bRM, .int .i64 bRW, .slice u18_a u18_n u18_c, .int .i64 bPA, .int .i64 bPF, .slice u19_a u19_n u19_c, .slice u20_a u20_n u20_c, .slice u21_a u21_n u21_c, .int .i64 bXDay, .int .i64 bXGiven, .int .i64 bXEaten] 67 (0, 0))) ⟨w.heap.size + 1, 3, none⟩ = some (.int .i64 bXBase) := XP1.out.cell 3
          try clear cP1_4
          have cP1_4 : World.cell? (w10.alloc (.cells #[.int .i64 bLW, .int .i64 bLH, .slice u17_a u17_n u17_c, .int .i64 bXBase, .int .i64 bRM, .int .i64 bRW, .slice u18_a u18_n u18_c, .int .i64 bPA, .int .i64 bPF, .slice u19_a u19_n u19_c, .slice u20_a u20_n u20_c, .slice u21_a u21_n u21_c, .int .i64 bXDay, .int .i64 bXGiven, .int .i64 bXEaten] 67 (0, 0))) ⟨w.heap.size + 1, 4, none⟩ = some (.int .i64 bRM) := XP1.out.cell 4
          try clear cP1_5
          have cP1_5 : World.cell? (w10.alloc (.cells #[.int .i64 bLW, .int .i64 bLH, .slice u17_a u17_n u17_c, .int .i64 bXBase, .int .i64 bRM, .int .i64 bRW, .slice u18_a u18_n u18_c, .int .i64 bPA, .int .i64 bPF, .slice u19_a u19_n u19_c, .slice u20_a u20_n u20_c, .slice u21_a u21_n u21_c, .int .i64 bXDay, .int .i64 bXGiven, .int .i64 bXEaten] 67 (0, 0))) ⟨w.heap.size + 1, 5, none⟩ = some (.int .i64 bRW) := XP1.out.cell 5
          try clear cP1_6
          have cP1_6 : World.cell? (w10.alloc (.cells #[.int .i64 bLW, .int .i64 bLH, .slice u17_a u17_n u17_c, .int .i64 bXBase, .int .i64 bRM, .int .i64 bRW, .slice u18_a u18_n u18_c, .int .i64 bPA, .int .i64 bPF, .slice u19_a u19_n u19_c, .slice u20_a u20_n u20_c, .slice u21_a u21_n u21_c, .int .i64 bXDay, .int .i64 bXGiven, .int .i64 bXEaten] 67 (0, 0))) ⟨w.heap.size + 1, 6, none⟩ = some (.slice bDp_a bDp_L.length bDp_cap) := XP1.out.cell 6
          try clear cP1_7
          have cP1_7 : World.cell? (w10.alloc (.cells #[.int .i64 bLW, .int .i64 bLH, .slice u17_a u17_n u17_c, .int .i64 bXBase, .int .i64 bRM, .int .i64 bRW, .slice u18_a u18_n u18_c, .int .i64 bPA, .int .i64 bPF, .slice u19_a u19_n u19_c, .slice u20_a u20_n u20_c, .slice u21_a u21_n u21_c, .int .i64 bXDay, .int .i64 bXGiven, .int .i64 bXEaten] 67 (0, 0))) ⟨w.heap.size + 1, 7, none⟩ = some (.int .i64 bPA) := XP1.out.cell 7
          try clear cP1_8
          have cP1_8 : World.cell? (w10.alloc (.cells #[.int .i64 bLW, .int .i64 bLH, .slice u17_a u17_n u17_c, .int .i64 bXBase, .int .i64 bRM, .int .i64 bRW, .slice u18_a u18_n u18_c, .int .i64 bPA, .int .i64 bPF, .slice u19_a u19_n u19_c, .slice u20_a u20_n u20_c, .slice u21_a u21_n u21_c, .int .i64 bXDay, .int .i64 bXGiven, .int .i64 bXEaten] 67 (0, 0))) ⟨w.heap.size + 1, 8, none⟩ = some (.int .i64 bPF) := XP1.out.cell 8
          try clear cP1_9
          have cP1_9 : World.cell? (w10.alloc (.cells #[.int .i64 bLW, .int .i64 bLH, .slice u17_a u17_n u17_c, .int .i64 bXBase, .int .i64 bRM, .int .i64 bRW, .slice u18_a u18_n u18_c, .int .i64 bPA, .int .i64 bPF, .slice u19_a u19_n u19_c, .slice u20_a u20_n u20_c, .slice u21_a u21_n u21_c, .int .i64 bXDay, .int .i64 bXGiven, .int .i64 bXEaten] 67 (0, 0))) ⟨w.heap.size + 1, 9, none⟩ = some (.slice bPC_a bPC_L.length bPC_cap) := XP1.out.cell 9
          try clear cP1_10
          have cP1_10 : World.cell? (w10.alloc (.cells #[.int .i64 bLW, .int .i64 bLH, .slice u17_a u17_n u17_c, .int .i64 bXBase, .int .i64 bRM, .int .i64 bRW, .slice u18_a u18_n u18_c, .int .i64 bPA, .int .i64 bPF, .slice u19_a u19_n u19_c, .slice u20_a u20_n u20_c, .slice u21_a u21_n u21_c, .int .i64 bXDay, .int .i64 bXGiven, .int .i64 bXEaten] 67 (0, 0))) ⟨w.heap.size + 1, 10, none⟩ = some (.slice bPP_a bPP_L.length bPP_cap) := XP1.out.cell 10
          try clear cP1_11
          have cP1_11 : World.cell? (w10.alloc (.cells #[.int .i64 bLW, .int .i64 bLH, .slice u17_a u17_n u17_c, .int .i64 bXBase, .int .i64 bRM, .int .i64 bRW, .slice u18_a u18_n u18_c, .int .i64 bPA, .int .i64 bPF, .slice u19_a u19_n u19_c, .slice u20_a u20_n u20_c, .slice u21_a u21_n u21_c, .int .i64 bXDay, .int .i64 bXGiven, .int .i64 bXEaten] 67 (0, 0))) ⟨w.heap.size + 1, 11, none⟩ = some (.slice bJn_a bJn_L.length bJn_cap) := XP1.out.cell 11
          try clear cP1_12
          have cP1_12 : World.cell? (w10.alloc (.cells #[.int .i64 bLW, .int .i64 bLH, .slice u17_a u17_n u17_c, .int .i64 bXBase, .int .i64 bRM, .int .i64 bRW, .slice u18_a u18_n u18_c, .int .i64 bPA, .int .i64 bPF, .slice u19_a u19_n u19_c, .slice u20_a u20_n u20_c, .slice u21_a u21_n u21_c, .int .i64 bXDay, .int .i64 bXGiven, .int .i64 bXEaten] 67 (0, 0))) ⟨w.heap.size + 1, 12, none⟩ = some (.int .i64 bXDay) := XP1.out.cell 12
          try clear cP1_13
          have cP1_13 : World.cell? (w10.alloc (.cells #[.int .i64 bLW, .int .i64 bLH, .slice u17_a u17_n u17_c, .int .i64 bXBase, .int .i64 bRM, .int .i64 bRW, .slice u18_a u18_n u18_c, .int .i64 bPA, .int .i64 bPF, .slice u19_a u19_n u19_c, .slice u20_a u20_n u20_c, .slice u21_a u21_n u21_c, .int .i64 bXDay, .int .i64 bXGiven, .int .i64 bXEaten] 67 (0, 0))) ⟨w.heap.size + 1, 13, none⟩ = some (.int .i64 bXGiven) := XP1.out.cell 13
          try clear cP1_14
          have cP1_14 : World.cell? (w10.alloc (.cells #[.int .i64 bLW, .int .i64 bLH, .slice u17_a u17_n u17_c, .int .i64 bXBase, .int .i64 bRM, .int .i64 bRW, .slice u18_a u18_n u18_c, .int .i64 bPA, .int .i64 bPF, .slice u19_a u19_n u19_c, .slice u20_a u20_n u20_c, .slice u21_a u21_n u21_c, .int .i64 bXDay, .int .i64 bXGiven, .int .i64 bXEaten] 67 (0, 0))) ⟨w.heap.size + 1, 14, none⟩ = some (.int .i64 bXEaten) := XP1.out.cell 14
          try clear cB16_0
          have cB16_0 : World.cell? (w10.alloc (.cells #[.int .i64 bLW, .int .i64 bLH, .slice u17_a u17_n u17_c, .int .i64 bXBase, .int .i64 bRM, .int .i64 bRW, .slice u18_a u18_n u18_c, .int .i64 bPA, .int .i64 bPF, .slice u19_a u19_n u19_c, .slice u20_a u20_n u20_c, .slice u21_a u21_n u21_c, .int .i64 bXDay, .int .i64 bXGiven, .int .i64 bXEaten] 67 (0, 0))) ⟨w8.heap.size, 0, none⟩ = some (.int .i64 aLW) := XB16.out.cell 0
          try clear cB16_1
          have cB16_1 : World.cell? (w10.alloc (.cells #[.int .i64 bLW, .int .i64 bLH, .slice u17_a u17_n u17_c, .int .i64 bXBase, .int .i64 bRM, .int .i64 bRW, .slice u18_a u18_n u18_c, .int .i64 bPA, .int .i64 bPF, .slice u19_a u19_n u19_c, .slice u20_a u20_n u20_c, .slice u21_a u21_n u21_c, .int .i64 bXDay, .int .i64 bXGiven, .int .i64 bXEaten] 67 (0, 0))) ⟨w8.heap.size, 1, none⟩ = some (.int .i64 aLH) := XB16.out.cell 1
          try clear cB16_2
          have cB16_2 : World.cell? (w10.alloc (.cells #[.int .i64 bLW, .int .i64 bLH, .slice u17_a u17_n u17_c, .int .i64 bXBase, .int .i64 bRM, .int .i64 bRW, .slice u18_a u18_n u18_c, .int .i64 bPA, .int .i64 bPF, .slice u19_a u19_n u19_c, .slice u20_a u20_n u20_c, .slice u21_a u21_n u21_c, .int .i64 bXDay, .int .i64 bXGiven, .int .i64 bXEaten] 67 (0, 0))) ⟨w8.heap.size, 2, none⟩ = some (.slice u11_a u11_n u11_c) := XB16.out.cell 2
          try clear cB16_3
          have cB16_3 : World.cell? (w10.alloc (.cells #[.int .i64 bLW, .int .i64 bLH, .slice u17_a u17_n u17_c, .int .i64 bXBase, .int .i64 bRM, .int .i64 bRW, .slice u18_a u18_n u18_c, .int .i64 bPA, .int .i64 bPF, .slice u19_a u19_n u19_c, .slice u20_a u20_n u20_c, .slice u21_a u21_n u21_c, .int .i64 bXDay, .int .i64 bXGiven, .int .i64 bXEaten] 67 (0, 0))) ⟨w8.heap.size, 3, none⟩ = some (.int .i64 aXBase) := XB16.out.cell 3
          try clear cB16_4
          have cB16_4 : World.cell? (w10.alloc (.cells #[.int .i64 bLW, .int .i64 bLH, .slice u17_a u17_n u17_c, .int .i64 bXBase, .int .i64 bRM, .int .i64 bRW, .slice u18_a u18_n u18_c, .int .i64 bPA, .int .i64 bPF, .slice u19_a u19_n u19_c, .slice u20_a u20_n u20_c, .slice u21_a u21_n u21_c, .int .i64 bXDay, .int .i64 bXGiven, .int .i64 bXEaten] 67 (0, 0))) ⟨w8.heap.size, 4, none⟩ = some (.int .i64 aRM) := XB16.out.cell 4
          try clear cB16_5
          have cB16_5 : World.cell? (w10.alloc (.cells #[.int .i64 bLW, .int .i64 bLH, .slice u17_a u17_n u17_c, .int .i64 bXBase, .int .i64 bRM, .int .i64 bRW, .slice u18_a u18_n u18_c, .int .i64 bPA, .int .i64 bPF, .slice u19_a u19_n u19_c, .slice u20_a u20_n u20_c, .slice u21_a u21_n u21_c, .int .i64 bXDay, .int .i64 bXGiven, .int .i64 bXEaten] 67 (0, 0))) ⟨w8.heap.size, 5, none⟩ = some (.int .i64 aRW) := XB16.out.cell 5
          try clear cB16_6
          have cB16_6 : World.cell? (w10.alloc (.cells #[.int .i64 bLW, .int .i64 bLH, .slice u17_a u17_n u17_c, .int .i64 bXBase, .int .i64 bRM, .int .i64 bRW, .slice u18_a u18_n u18_c, .int .i64 bPA, .int .i64 bPF, .slice u19_a u19_n u19_c, .slice u20_a u20_n u20_c, .slice u21_a u21_n u21_c, .int .i64 bXDay, .int .i64 bXGiven, .int .i64 bXEaten] 67 (0, 0))) ⟨w8.heap.size, 6, none⟩ = some (.slice u12_a u12_n u12_c) := XB16.out.cell 6
          try clear cB16_7
          have cB16_7 : World.cell? (w10.alloc (.cells #[.int .i64 bLW, .int .i64 bLH, .slice u17_a u17_n u17_c, .int .i64 bXBase, .int .i64 bRM, .int .i64 bRW, .slice u18_a u18_n u18_c, .int .i64 bPA, .int .i64 bPF, .slice u19_a u19_n u19_c, .slice u20_a u20_n u20_c, .slice u21_a u21_n u21_c, .int .i64 bXDay, .int .i64 bXGiven, .int .i64 bXEaten] 67 (0, 0))) ⟨w8.heap.size, 7, none⟩ = some (.int .i64 aPA) := XB16.out.cell 7
          try clear cB16_8
          have cB16_8 : World.cell? (w10.alloc (.cells #[.int .i64 bLW, .int .i64 bLH, .slice u17_a u17_n u17_c, .int .i64 bXBase, .int .i64 bRM, .int .i64 bRW, .slice u18_a u18_n u18_c, .int .i64 bPA, .int .i64 bPF, .slice u19_a u19_n u19_c, .slice u20_a u20_n u20_c, .slice u21_a u21_n u21_c, .int .i64 bXDay, .int .i64 bXGiven, .int .i64 bXEaten] 67 (0, 0))) ⟨w8.heap.size, 8, none⟩ = some (.int .i64 aPF) := XB16.out.cell 8
          try clear cB16_9
          have cB16_9 : World.cell? (w10.alloc (.cells #[.int .i64 bLW, .int .i64 bLH, .slice u17_a u17_n u17_c, .int .i64 bXBase, .int .i64 bRM, .int .i64 bRW, .slice u18_a u18_n u18_c, .int .i64 bPA, .int .i64 bPF, .slice u19_a u19_n u19_c, .slice u20_a u20_n u20_c, .slice u21_a u21_n u21_c, .int .i64 bXDay, .int .i64 bXGiven, .int .i64 bXEaten] 67 (0, 0))) ⟨w8.heap.size, 9, none⟩ = some (.slice u13_a u13_n u13_c) := XB16.out.cell 9
          try clear cB16_10
          have cB16_10 : World.cell? (w10.alloc (.cells #[.int .i64 bLW, .int .i64 bLH, .slice u17_a u17_n u17_c, .int .i64 bXBase, .int .i64 bRM, .int .i64 bRW, .slice u18_a u18_n u18_c, .int .i64 bPA, .int .i64 bPF, .slice u19_a u19_n u19_c, .slice u20_a u20_n u20_c, .slice u21_a u21_n u21_c, .int .i64 bXDay, .int .i64 bXGiven, .int .i64 bXEaten] 67 (0, 0))) ⟨w8.heap.size, 10, none⟩ = some (.slice u14_a u14_n u14_c) := XB16.out.cell 10
          try clear cB16_11
          have cB16_11 : World.cell? (w10.alloc (.cells #[.int .i64 bLW, .int .i64 bLH, .slice u17_a u17_n u17_c, .int .i64 bXBase, .int .i64 bRM, .int .i64 bRW, .slice u18_a u18_n u18_c, .int .i64 bPA, .int .i64 bPF, .slice u19_a u19_n u19_c, .slice u20_a u20_n u20_c, .slice u21_a u21_n u21_c, .int .i64 bXDay, .int .i64 bXGiven, .int .i64 bXEaten] 67 (0, 0))) ⟨w8.heap.size, 11, none⟩ = some (.slice u15_a u15_n u15_c) := XB16.out.cell 11
          try clear cB16_12
          have cB16_12 : World.cell? (w10.alloc (.cells #[.int .i64 bLW, .int .i64 bLH, .slice u17_a u17_n u17_c, .int .i64 bXBase, .int .i64 bRM, .int .i64 bRW, .slice u18_a u18_n u18_c, .int .i64 bPA, .int .i64 bPF, .slice u19_a u19_n u19_c, .slice u20_a u20_n u20_c, .slice u21_a u21_n u21_c, .int .i64 bXDay, .int .i64 bXGiven, .int .i64 bXEaten] 67 (0, 0))) ⟨w8.heap.size, 12, none⟩ = some (.int .i64 aXDay) := XB16.out.cell 12
          try clear cB16_13
          have cB16_13 : World.cell? (w10.alloc (.cells #[.int .i64 bLW, .int .i64 bLH, .slice u17_a u17_n u17_c, .int .i64 bXBase, .int .i64 bRM, .int .i64 bRW, .slice u18_a u18_n u18_c, .int .i64 bPA, .int .i64 bPF, .slice u19_a u19_n u19_c, .slice u20_a u20_n u20_c, .slice u21_a u21_n u21_c, .int .i64 bXDay, .int .i64 bXGiven, .int .i64 bXEaten] 67 (0, 0))) ⟨w8.heap.size, 13, none⟩ = some (.int .i64 aXGiven) := XB16.out.cell 13
          try clear cB16_14
          have cB16_14 : World.cell? (w10.alloc (.cells #[.int .i64 bLW, .int .i64 bLH, .slice u17_a u17_n u17_c, .int .i64 bXBase, .int .i64 bRM, .int .i64 bRW, .slice u18_a u18_n u18_c, .int .i64 bPA, .int .i64 bPF, .slice u19_a u19_n u19_c, .slice u20_a u20_n u20_c, .slice u21_a u21_n u21_c, .int .i64 bXDay, .int .i64 bXGiven, .int .i64 bXEaten] 67 (0, 0))) ⟨w8.heap.size, 14, none⟩ = some (.int .i64 aXEaten) := XB16.out.cell 14
          try clear cB22_0
          have cB22_0 : World.cell? (w10.alloc (.cells #[.int .i64 bLW, .int .i64 bLH, .slice u17_a u17_n u17_c, .int .i64 bXBase, .int .i64 bRM, .int .i64 bRW, .slice u18_a u18_n u18_c, .int .i64 bPA, .int .i64 bPF, .slice u19_a u19_n u19_c, .slice u20_a u20_n u20_c, .slice u21_a u21_n u21_c, .int .i64 bXDay, .int .i64 bXGiven, .int .i64 bXEaten] 67 (0, 0))) ⟨w10.heap.size, 0, none⟩ = some (.int .i64 bLW) := XB22.out.cell 0
          try clear cB22_1
          have cB22_1 : World.cell? (w10.alloc (.cells #[.int .i64 bLW, .int .i64 bLH, .slice u17_a u17_n u17_c, .int .i64 bXBase, .int .i64 bRM, .int .i64 bRW, .slice u18_a u18_n u18_c, .int .i64 bPA, .int .i64 bPF, .slice u19_a u19_n u19_c, .slice u20_a u20_n u20_c, .slice u21_a u21_n u21_c, .int .i64 bXDay, .int .i64 bXGiven, .int .i64 bXEaten] 67 (0, 0))) ⟨w10.heap.size, 1, none⟩ = some (.int .i64 bLH) := XB22.out.cell 1
          try clear cB22_2
          have cB22_2 : World.cell? (w10.alloc (.cells #[.int .i64 bLW, .int .i64 bLH, .slice u17_a u17_n u17_c, .int .i64 bXBase, .int .i64 bRM, .int .i64 bRW, .slice u18_a u18_n u18_c, .int .i64 bPA, .int .i64 bPF, .slice u19_a u19_n u19_c, .slice u20_a u20_n u20_c, .slice u21_a u21_n u21_c, .int .i64 bXDay, .int .i64 bXGiven, .int .i64 bXEaten] 67 (0, 0))) ⟨w10.heap.size, 2, none⟩ = some (.slice u17_a u17_n u17_c) := XB22.out.cell 2
          try clear cB22_3
          have cB22_3 : World.cell? (w10.alloc (.cells #[.int .i64 bLW, .int .i64 bLH, .slice u17_a u17_n u17_c, .int .i64 bXBase, .int .i64 bRM, .int .i64 bRW, .slice u18_a u18_n u18_c, .int .i64 bPA, .int .i64 bPF, .slice u19_a u19_n u19_c, .slice u20_a u20_n u20_c, .slice u21_a u21_n u21_c, .int .i64 bXDay, .int .i64 bXGiven, .int .i64 bXEaten] 67 (0, 0))) ⟨w10.heap.size, 3, none⟩ = some (.int .i64 bXBase) := XB22.out.cell 3
          try clear cB22_4
          have cB22_4 : World.cell? (w10.alloc (.cells #[.int .i64 bLW, .int .i64 bLH, .slice u17_a u17_n u17_c, .int .i64 bXBase, .int .i64 bRM, .int .i64 bRW, .slice u18_a u18_n u18_c, .int .i64 bPA, .int .i64 bPF, .slice u19_a u19_n u19_c, .slice u20_a u20_n u20_c, .slice u21_a u21_n u21_c, .int .i64 bXDay, .int .i64 bXGiven, .int .i64 bXEaten] 67 (0, 0))) ⟨w10.heap.size, 4, none⟩ = some (.int .i64 bRM) := XB22.out.cell 4
          try clear cB22_5
          have cB22_5 : World.cell? (w10.alloc (.cells #[.int .i64 bLW, .int .i64 bLH, .slice u17_a u17_n u17_c, .int .i64 bXBase, .int .i64 bRM, .int .i64 bRW, .slice u18_a u18_n u18_c, .int .i64 bPA, .int .i64 bPF, .slice u19_a u19_n u19_c, .slice u20_a u20_n u20_c, .slice u21_a u21_n u21_c, .int .i64 bXDay, .int .i64 bXGiven, .int .i64 bXEaten] 67 (0, 0))) ⟨w10.heap.size, 5, none⟩ = some (.int .i64 bRW) := XB22.out.cell 5
          try clear cB22_6
          have cB22_6 : World.cell? (w10.alloc (.cells #[.int .i64 bLW, .int .i64 bLH, .slice u17_a u17_n u17_c, .int .i64 bXBase, .int .i64 bRM, .int .i64 bRW, .slice u18_a u18_n u18_c, .int .i64 bPA, .int .i64 bPF, .slice u19_a u19_n u19_c, .slice u20_a u20_n u20_c, .slice u21_a u21_n u21_c, .int .i64 bXDay, .int .i64 bXGiven, .int .i64 bXEaten] 67 (0, 0))) ⟨w10.heap.size, 6, none⟩ = some (.slice u18_a u18_n u18_c) := XB22.out.cell 6
          try clear cB22_7
          have cB22_7 : World.cell? (w10.alloc (.cells #[.int .i64 bLW, .int .i64 bLH, .slice u17_a u17_n u17_c, .int .i64 bXBase, .int .i64 bRM, .int .i64 bRW, .slice u18_a u18_n u18_c, .int .i64 bPA, .int .i64 bPF, .slice u19_a u19_n u19_c, .slice u20_a u20_n u20_c, .slice u21_a u21_n u21_c, .int .i64 bXDay, .int .i64 bXGiven, .int .i64 bXEaten] 67 (0, 0))) ⟨w10.heap.size, 7, none⟩ = some (.int .i64 bPA) := XB22.out.cell 7
          try clear cB22_8
          have cB22_8 : World.cell? (w10.alloc (.cells #[.int .i64 bLW, .int .i64 bLH, .slice u17_a u17_n u17_c, .int .i64 bXBase, .int .i64 bRM, .int .i64 bRW, .slice u18_a u18_n u18_c, .int .i64 bPA, .int .i64 bPF, .slice u19_a u19_n u19_c, .slice u20_a u20_n u20_c, .slice u21_a u21_n u21_c, .int .i64 bXDay, .int .i64 bXGiven, .int .i64 bXEaten] 67 (0, 0))) ⟨w10.heap.size, 8, none⟩ = some (.int .i64 bPF) := XB22.out.cell 8
          try clear cB22_9
          have cB22_9 : World.cell? (w10.alloc (.cells #[.int .i64 bLW, .int .i64 bLH, .slice u17_a u17_n u17_c, .int .i64 bXBase, .int .i64 bRM, .int .i64 bRW, .slice u18_a u18_n u18_c, .int .i64 bPA, .int .i64 bPF, .slice u19_a u19_n u19_c, .slice u20_a u20_n u20_c, .slice u21_a u21_n u21_c, .int .i64 bXDay, .int .i64 bXGiven, .int .i64 bXEaten] 67 (0, 0))) ⟨w10.heap.size, 9, none⟩ = some (.slice u19_a u19_n u19_c) := XB22.out.cell 9
          try clear cB22_10
          have cB22_10 : World.cell? (w10.alloc (.cells #[.int .i64 bLW, .int .i64 bLH, .slice u17_a u17_n u17_c, .int .i64 bXBase, .int .i64 bRM, .int .i64 bRW, .slice u18_a u18_n u18_c, .int .i64 bPA, .int .i64 bPF, .slice u19_a u19_n u19_c, .slice u20_a u20_n u20_c, .slice u21_a u21_n u21_c, .int .i64 bXDay, .int .i64 bXGiven, .int .i64 bXEaten] 67 (0, 0))) ⟨w10.heap.size, 10, none⟩ = some (.slice u20_a u20_n u20_c) := XB22.out.cell 10
          try clear cB22_11
          have cB22_11 : World.cell? (w10.alloc (.cells #[.int .i64 bLW, .int .i64 bLH, .slice u17_a u17_n u17_c, .int .i64 bXBase, .int .i64 bRM, .int .i64 bRW, .slice u18_a u18_n u18_c, .int .i64 bPA, .int .i64 bPF, .slice u19_a u19_n u19_c, .slice u20_a u20_n u20_c, .slice u21_a u21_n u21_c, .int .i64 bXDay, .int .i64 bXGiven, .int .i64 bXEaten] 67 (0, 0))) ⟨w10.heap.size, 11, none⟩ = some (.slice u21_a u21_n u21_c) := XB22.out.cell 11
          try clear cB22_12
          have cB22_12 : World.cell? (w10.alloc (.cells #[.int .i64 bLW, .int .i64 bLH, .slice u17_a u17_n u17_c, .int .i64 bXBase, .int .i64 bRM, .int .i64 bRW, .slice u18_a u18_n u18_c, .int .i64 bPA, .int .i64 bPF, .slice u19_a u19_n u19_c, .slice u20_a u20_n u20_c, .slice u21_a u21_n u21_c, .int .i64 bXDay, .int .i64 bXGiven, .int .i64 bXEaten] 67 (0, 0))) ⟨w10.heap.size, 12, none⟩ = some (.int .i64 bXDay) := XB22.out.cell 12
          try clear cB22_13
          have cB22_13 : World.cell? (w10.alloc (.cells #[.int .i64 bLW, .int .i64 bLH, .slice u17_a u17_n u17_c, .int .i64 bXBase, .int .i64 bRM, .int .i64 bRW, .slice u18_a u18_n u18_c, .int .i64 bPA, .int .i64 bPF, .slice u19_a u19_n u19_c, .slice u20_a u20_n u20_c, .slice u21_a u21_n u21_c, .int .i64 bXDay, .int .i64 bXGiven, .int .i64 bXEaten] 67 (0, 0))) ⟨w10.heap.size, 13, none⟩ = some (.int .i64 bXGiven) := XB22.out.cell 13
          try clear cB22_14
          have cB22_14 : World.cell? (w10.alloc (.cells #[.int .i64 bLW, .int .i64 bLH, .slice u17_a u17_n u17_c, .int .i64 bXBase, .int .i64 bRM, .int .i64 bRW, .slice u18_a u18_n u18_c, .int .i64 bPA, .int .i64 bPF, .slice u19_a u19_n u19_c, .slice u20_a u20_n u20_c, .slice u21_a u21_n u21_c, .int .i64 bXDay, .int .i64 bXGiven, .int .i64 bXEaten] 67 (0, 0))) ⟨w10.heap.size, 14, none⟩ = some (.int .i64 bXEaten) := XB22.out.cell 14
          go_wp2_with fail
          generalize w10.alloc (.cells #[.int .i64 bLW, .int .i64 bLH, .slice u17_a u17_n u17_c, .int .i64 bXBase, .int .i64 bRM, .int .i64 bRW, .slice u18_a u18_n u18_c, .int .i64 bPA, .int .i64 bPF, .slice u19_a u19_n u19_c, .slice u20_a u20_n u20_c, .slice u21_a u21_n u21_c, .int .i64 bXDay, .int .i64 bXGiven, .int .i64 bXEaten] 67 (0, 0)) = w11 at *
          refine (EqV.iEqT_any w11 aLW aLH aXBase aRM aRW aPA aPF aXDay aXGiven aXEaten bLW bLH bXBase bRM bRW bPA bPF bXDay bXGiven bXEaten _ _ _ _ _ _ _ _ _ _ aLC_L bLC_L aDp_L bDp_L aPC_L bPC_L aPP_L bPP_L aJn_L bJn_L (Ou11.out.sees) (Ou17.out.sees) (Ou12.out.sees) (Ou18.out.sees) (Ou13.out.sees) (Ou19.out.sees) (Ou14.out.sees) (Ou20.out.sees) (Ou15.out.sees) (Ou21.out.sees)).mono ?_
          rintro e w12 ⟨rfl, hg⟩
          as_aux_lemma =>
            have HB13 := Lib.hid (HB12.out.grown hg HB12.out.size (fun _ h => by cases h)); clear HB12
            have Ou11 := Lib.hid (Ou11.out.grown hg)
            have Ou12 := Lib.hid (Ou12.out.grown hg)
            have Ou13 := Lib.hid (Ou13.out.grown hg)
            have Ou14 := Lib.hid (Ou14.out.grown hg)
            have Ou15 := Lib.hid (Ou15.out.grown hg)
            have Ou17 := Lib.hid (Ou17.out.grown hg)
            have Ou18 := Lib.hid (Ou18.out.grown hg)
            have Ou19 := Lib.hid (Ou19.out.grown hg)
            have Ou20 := Lib.hid (Ou20.out.grown hg)
            have Ou21 := Lib.hid (Ou21.out.grown hg)
            have XP0 := Lib.hid (XP0.out.grown hg)
            have XP1 := Lib.hid (XP1.out.grown hg)
            have XB16 := Lib.hid (XB16.out.grown hg)
            have XB22 := Lib.hid (XB22.out.grown hg)
            clear hg
            try clear cP0_0
            have cP0_0 : World.cell? (w12) ⟨w.heap.size, 0, none⟩ = some (.int .i64 aLW) := XP0.out.cell 0
            try clear cP0_1
            have cP0_1 : World.cell? (w12) ⟨w.heap.size, 1, none⟩ = some (.int .i64 aLH) := XP0.out.cell 1
            try clear cP0_2
            have cP0_2 : World.cell? (w12) ⟨w.heap.size, 2, none⟩ = some (.slice aLC_a aLC_L.length aLC_cap) := XP0.out.cell 2
            try clear cP0_3
            have cP0_3 : World.cell? (w12) ⟨w.heap.size, 3, none⟩ = some (.int .i64 aXBase) := XP0.out.cell 3
            try clear cP0_4
            have cP0_4 : World.cell? (w12) ⟨w.heap.size, 4, none⟩ = some (.int .i64 aRM) := XP0.out.cell 4
            try clear cP0_5
            have cP0_5 : World.cell? (w12) ⟨w.heap.size, 5, none⟩ = some (.int .i64 aRW) := XP0.out.cell 5
            try clear cP0_6
            have cP0_6 : World.cell? (w12) ⟨w.heap.size, 6, none⟩ = some (.slice aDp_a aDp_L.length aDp_cap) := XP0.out.cell 6
            try clear cP0_7
            have cP0_7 : World.cell? (w12) ⟨w.heap.size, 7, none⟩ = some (.int .i64 aPA) := XP0.out.cell 7
            try clear cP0_8
            have cP0_8 : World.cell? (w12) ⟨w.heap.size, 8, none⟩ = some (.int .i64 aPF) := XP0.out.cell 8
            try clear cP0_9
            have cP0_9 : World.cell? (w12) ⟨w.heap.size, 9, none⟩ = some (.slice aPC_a aPC_L.length aPC_cap) := XP0.out.cell 9
            try clear cP0_10
            have cP0_10 : World.cell? (w12) ⟨w.heap.size, 10, none⟩ = some (.slice aPP_a aPP_L.length aPP_cap) := XP0.out.cell 10
            try clear cP0_11
            have cP0_11 : World.cell? (w12) ⟨w.heap.size, 11, none⟩ = some (.slice aJn_a aJn_L.length aJn_cap) := XP0.out.cell 11
            try clear cP0_12
            have cP0_12 : World.cell? (w12) ⟨w.heap.size, 12, none⟩ = some (.int .i64 aXDay) := XP0.out.cell 12
            try clear cP0_13
            have cP0_13 : World.cell? (w12) ⟨w.heap.size, 13, none⟩ = some (.int .i64 aXGiven) := XP0.out.cell 13
            try clear cP0_14
            have cP0_14 : World.cell? (w12) ⟨w.heap.size, 14, none⟩ = some (.int .i64 aXEaten) := XP0.out.cell 14
            try clear cP1_0
            have cP1_0 : World.cell? (w12) ⟨w.heap.size + 1, 0, none⟩ = some (.int .i64 bLW) := XP1.out.cell 0
            try clear cP1_1
            have cP1_1 : World.cell? (w12) ⟨w.heap.size + 1, 1, none⟩ = some (.int .i64 bLH) := XP1.out.cell 1
            try clear cP1_2
            have cP1_2 : World.cell? (w12) ⟨w.heap.size + 1, 2, none⟩ = some (.slice bLC_a bLC_L.length bLC_cap) := XP1.out.cell 2
            try clear cP1_3
            have cP1_3 : World.cell? (w12) ⟨w.heap.size + 1, 3, none⟩ = some (.int .i64 bXBase) := XP1.out.cell 3
            try clear cP1_4
            have cP1_4 : World.cell? (w12) ⟨w.heap.size + 1, 4, none⟩ = some (.int .i64 bRM) := XP1.out.cell 4
            try clear cP1_5
            have cP1_5 : World.cell? (w12) ⟨w.heap.size + 1, 5, none⟩ = some (.int .i64 bRW) := XP1.out.cell 5
            try clear cP1_6
            have cP1_6 : World.cell? (w12) ⟨w.heap.size + 1, 6, none⟩ = some (.slice bDp_a bDp_L.length bDp_cap) := XP1.out.cell 6
            try clear cP1_7
            have cP1_7 : World.cell? (w12) ⟨w.heap.size + 1, 7, none⟩ = some (.int .i64 bPA) := XP1.out.cell 7
            try clear cP1_8
            have cP1_8 : World.cell? (w12) ⟨w.heap.size + 1, 8, none⟩ = some (.int .i64 bPF) := XP1.out.cell 8
            try clear cP1_9
            have cP1_9 : World.cell? (w12) ⟨w.heap.size + 1, 9, none⟩ = some (.slice bPC_a bPC_L.length bPC_cap) := XP1.out.cell 9
            try clear cP1_10
            have cP1_10 : World.cell? (w12) ⟨w.heap.size + 1, 10, none⟩ = some (.slice bPP_a bPP_L.length bPP_cap) := XP1.out.cell 10
            try clear cP1_11
            have cP1_11 : World.cell? (w12) ⟨w.heap.size + 1, 11, none⟩ = some (.slice bJn_a bJn_L.length bJn_cap) := XP1.out.cell 11
            try clear cP1_12
            have cP1_12 : World.cell? (w12) ⟨w.heap.size + 1, 12, none⟩ = some (.int .i64 bXDay) := XP1.out.cell 12
            try clear cP1_13
            have cP1_13 : World.cell? (w12) ⟨w.heap.size + 1, 13, none⟩ = some (.int .i64 bXGiven) := XP1.out.cell 13
            try clear cP1_14
            have cP1_14 : World.cell? (w12) ⟨w.heap.size + 1, 14, none⟩ = some (.int .i64 bXEaten) := XP1.out.cell 14
            try clear cB16_0
            have cB16_0 : World.cell? (w12) ⟨w8.heap.size, 0, none⟩ = some (.int .i64 aLW) := XB16.out.cell 0
            try clear cB16_1
            have cB16_1 : World.cell? (w12) ⟨w8.heap.size, 1, none⟩ = some (.int .i64 aLH) := XB16.out.cell 1
            try clear cB16_2
            have cB16_2 : World.cell? (w12) ⟨w8.heap.size, 2, none⟩ = some (.slice u11_a u11_n u11_c) := XB16.out.cell 2
            try clear cB16_3
            have cB16_3 : World.cell? (w12) ⟨w8.heap.size, 3, none⟩ = some (.int .i64 aXBase) := XB16.out.cell 3
            try clear cB16_4
            have cB16_4 : World.cell? (w12) ⟨w8.heap.size, 4, none⟩ = some (.int .i64 aRM) := XB16.out.cell 4
            try clear cB16_5
            have cB16_5 : World.cell? (w12) ⟨w8.heap.size, 5, none⟩ = some (.int .i64 aRW) := XB16.out.cell 5
            try clear cB16_6
            have cB16_6 : World.cell? (w12) ⟨w8.heap.size, 6, none⟩ = some (.slice u12_a u12_n u12_c) := XB16.out.cell 6
            try clear cB16_7
            have cB16_7 : World.cell? (w12) ⟨w8.heap.size, 7, none⟩ = some (.int .i64 aPA) := XB16.out.cell 7
            try clear cB16_8
            have cB16_8 : World.cell? (w12) ⟨w8.heap.size, 8, none⟩ = some (.int .i64 aPF) := XB16.out.cell 8
            try clear cB16_9
            have cB16_9 : World.cell? (w12) ⟨w8.heap.size, 9, none⟩ = some (.slice u13_a u13_n u13_c) := XB16.out.cell 9
            try clear cB16_10
            have cB16_10 : World.cell? (w12) ⟨w8.heap.size, 10, none⟩ = some (.slice u14_a u14_n u14_c) := XB16.out.cell 10
            try clear cB16_11
            have cB16_11 : World.cell? (w12) ⟨w8.heap.size, 11, none⟩ = some (.slice u15_a u15_n u15_c) := XB16.out.cell 11
            try clear cB16_12
            have cB16_12 : World.cell? (w12) ⟨w8.heap.size, 12, none⟩ = some (.int .i64 aXDay) := XB16.out.cell 12
            try clear cB16_13
            have cB16_13 : World.cell? (w12) ⟨w8.heap.size, 13, none⟩ = some (.int .i64 aXGiven) := XB16.out.cell 13
            try clear cB16_14
            have cB16_14 : World.cell? (w12) ⟨w8.heap.size, 14, none⟩ = some (.int .i64 aXEaten) := XB16.out.cell 14
            try clear cB22_0
            have cB22_0 : World.cell? (w12) ⟨w10.heap.size, 0, none⟩ = some (.int .i64 bLW) := XB22.out.cell 0
            try clear cB22_1
            have cB22_1 : World.cell? (w12) ⟨w10.heap.size, 1, none⟩ = some (.int .i64 bLH) := XB22.out.cell 1
            try clear cB22_2
            have cB22_2 : World.cell? (w12) ⟨w10.heap.size, 2, none⟩ = some (.slice u17_a u17_n u17_c) := XB22.out.cell 2
            try clear cB22_3
            have cB22_3 : World.cell? (w12) ⟨w10.heap.size, 3, none⟩ = some (.int .i64 bXBase) := XB22.out.cell 3
            try clear cB22_4
            have cB22_4 : World.cell? (w12) ⟨w10.heap.size, 4, none⟩ = some (.int .i64 bRM) := XB22.out.cell 4
            try clear cB22_5
            have cB22_5 : World.cell? (w12) ⟨w10.heap.size, 5, none⟩ = some (.int .i64 bRW) := XB22.out.cell 5
            try clear cB22_6
            have cB22_6 : World.cell? (w12) ⟨w10.heap.size, 6, none⟩ = some (.slice u18_a u18_n u18_c) := XB22.out.cell 6
            try clear cB22_7
            have cB22_7 : World.cell? (w12) ⟨w10.heap.size, 7, none⟩ = some (.int .i64 bPA) := XB22.out.cell 7
            try clear cB22_8
            have cB22_8 : World.cell? (w12) ⟨w10.heap.size, 8, none⟩ = some (.int .i64 bPF) := XB22.out.cell 8
            try clear cB22_9
            have cB22_9 : World.cell? (w12) ⟨w10.heap.size, 9, none⟩ = some (.slice u19_a u19_n u19_c) := XB22.out.cell 9
            try clear cB22_10
            have cB22_10 : World.cell? (w12) ⟨w10.heap.size, 10, none⟩ = some (.slice u20_a u20_n u20_c) := XB22.out.cell 10
            try clear cB22_11
            have cB22_11 : World.cell? (w12) ⟨w10.heap.size, 11, none⟩ = some (.slice u21_a u21_n u21_c) := XB22.out.cell 11
            try clear cB22_12
            have cB22_12 : World.cell? (w12) ⟨w10.heap.size, 12, none⟩ = some (.int .i64 bXDay) := XB22.out.cell 12
            try clear cB22_13
            have cB22_13 : World.cell? (w12) ⟨w10.heap.size, 13, none⟩ = some (.int .i64 bXGiven) := XB22.out.cell 13
            try clear cB22_14
            have cB22_14 : World.cell? (w12) ⟨w10.heap.size, 14, none⟩ = some (.int .i64 bXEaten) := XB22.out.cell 14
            go_wp2_with fail
            have hgd := grown_drew (World.grownBy.refl w12 none)
            have HB14 := Lib.hid (HB13.out.grown hgd HB13.out.size (fun _ h => by cases h)); clear HB13
            have Ou11 := Lib.hid (Ou11.out.grown hgd)
            have Ou12 := Lib.hid (Ou12.out.grown hgd)
            have Ou13 := Lib.hid (Ou13.out.grown hgd)
            have Ou14 := Lib.hid (Ou14.out.grown hgd)
            have Ou15 := Lib.hid (Ou15.out.grown hgd)
            have Ou17 := Lib.hid (Ou17.out.grown hgd)
            have Ou18 := Lib.hid (Ou18.out.grown hgd)
            have Ou19 := Lib.hid (Ou19.out.grown hgd)
            have Ou20 := Lib.hid (Ou20.out.grown hgd)
            have Ou21 := Lib.hid (Ou21.out.grown hgd)
            have XP0 := Lib.hid (XP0.out.grown hgd)
            have XP1 := Lib.hid (XP1.out.grown hgd)
            have XB16 := Lib.hid (XB16.out.grown hgd)
            have XB22 := Lib.hid (XB22.out.grown hgd)
            clear hgd
            try clear cB16_0
            have cB16_0 : World.cell? ((World.drew w12)) ⟨w8.heap.size, 0, none⟩ = some (.int .i64 aLW) := XB16.out.cell 0
            try clear cB16_1
            have cB16_1 : World.cell? ((World.drew w12)) ⟨w8.heap.size, 1, none⟩ = some (.int .i64 aLH) := XB16.out.cell 1
            try clear cB16_2
            have cB16_2 : World.cell? ((World.drew w12)) ⟨w8.heap.size, 2, none⟩ = some (.slice u11_a u11_n u11_c) := XB16.out.cell 2
            try clear cB16_3
            have cB16_3 : World.cell? ((World.drew w12)) ⟨w8.heap.size, 3, none⟩ = some (.int .i64 aXBase) := XB16.out.cell 3
            try clear cB16_4
            have cB16_4 : World.cell? ((World.drew w12)) ⟨w8.heap.size, 4, none⟩ = some (.int .i64 aRM) := XB16.out.cell 4
            try clear cB16_5
            have cB16_5 : World.cell? ((World.drew w12)) ⟨w8.heap.size, 5, none⟩ = some (.int .i64 aRW) := XB16.out.cell 5
            try clear cB16_6
            have cB16_6 : World.cell? ((World.drew w12)) ⟨w8.heap.size, 6, none⟩ = some (.slice u12_a u12_n u12_c) := XB16.out.cell 6
            try clear cB16_7
            have cB16_7 : World.cell? ((World.drew w12)) ⟨w8.heap.size, 7, none⟩ = some (.int .i64 aPA) := XB16.out.cell 7
            try clear cB16_8
            have cB16_8 : World.cell? ((World.drew w12)) ⟨w8.heap.size, 8, none⟩ = some (.int .i64 aPF) := XB16.out.cell 8
            try clear cB16_9
            have cB16_9 : World.cell? ((World.drew w12)) ⟨w8.heap.size, 9, none⟩ = some (.slice u13_a u13_n u13_c) := XB16.out.cell 9
            try clear cB16_10
            have cB16_10 : World.cell? ((World.drew w12)) ⟨w8.heap.size, 10, none⟩ = some (.slice u14_a u14_n u14_c) := XB16.out.cell 10
            try clear cB16_11
            have cB16_11 : World.cell? ((World.drew w12)) ⟨w8.heap.size, 11, none⟩ = some (.slice u15_a u15_n u15_c) := XB16.out.cell 11
            try clear cB16_12
            have cB16_12 : World.cell? ((World.drew w12)) ⟨w8.heap.size, 12, none⟩ = some (.int .i64 aXDay) := XB16.out.cell 12
            try clear cB16_13
            have cB16_13 : World.cell? ((World.drew w12)) ⟨w8.heap.size, 13, none⟩ = some (.int .i64 aXGiven) := XB16.out.cell 13
            try clear cB16_14
            have cB16_14 : World.cell? ((World.drew w12)) ⟨w8.heap.size, 14, none⟩ = some (.int .i64 aXEaten) := XB16.out.cell 14
            try clear cP0_0
            have cP0_0 : World.cell? ((World.drew w12)) ⟨w.heap.size, 0, none⟩ = some (.int .i64 aLW) := XP0.out.cell 0
            try clear cP0_1
            have cP0_1 : World.cell? ((World.drew w12)) ⟨w.heap.size, 1, none⟩ = some (.int .i64 aLH) := XP0.out.cell 1
            try clear cP0_2
            have cP0_2 : World.cell? ((World.drew w12)) ⟨w.heap.size, 2, none⟩ = some (.slice aLC_a aLC_L.length aLC_cap) := XP0.out.cell 2
            try clear cP0_3
            have cP0_3 : World.cell? ((World.drew w12)) ⟨w.heap.size, 3, none⟩ = some (.int .i64 aXBase) := XP0.out.cell 3
            try clear cP0_4
            have cP0_4 : World.cell? ((World.drew w12)) ⟨w.heap.size, 4, none⟩ = some (.int .i64 aRM) := XP0.out.cell 4
            try clear cP0_5
            have cP0_5 : World.cell? ((World.drew w12)) ⟨w.heap.size, 5, none⟩ = some (.int .i64 aRW) := XP0.out.cell 5
            try clear cP0_6
            have cP0_6 : World.cell? ((World.drew w12)) ⟨w.heap.size, 6, none⟩ = some (.slice aDp_a aDp_L.length aDp_cap) := XP0.out.cell 6
            try clear cP0_7
            have cP0_7 : World.cell? ((World.drew w12)) ⟨w.heap.size, 7, none⟩ = some (.int .i64 aPA) := XP0.out.cell 7
            try clear cP0_8
            have cP0_8 : World.cell? ((World.drew w12)) ⟨w.heap.size, 8, none⟩ = some (.int .i64 aPF) := XP0.out.cell 8
            try clear cP0_9
            have cP0_9 : World.cell? ((World.drew w12)) ⟨w.heap.size, 9, none⟩ = some (.slice aPC_a aPC_L.length aPC_cap) := XP0.out.cell 9
            try clear cP0_10
            have cP0_10 : World.cell? ((World.drew w12)) ⟨w.heap.size, 10, none⟩ = some (.slice aPP_a aPP_L.length aPP_cap) := XP0.out.cell 10
            try clear cP0_11
            have cP0_11 : World.cell? ((World.drew w12)) ⟨w.heap.size, 11, none⟩ = some (.slice aJn_a aJn_L.length aJn_cap) := XP0.out.cell 11
            try clear cP0_12
            have cP0_12 : World.cell? ((World.drew w12)) ⟨w.heap.size, 12, none⟩ = some (.int .i64 aXDay) := XP0.out.cell 12
            try clear cP0_13
            have cP0_13 : World.cell? ((World.drew w12)) ⟨w.heap.size, 13, none⟩ = some (.int .i64 aXGiven) := XP0.out.cell 13
            try clear cP0_14
            have cP0_14 : World.cell? ((World.drew w12)) ⟨w.heap.size, 14, none⟩ = some (.int .i64 aXEaten) := XP0.out.cell 14
            refine wp_region_held_drew (S := fun w' => w'.cell? ⟨w8.heap.size, 0, none⟩ = some (.int .i64 aLW) ∧ w'.cell? ⟨w8.heap.size, 1, none⟩ = some (.int .i64 aLH) ∧ w'.cell? ⟨w8.heap.size, 2, none⟩ = some (.slice u11_a u11_n u11_c) ∧ w'.cell? ⟨w8.heap.size, 3, none⟩ = some (.int .i64 aXBase) ∧ w'.cell? ⟨w8.heap.size, 4, none⟩ = some (.int .i64 aRM) ∧ w'.cell? ⟨w8.heap.size, 5, none⟩ = some (.int .i64 aRW) ∧ w'.cell? ⟨w8.heap.size, 6, none⟩ = some (.slice u12_a u12_n u12_c) ∧ w'.cell? ⟨w8.heap.size, 7, none⟩ = some (.int .i64 aPA) ∧ w'.cell? ⟨w8.heap.size, 8, none⟩ = some (.int .i64 aPF) ∧ w'.cell? ⟨w8.heap.size, 9, none⟩ = some (.slice u13_a u13_n u13_c) ∧ w'.cell? ⟨w8.heap.size, 10, none⟩ = some (.slice u14_a u14_n u14_c) ∧ w'.cell? ⟨w8.heap.size, 11, none⟩ = some (.slice u15_a u15_n u15_c) ∧ w'.cell? ⟨w8.heap.size, 12, none⟩ = some (.int .i64 aXDay) ∧ w'.cell? ⟨w8.heap.size, 13, none⟩ = some (.int .i64 aXGiven) ∧ w'.cell? ⟨w8.heap.size, 14, none⟩ = some (.int .i64 aXEaten) ∧ w'.cell? ⟨w.heap.size, 0, none⟩ = some (.int .i64 aLW) ∧ w'.cell? ⟨w.heap.size, 1, none⟩ = some (.int .i64 aLH) ∧ w'.cell? ⟨w.heap.size, 2, none⟩ = some (.slice aLC_a aLC_L.length aLC_cap) ∧ w'.cell? ⟨w.heap.size, 3, none⟩ = some (.int .i64 aXBase) ∧ w'.cell? ⟨w.heap.size, 4, none⟩ = some (.int .i64 aRM) ∧ w'.cell? ⟨w.heap.size, 5, none⟩ = some (.int .i64 aRW) ∧ w'.cell? ⟨w.heap.size, 6, none⟩ = some (.slice aDp_a aDp_L.length aDp_cap) ∧ w'.cell? ⟨w.heap.size, 7, none⟩ = some (.int .i64 aPA) ∧ w'.cell? ⟨w.heap.size, 8, none⟩ = some (.int .i64 aPF) ∧ w'.cell? ⟨w.heap.size, 9, none⟩ = some (.slice aPC_a aPC_L.length aPC_cap) ∧ w'.cell? ⟨w.heap.size, 10, none⟩ = some (.slice aPP_a aPP_L.length aPP_cap) ∧ w'.cell? ⟨w.heap.size, 11, none⟩ = some (.slice aJn_a aJn_L.length aJn_cap) ∧ w'.cell? ⟨w.heap.size, 12, none⟩ = some (.int .i64 aXDay) ∧ w'.cell? ⟨w.heap.size, 13, none⟩ = some (.int .i64 aXGiven) ∧ w'.cell? ⟨w.heap.size, 14, none⟩ = some (.int .i64 aXEaten)) (by kernel_rfl) ⟨cB16_0, cB16_1, cB16_2, cB16_3, cB16_4, cB16_5, cB16_6, cB16_7, cB16_8, cB16_9, cB16_10, cB16_11, cB16_12, cB16_13, cB16_14, cP0_0, cP0_1, cP0_2, cP0_3, cP0_4, cP0_5, cP0_6, cP0_7, cP0_8, cP0_9, cP0_10, cP0_11, cP0_12, cP0_13, cP0_14⟩ (fun hHeld => ?_)
            refine wpAnyH_take (i := 0) (v := ?_) rfl (by kernel_rfl) (by kernel_rfl) (by kernel_rfl) (fun _ _ _ h => h) (Or.inl ⟨by rfl, ?_⟩) (by assumption) ?_; rotate_left; (focus (intro wS hSw; (try dsimp only at hSw); go_simp <;> with_reducible rfl)); (try simp only [Act.put, List.getElem_toArray, List.getElem_cons_succ, List.getElem_cons_zero, List.setIfInBounds_toArray, List.set_cons_zero, List.set_cons_succ])
            refine wpAnyH_take (i := 1) (v := ?_) rfl (by kernel_rfl) (by kernel_rfl) (by kernel_rfl) (fun _ _ _ h => h) (Or.inl ⟨by rfl, ?_⟩) (by assumption) ?_; rotate_left; (focus (intro wS hSw; (try dsimp only at hSw); go_simp <;> with_reducible rfl)); (try simp only [Act.put, List.getElem_toArray, List.getElem_cons_succ, List.getElem_cons_zero, List.setIfInBounds_toArray, List.set_cons_zero, List.set_cons_succ])
            refine wpAnyH_ready (rs := [2]) (by kernel_rfl) (by simp) ?_; refine AllReadyH.cons rfl (fun K hK => ?_) AllReadyH.nil; go_simp; (go_at_call 44; refine (TrekL.toTrek_any (World.drew w12) aLW aLH aXBase aRM aRW aPA aPF aXDay aXGiven aXEaten _ _ _ _ _ _ _ _ _ _ (aLC_S.out.below HB14.out) (aDp_S.out.below HB14.out) (aPC_S.out.below HB14.out) (aPP_S.out.below HB14.out) (aJn_S.out.below HB14.out) (by omega) (by omega) (by omega) (by omega) (by omega)).mono ?_; rintro e w14 ⟨u23, u24, u25, u26, u27, rfl, ho1, ho2, ho3, ho4, ho5, hap, hg⟩; have A_u23_u11 := Lib.hid (Rg.apart_lt ho1.lt Ou11.out.lt (Nat.le_refl _)); have A_u23_u12 := Lib.hid (Rg.apart_lt ho1.lt Ou12.out.lt (Nat.le_refl _)); have A_u23_u13 := Lib.hid (Rg.apart_lt ho1.lt Ou13.out.lt (Nat.le_refl _)); have A_u23_u14 := Lib.hid (Rg.apart_lt ho1.lt Ou14.out.lt (Nat.le_refl _)); have A_u23_u15 := Lib.hid (Rg.apart_lt ho1.lt Ou15.out.lt (Nat.le_refl _)); have A_u23_u17 := Lib.hid (Rg.apart_lt ho1.lt Ou17.out.lt (Nat.le_refl _)); have A_u23_u18 := Lib.hid (Rg.apart_lt ho1.lt Ou18.out.lt (Nat.le_refl _)); have A_u23_u19 := Lib.hid (Rg.apart_lt ho1.lt Ou19.out.lt (Nat.le_refl _)); have A_u23_u20 := Lib.hid (Rg.apart_lt ho1.lt Ou20.out.lt (Nat.le_refl _)); have A_u23_u21 := Lib.hid (Rg.apart_lt ho1.lt Ou21.out.lt (Nat.le_refl _)); have D_u23_P0 := Lib.hid (ho1.off XP0.out.lt); have D_u23_P1 := Lib.hid (ho1.off XP1.out.lt); have D_u23_B16 := Lib.hid (ho1.off XB16.out.lt); have D_u23_B22 := Lib.hid (ho1.off XB22.out.lt); have Ou23 := Lib.hid (ho1.lower HB14.out.size); have A_u24_u11 := Lib.hid (Rg.apart_lt ho2.lt Ou11.out.lt (Nat.le_refl _)); have A_u24_u12 := Lib.hid (Rg.apart_lt ho2.lt Ou12.out.lt (Nat.le_refl _)); have A_u24_u13 := Lib.hid (Rg.apart_lt ho2.lt Ou13.out.lt (Nat.le_refl _)); have A_u24_u14 := Lib.hid (Rg.apart_lt ho2.lt Ou14.out.lt (Nat.le_refl _)); have A_u24_u15 := Lib.hid (Rg.apart_lt ho2.lt Ou15.out.lt (Nat.le_refl _)); have A_u24_u17 := Lib.hid (Rg.apart_lt ho2.lt Ou17.out.lt (Nat.le_refl _)); have A_u24_u18 := Lib.hid (Rg.apart_lt ho2.lt Ou18.out.lt (Nat.le_refl _)); have A_u24_u19 := Lib.hid (Rg.apart_lt ho2.lt Ou19.out.lt (Nat.le_refl _)); have A_u24_u20 := Lib.hid (Rg.apart_lt ho2.lt Ou20.out.lt (Nat.le_refl _)); have A_u24_u21 := Lib.hid (Rg.apart_lt ho2.lt Ou21.out.lt (Nat.le_refl _)); have D_u24_P0 := Lib.hid (ho2.off XP0.out.lt); have D_u24_P1 := Lib.hid (ho2.off XP1.out.lt); have D_u24_B16 := Lib.hid (ho2.off XB16.out.lt); have D_u24_B22 := Lib.hid (ho2.off XB22.out.lt); have Ou24 := Lib.hid (ho2.lower HB14.out.size); have A_u25_u11 := Lib.hid (Rg.apart_lt ho3.lt Ou11.out.lt (Nat.le_refl _)); have A_u25_u12 := Lib.hid (Rg.apart_lt ho3.lt Ou12.out.lt (Nat.le_refl _)); have A_u25_u13 := Lib.hid (Rg.apart_lt ho3.lt Ou13.out.lt (Nat.le_refl _)); have A_u25_u14 := Lib.hid (Rg.apart_lt ho3.lt Ou14.out.lt (Nat.le_refl _)); have A_u25_u15 := Lib.hid (Rg.apart_lt ho3.lt Ou15.out.lt (Nat.le_refl _)); have A_u25_u17 := Lib.hid (Rg.apart_lt ho3.lt Ou17.out.lt (Nat.le_refl _)); have A_u25_u18 := Lib.hid (Rg.apart_lt ho3.lt Ou18.out.lt (Nat.le_refl _)); have A_u25_u19 := Lib.hid (Rg.apart_lt ho3.lt Ou19.out.lt (Nat.le_refl _)); have A_u25_u20 := Lib.hid (Rg.apart_lt ho3.lt Ou20.out.lt (Nat.le_refl _)); have A_u25_u21 := Lib.hid (Rg.apart_lt ho3.lt Ou21.out.lt (Nat.le_refl _)); have D_u25_P0 := Lib.hid (ho3.off XP0.out.lt); have D_u25_P1 := Lib.hid (ho3.off XP1.out.lt); have D_u25_B16 := Lib.hid (ho3.off XB16.out.lt); have D_u25_B22 := Lib.hid (ho3.off XB22.out.lt); have Ou25 := Lib.hid (ho3.lower HB14.out.size); have A_u26_u11 := Lib.hid (Rg.apart_lt ho4.lt Ou11.out.lt (Nat.le_refl _)); have A_u26_u12 := Lib.hid (Rg.apart_lt ho4.lt Ou12.out.lt (Nat.le_refl _)); have A_u26_u13 := Lib.hid (Rg.apart_lt ho4.lt Ou13.out.lt (Nat.le_refl _)); have A_u26_u14 := Lib.hid (Rg.apart_lt ho4.lt Ou14.out.lt (Nat.le_refl _)); have A_u26_u15 := Lib.hid (Rg.apart_lt ho4.lt Ou15.out.lt (Nat.le_refl _)); have A_u26_u17 := Lib.hid (Rg.apart_lt ho4.lt Ou17.out.lt (Nat.le_refl _)); have A_u26_u18 := Lib.hid (Rg.apart_lt ho4.lt Ou18.out.lt (Nat.le_refl _)); have A_u26_u19 := Lib.hid (Rg.apart_lt ho4.lt Ou19.out.lt (Nat.le_refl _)); have A_u26_u20 := Lib.hid (Rg.apart_lt ho4.lt Ou20.out.lt (Nat.le_refl _)); have A_u26_u21 := Lib.hid (Rg.apart_lt ho4.lt Ou21.out.lt (Nat.le_refl _)); have D_u26_P0 := Lib.hid (ho4.off XP0.out.lt); have D_u26_P1 := Lib.hid (ho4.off XP1.out.lt); have D_u26_B16 := Lib.hid (ho4.off XB16.out.lt); have D_u26_B22 := Lib.hid (ho4.off XB22.out.lt); have Ou26 := Lib.hid (ho4.lower HB14.out.size); have A_u27_u11 := Lib.hid (Rg.apart_lt ho5.lt Ou11.out.lt (Nat.le_refl _)); have A_u27_u12 := Lib.hid (Rg.apart_lt ho5.lt Ou12.out.lt (Nat.le_refl _)); have A_u27_u13 := Lib.hid (Rg.apart_lt ho5.lt Ou13.out.lt (Nat.le_refl _)); have A_u27_u14 := Lib.hid (Rg.apart_lt ho5.lt Ou14.out.lt (Nat.le_refl _)); have A_u27_u15 := Lib.hid (Rg.apart_lt ho5.lt Ou15.out.lt (Nat.le_refl _)); have A_u27_u17 := Lib.hid (Rg.apart_lt ho5.lt Ou17.out.lt (Nat.le_refl _)); have A_u27_u18 := Lib.hid (Rg.apart_lt ho5.lt Ou18.out.lt (Nat.le_refl _)); have A_u27_u19 := Lib.hid (Rg.apart_lt ho5.lt Ou19.out.lt (Nat.le_refl _)); have A_u27_u20 := Lib.hid (Rg.apart_lt ho5.lt Ou20.out.lt (Nat.le_refl _)); have A_u27_u21 := Lib.hid (Rg.apart_lt ho5.lt Ou21.out.lt (Nat.le_refl _)); have D_u27_P0 := Lib.hid (ho5.off XP0.out.lt); have D_u27_P1 := Lib.hid (ho5.off XP1.out.lt); have D_u27_B16 := Lib.hid (ho5.off XB16.out.lt); have D_u27_B22 := Lib.hid (ho5.off XB22.out.lt); have Ou27 := Lib.hid (ho5.lower HB14.out.size); simp only [TrekL.ApN, List.mem_cons, List.not_mem_nil, or_false, forall_eq_or_imp, forall_eq] at hap; obtain ⟨⟨x43, x42, x41, x40⟩, ⟨x32, x31, x30⟩, ⟨x21, x20⟩, x10, _⟩ := hap; have A_u24_u23 := Lib.hid x10; clear x10; have A_u25_u23 := Lib.hid x20; clear x20; have A_u25_u24 := Lib.hid x21; clear x21; have A_u26_u23 := Lib.hid x30; clear x30; have A_u26_u24 := Lib.hid x31; clear x31; have A_u26_u25 := Lib.hid x32; clear x32; have A_u27_u23 := Lib.hid x40; clear x40; have A_u27_u24 := Lib.hid x41; clear x41; have A_u27_u25 := Lib.hid x42; clear x42; have A_u27_u26 := Lib.hid x43; clear x43; have hap := trivial; have HB15 := Lib.hid (HB14.out.grown hg HB14.out.size (fun _ h => by cases h)); clear HB14; have Ou11 := Lib.hid (Ou11.out.grown hg); have Ou12 := Lib.hid (Ou12.out.grown hg); have Ou13 := Lib.hid (Ou13.out.grown hg); have Ou14 := Lib.hid (Ou14.out.grown hg); have Ou15 := Lib.hid (Ou15.out.grown hg); have Ou17 := Lib.hid (Ou17.out.grown hg); have Ou18 := Lib.hid (Ou18.out.grown hg); have Ou19 := Lib.hid (Ou19.out.grown hg); have Ou20 := Lib.hid (Ou20.out.grown hg); have Ou21 := Lib.hid (Ou21.out.grown hg); have XP0 := Lib.hid (XP0.out.grown hg); have XP1 := Lib.hid (XP1.out.grown hg); have XB16 := Lib.hid (XB16.out.grown hg); have XB22 := Lib.hid (XB22.out.grown hg); clear ho1 ho2 ho3 ho4 ho5 hap hg)
            refine hK.out _ _ ?_ (fun hHeld => ?_)
            · exact ⟨XB16.out.cell 0, XB16.out.cell 1, XB16.out.cell 2, XB16.out.cell 3, XB16.out.cell 4, XB16.out.cell 5, XB16.out.cell 6, XB16.out.cell 7, XB16.out.cell 8, XB16.out.cell 9, XB16.out.cell 10, XB16.out.cell 11, XB16.out.cell 12, XB16.out.cell 13, XB16.out.cell 14, XP0.out.cell 0, XP0.out.cell 1, XP0.out.cell 2, XP0.out.cell 3, XP0.out.cell 4, XP0.out.cell 5, XP0.out.cell 6, XP0.out.cell 7, XP0.out.cell 8, XP0.out.cell 9, XP0.out.cell 10, XP0.out.cell 11, XP0.out.cell 12, XP0.out.cell 13, XP0.out.cell 14⟩
            clear hK K
            (try simp only [Act.put, List.getElem_toArray, List.getElem_cons_succ, List.getElem_cons_zero, List.setIfInBounds_toArray, List.set_cons_zero, List.set_cons_succ])
            refine wpAnyH_ready (rs := [3]) (by kernel_rfl) (by simp) ?_; refine AllReadyH.cons rfl (fun K hK => ?_) AllReadyH.nil; go_simp; (go_at_call 46; refine (TrekL.eqTrek_same w14 aLW aLH aXBase aRM aRW aPA aPF aXDay aXGiven aXEaten _ _ _ _ _ _ _ _ _ _ _ _ _ _ _ (Ou11.out.sees) (Ou12.out.sees) (Ou13.out.sees) (Ou14.out.sees) (Ou15.out.sees) (Ou23.out.sees) (Ou24.out.sees) (Ou25.out.sees) (Ou26.out.sees) (Ou27.out.sees)).mono ?_; rintro e w15 ⟨rfl, hg⟩; have HB16 := Lib.hid (HB15.out.grown hg HB15.out.size (fun _ h => by cases h)); clear HB15; have Ou11 := Lib.hid (Ou11.out.grown hg); have Ou12 := Lib.hid (Ou12.out.grown hg); have Ou13 := Lib.hid (Ou13.out.grown hg); have Ou14 := Lib.hid (Ou14.out.grown hg); have Ou15 := Lib.hid (Ou15.out.grown hg); have Ou17 := Lib.hid (Ou17.out.grown hg); have Ou18 := Lib.hid (Ou18.out.grown hg); have Ou19 := Lib.hid (Ou19.out.grown hg); have Ou20 := Lib.hid (Ou20.out.grown hg); have Ou21 := Lib.hid (Ou21.out.grown hg); have Ou23 := Lib.hid (Ou23.out.grown hg); have Ou24 := Lib.hid (Ou24.out.grown hg); have Ou25 := Lib.hid (Ou25.out.grown hg); have Ou26 := Lib.hid (Ou26.out.grown hg); have Ou27 := Lib.hid (Ou27.out.grown hg); have XP0 := Lib.hid (XP0.out.grown hg); have XP1 := Lib.hid (XP1.out.grown hg); have XB16 := Lib.hid (XB16.out.grown hg); have XB22 := Lib.hid (XB22.out.grown hg); clear hg)
            refine hK.out _ _ ?_ (fun hHeld => ?_)
            · exact ⟨XB16.out.cell 0, XB16.out.cell 1, XB16.out.cell 2, XB16.out.cell 3, XB16.out.cell 4, XB16.out.cell 5, XB16.out.cell 6, XB16.out.cell 7, XB16.out.cell 8, XB16.out.cell 9, XB16.out.cell 10, XB16.out.cell 11, XB16.out.cell 12, XB16.out.cell 13, XB16.out.cell 14, XP0.out.cell 0, XP0.out.cell 1, XP0.out.cell 2, XP0.out.cell 3, XP0.out.cell 4, XP0.out.cell 5, XP0.out.cell 6, XP0.out.cell 7, XP0.out.cell 8, XP0.out.cell 9, XP0.out.cell 10, XP0.out.cell 11, XP0.out.cell 12, XP0.out.cell 13, XP0.out.cell 14⟩
            clear hK K
            (try simp only [Act.put, List.getElem_toArray, List.getElem_cons_succ, List.getElem_cons_zero, List.setIfInBounds_toArray, List.set_cons_zero, List.set_cons_succ])
            refine wpAnyH_take (i := 4) (v := ?_) rfl (by kernel_rfl) (by kernel_rfl) (by kernel_rfl) (fun _ _ _ h => h) (Or.inl ⟨by rfl, ?_⟩) (by assumption) ?_; rotate_left; (focus (intro wS hSw; (try dsimp only at hSw); go_simp <;> with_reducible rfl)); (try simp only [Act.put, List.getElem_toArray, List.getElem_cons_succ, List.getElem_cons_zero, List.setIfInBounds_toArray, List.set_cons_zero, List.set_cons_succ])
            refine wpAnyH_done (by kernel_rfl) ?_ _
            (try simp only [Act.put, List.getElem_toArray, List.getElem_cons_succ, List.getElem_cons_zero, List.setIfInBounds_toArray, List.set_cons_zero, List.set_cons_succ])
            clear Ou23
            clear Ou24
            clear Ou25
            clear Ou26
            clear Ou27
            clear Ou11
            clear Ou12
            clear Ou13
            clear Ou14
            clear Ou15
            try clear cP0_0
            have cP0_0 : World.cell? (w15) ⟨w.heap.size, 0, none⟩ = some (.int .i64 aLW) := XP0.out.cell 0
            try clear cP0_1
            have cP0_1 : World.cell? (w15) ⟨w.heap.size, 1, none⟩ = some (.int .i64 aLH) := XP0.out.cell 1
            try clear cP0_2
            have cP0_2 : World.cell? (w15) ⟨w.heap.size, 2, none⟩ = some (.slice aLC_a aLC_L.length aLC_cap) := XP0.out.cell 2
            try clear cP0_3
            have cP0_3 : World.cell? (w15) ⟨w.heap.size, 3, none⟩ = some (.int .i64 aXBase) := XP0.out.cell 3
            try clear cP0_4
            have cP0_4 : World.cell? (w15) ⟨w.heap.size, 4, none⟩ = some (.int .i64 aRM) := XP0.out.cell 4
            try clear cP0_5
            have cP0_5 : World.cell? (w15) ⟨w.heap.size, 5, none⟩ = some (.int .i64 aRW) := XP0.out.cell 5
            try clear cP0_6
            have cP0_6 : World.cell? (w15) ⟨w.heap.size, 6, none⟩ = some (.slice aDp_a aDp_L.length aDp_cap) := XP0.out.cell 6
            try clear cP0_7
            have cP0_7 : World.cell? (w15) ⟨w.heap.size, 7, none⟩ = some (.int .i64 aPA) := XP0.out.cell 7
            try clear cP0_8
            have cP0_8 : World.cell? (w15) ⟨w.heap.size, 8, none⟩ = some (.int .i64 aPF) := XP0.out.cell 8
            try clear cP0_9
            have cP0_9 : World.cell? (w15) ⟨w.heap.size, 9, none⟩ = some (.slice aPC_a aPC_L.length aPC_cap) := XP0.out.cell 9
            try clear cP0_10
            have cP0_10 : World.cell? (w15) ⟨w.heap.size, 10, none⟩ = some (.slice aPP_a aPP_L.length aPP_cap) := XP0.out.cell 10
            try clear cP0_11
            have cP0_11 : World.cell? (w15) ⟨w.heap.size, 11, none⟩ = some (.slice aJn_a aJn_L.length aJn_cap) := XP0.out.cell 11
            try clear cP0_12
            have cP0_12 : World.cell? (w15) ⟨w.heap.size, 12, none⟩ = some (.int .i64 aXDay) := XP0.out.cell 12
            try clear cP0_13
            have cP0_13 : World.cell? (w15) ⟨w.heap.size, 13, none⟩ = some (.int .i64 aXGiven) := XP0.out.cell 13
            try clear cP0_14
            have cP0_14 : World.cell? (w15) ⟨w.heap.size, 14, none⟩ = some (.int .i64 aXEaten) := XP0.out.cell 14
            try clear cP1_0
            have cP1_0 : World.cell? (w15) ⟨w.heap.size + 1, 0, none⟩ = some (.int .i64 bLW) := XP1.out.cell 0
            try clear cP1_1
            have cP1_1 : World.cell? (w15) ⟨w.heap.size + 1, 1, none⟩ = some (.int .i64 bLH) := XP1.out.cell 1
            try clear cP1_2
            have cP1_2 : World.cell? (w15) ⟨w.heap.size + 1, 2, none⟩ = some (.slice bLC_a bLC_L.length bLC_cap) := XP1.out.cell 2
            try clear cP1_3
            have cP1_3 : World.cell? (w15) ⟨w.heap.size + 1, 3, none⟩ = some (.int .i64 bXBase) := XP1.out.cell 3
            try clear cP1_4
            have cP1_4 : World.cell? (w15) ⟨w.heap.size + 1, 4, none⟩ = some (.int .i64 bRM) := XP1.out.cell 4
            try clear cP1_5
            have cP1_5 : World.cell? (w15) ⟨w.heap.size + 1, 5, none⟩ = some (.int .i64 bRW) := XP1.out.cell 5
            try clear cP1_6
            have cP1_6 : World.cell? (w15) ⟨w.heap.size + 1, 6, none⟩ = some (.slice bDp_a bDp_L.length bDp_cap) := XP1.out.cell 6
            try clear cP1_7
            have cP1_7 : World.cell? (w15) ⟨w.heap.size + 1, 7, none⟩ = some (.int .i64 bPA) := XP1.out.cell 7
            try clear cP1_8
            have cP1_8 : World.cell? (w15) ⟨w.heap.size + 1, 8, none⟩ = some (.int .i64 bPF) := XP1.out.cell 8
            try clear cP1_9
            have cP1_9 : World.cell? (w15) ⟨w.heap.size + 1, 9, none⟩ = some (.slice bPC_a bPC_L.length bPC_cap) := XP1.out.cell 9
            try clear cP1_10
            have cP1_10 : World.cell? (w15) ⟨w.heap.size + 1, 10, none⟩ = some (.slice bPP_a bPP_L.length bPP_cap) := XP1.out.cell 10
            try clear cP1_11
            have cP1_11 : World.cell? (w15) ⟨w.heap.size + 1, 11, none⟩ = some (.slice bJn_a bJn_L.length bJn_cap) := XP1.out.cell 11
            try clear cP1_12
            have cP1_12 : World.cell? (w15) ⟨w.heap.size + 1, 12, none⟩ = some (.int .i64 bXDay) := XP1.out.cell 12
            try clear cP1_13
            have cP1_13 : World.cell? (w15) ⟨w.heap.size + 1, 13, none⟩ = some (.int .i64 bXGiven) := XP1.out.cell 13
            try clear cP1_14
            have cP1_14 : World.cell? (w15) ⟨w.heap.size + 1, 14, none⟩ = some (.int .i64 bXEaten) := XP1.out.cell 14
            try clear cB16_0
            have cB16_0 : World.cell? (w15) ⟨w8.heap.size, 0, none⟩ = some (.int .i64 aLW) := XB16.out.cell 0
            try clear cB16_1
            have cB16_1 : World.cell? (w15) ⟨w8.heap.size, 1, none⟩ = some (.int .i64 aLH) := XB16.out.cell 1
            try clear cB16_2
            have cB16_2 : World.cell? (w15) ⟨w8.heap.size, 2, none⟩ = some (.slice u11_a u11_n u11_c) := XB16.out.cell 2
            try clear cB16_3
            have cB16_3 : World.cell? (w15) ⟨w8.heap.size, 3, none⟩ = some (.int .i64 aXBase) := XB16.out.cell 3
            try clear cB16_4
            have cB16_4 : World.cell? (w15) ⟨w8.heap.size, 4, none⟩ = some (.int .i64 aRM) := XB16.out.cell 4
            try clear cB16_5
            have cB16_5 : World.cell? (w15) ⟨w8.heap.size, 5, none⟩ = some (.int .i64 aRW) := XB16.out.cell 5
            try clear cB16_6
            have cB16_6 : World.cell? (w15) ⟨w8.heap.size, 6, none⟩ = some (.slice u12_a u12_n u12_c) := XB16.out.cell 6
            try clear cB16_7
            have cB16_7 : World.cell? (w15) ⟨w8.heap.size, 7, none⟩ = some (.int .i64 aPA) := XB16.out.cell 7
            try clear cB16_8
            have cB16_8 : World.cell? (w15) ⟨w8.heap.size, 8, none⟩ = some (.int .i64 aPF) := XB16.out.cell 8
            try clear cB16_9
            have cB16_9 : World.cell? (w15) ⟨w8.heap.size, 9, none⟩ = some (.slice u13_a u13_n u13_c) := XB16.out.cell 9
            try clear cB16_10
            have cB16_10 : World.cell? (w15) ⟨w8.heap.size, 10, none⟩ = some (.slice u14_a u14_n u14_c) := XB16.out.cell 10
            try clear cB16_11
            have cB16_11 : World.cell? (w15) ⟨w8.heap.size, 11, none⟩ = some (.slice u15_a u15_n u15_c) := XB16.out.cell 11
            try clear cB16_12
            have cB16_12 : World.cell? (w15) ⟨w8.heap.size, 12, none⟩ = some (.int .i64 aXDay) := XB16.out.cell 12
            try clear cB16_13
            have cB16_13 : World.cell? (w15) ⟨w8.heap.size, 13, none⟩ = some (.int .i64 aXGiven) := XB16.out.cell 13
            try clear cB16_14
            have cB16_14 : World.cell? (w15) ⟨w8.heap.size, 14, none⟩ = some (.int .i64 aXEaten) := XB16.out.cell 14
            try clear cB22_0
            have cB22_0 : World.cell? (w15) ⟨w10.heap.size, 0, none⟩ = some (.int .i64 bLW) := XB22.out.cell 0
            try clear cB22_1
            have cB22_1 : World.cell? (w15) ⟨w10.heap.size, 1, none⟩ = some (.int .i64 bLH) := XB22.out.cell 1
            try clear cB22_2
            have cB22_2 : World.cell? (w15) ⟨w10.heap.size, 2, none⟩ = some (.slice u17_a u17_n u17_c) := XB22.out.cell 2
            try clear cB22_3
            have cB22_3 : World.cell? (w15) ⟨w10.heap.size, 3, none⟩ = some (.int .i64 bXBase) := XB22.out.cell 3
            try clear cB22_4
            have cB22_4 : World.cell? (w15) ⟨w10.heap.size, 4, none⟩ = some (.int .i64 bRM) := XB22.out.cell 4
            try clear cB22_5
            have cB22_5 : World.cell? (w15) ⟨w10.heap.size, 5, none⟩ = some (.int .i64 bRW) := XB22.out.cell 5
            try clear cB22_6
            have cB22_6 : World.cell? (w15) ⟨w10.heap.size, 6, none⟩ = some (.slice u18_a u18_n u18_c) := XB22.out.cell 6
            try clear cB22_7
            have cB22_7 : World.cell? (w15) ⟨w10.heap.size, 7, none⟩ = some (.int .i64 bPA) := XB22.out.cell 7
            try clear cB22_8
            have cB22_8 : World.cell? (w15) ⟨w10.heap.size, 8, none⟩ = some (.int .i64 bPF) := XB22.out.cell 8
            try clear cB22_9
            have cB22_9 : World.cell? (w15) ⟨w10.heap.size, 9, none⟩ = some (.slice u19_a u19_n u19_c) := XB22.out.cell 9
            try clear cB22_10
            have cB22_10 : World.cell? (w15) ⟨w10.heap.size, 10, none⟩ = some (.slice u20_a u20_n u20_c) := XB22.out.cell 10
            try clear cB22_11
            have cB22_11 : World.cell? (w15) ⟨w10.heap.size, 11, none⟩ = some (.slice u21_a u21_n u21_c) := XB22.out.cell 11
            try clear cB22_12
            have cB22_12 : World.cell? (w15) ⟨w10.heap.size, 12, none⟩ = some (.int .i64 bXDay) := XB22.out.cell 12
            try clear cB22_13
            have cB22_13 : World.cell? (w15) ⟨w10.heap.size, 13, none⟩ = some (.int .i64 bXGiven) := XB22.out.cell 13
            try clear cB22_14
            have cB22_14 : World.cell? (w15) ⟨w10.heap.size, 14, none⟩ = some (.int .i64 bXEaten) := XB22.out.cell 14
            go_wp2_with fail
            have hgd := grown_drew (World.grownBy.refl w15 none)
            have HB17 := Lib.hid (HB16.out.grown hgd HB16.out.size (fun _ h => by cases h)); clear HB16
            have Ou17 := Lib.hid (Ou17.out.grown hgd)
            have Ou18 := Lib.hid (Ou18.out.grown hgd)
            have Ou19 := Lib.hid (Ou19.out.grown hgd)
            have Ou20 := Lib.hid (Ou20.out.grown hgd)
            have Ou21 := Lib.hid (Ou21.out.grown hgd)
            have XP0 := Lib.hid (XP0.out.grown hgd)
            have XP1 := Lib.hid (XP1.out.grown hgd)
            have XB16 := Lib.hid (XB16.out.grown hgd)
            have XB22 := Lib.hid (XB22.out.grown hgd)
            clear hgd
            try clear cB22_0
            have cB22_0 : World.cell? ((World.drew w15)) ⟨w10.heap.size, 0, none⟩ = some (.int .i64 bLW) := XB22.out.cell 0
            try clear cB22_1
            have cB22_1 : World.cell? ((World.drew w15)) ⟨w10.heap.size, 1, none⟩ = some (.int .i64 bLH) := XB22.out.cell 1
            try clear cB22_2
            have cB22_2 : World.cell? ((World.drew w15)) ⟨w10.heap.size, 2, none⟩ = some (.slice u17_a u17_n u17_c) := XB22.out.cell 2
            try clear cB22_3
            have cB22_3 : World.cell? ((World.drew w15)) ⟨w10.heap.size, 3, none⟩ = some (.int .i64 bXBase) := XB22.out.cell 3
            try clear cB22_4
            have cB22_4 : World.cell? ((World.drew w15)) ⟨w10.heap.size, 4, none⟩ = some (.int .i64 bRM) := XB22.out.cell 4
            try clear cB22_5
            have cB22_5 : World.cell? ((World.drew w15)) ⟨w10.heap.size, 5, none⟩ = some (.int .i64 bRW) := XB22.out.cell 5
            try clear cB22_6
            have cB22_6 : World.cell? ((World.drew w15)) ⟨w10.heap.size, 6, none⟩ = some (.slice u18_a u18_n u18_c) := XB22.out.cell 6
            try clear cB22_7
            have cB22_7 : World.cell? ((World.drew w15)) ⟨w10.heap.size, 7, none⟩ = some (.int .i64 bPA) := XB22.out.cell 7
            try clear cB22_8
            have cB22_8 : World.cell? ((World.drew w15)) ⟨w10.heap.size, 8, none⟩ = some (.int .i64 bPF) := XB22.out.cell 8
            try clear cB22_9
            have cB22_9 : World.cell? ((World.drew w15)) ⟨w10.heap.size, 9, none⟩ = some (.slice u19_a u19_n u19_c) := XB22.out.cell 9
            try clear cB22_10
            have cB22_10 : World.cell? ((World.drew w15)) ⟨w10.heap.size, 10, none⟩ = some (.slice u20_a u20_n u20_c) := XB22.out.cell 10
            try clear cB22_11
            have cB22_11 : World.cell? ((World.drew w15)) ⟨w10.heap.size, 11, none⟩ = some (.slice u21_a u21_n u21_c) := XB22.out.cell 11
            try clear cB22_12
            have cB22_12 : World.cell? ((World.drew w15)) ⟨w10.heap.size, 12, none⟩ = some (.int .i64 bXDay) := XB22.out.cell 12
            try clear cB22_13
            have cB22_13 : World.cell? ((World.drew w15)) ⟨w10.heap.size, 13, none⟩ = some (.int .i64 bXGiven) := XB22.out.cell 13
            try clear cB22_14
            have cB22_14 : World.cell? ((World.drew w15)) ⟨w10.heap.size, 14, none⟩ = some (.int .i64 bXEaten) := XB22.out.cell 14
            try clear cP1_0
            have cP1_0 : World.cell? ((World.drew w15)) ⟨w.heap.size + 1, 0, none⟩ = some (.int .i64 bLW) := XP1.out.cell 0
            try clear cP1_1
            have cP1_1 : World.cell? ((World.drew w15)) ⟨w.heap.size + 1, 1, none⟩ = some (.int .i64 bLH) := XP1.out.cell 1
            try clear cP1_2
            have cP1_2 : World.cell? ((World.drew w15)) ⟨w.heap.size + 1, 2, none⟩ = some (.slice bLC_a bLC_L.length bLC_cap) := XP1.out.cell 2
            try clear cP1_3
            have cP1_3 : World.cell? ((World.drew w15)) ⟨w.heap.size + 1, 3, none⟩ = some (.int .i64 bXBase) := XP1.out.cell 3
            try clear cP1_4
            have cP1_4 : World.cell? ((World.drew w15)) ⟨w.heap.size + 1, 4, none⟩ = some (.int .i64 bRM) := XP1.out.cell 4
            try clear cP1_5
            have cP1_5 : World.cell? ((World.drew w15)) ⟨w.heap.size + 1, 5, none⟩ = some (.int .i64 bRW) := XP1.out.cell 5
            try clear cP1_6
            have cP1_6 : World.cell? ((World.drew w15)) ⟨w.heap.size + 1, 6, none⟩ = some (.slice bDp_a bDp_L.length bDp_cap) := XP1.out.cell 6
            try clear cP1_7
            have cP1_7 : World.cell? ((World.drew w15)) ⟨w.heap.size + 1, 7, none⟩ = some (.int .i64 bPA) := XP1.out.cell 7
            try clear cP1_8
            have cP1_8 : World.cell? ((World.drew w15)) ⟨w.heap.size + 1, 8, none⟩ = some (.int .i64 bPF) := XP1.out.cell 8
            try clear cP1_9
            have cP1_9 : World.cell? ((World.drew w15)) ⟨w.heap.size + 1, 9, none⟩ = some (.slice bPC_a bPC_L.length bPC_cap) := XP1.out.cell 9
            try clear cP1_10
            have cP1_10 : World.cell? ((World.drew w15)) ⟨w.heap.size + 1, 10, none⟩ = some (.slice bPP_a bPP_L.length bPP_cap) := XP1.out.cell 10
            try clear cP1_11
            have cP1_11 : World.cell? ((World.drew w15)) ⟨w.heap.size + 1, 11, none⟩ = some (.slice bJn_a bJn_L.length bJn_cap) := XP1.out.cell 11
            try clear cP1_12
            have cP1_12 : World.cell? ((World.drew w15)) ⟨w.heap.size + 1, 12, none⟩ = some (.int .i64 bXDay) := XP1.out.cell 12
            try clear cP1_13
            have cP1_13 : World.cell? ((World.drew w15)) ⟨w.heap.size + 1, 13, none⟩ = some (.int .i64 bXGiven) := XP1.out.cell 13
            try clear cP1_14
            have cP1_14 : World.cell? ((World.drew w15)) ⟨w.heap.size + 1, 14, none⟩ = some (.int .i64 bXEaten) := XP1.out.cell 14
            refine wp_region_held_drew (S := fun w' => w'.cell? ⟨w10.heap.size, 0, none⟩ = some (.int .i64 bLW) ∧ w'.cell? ⟨w10.heap.size, 1, none⟩ = some (.int .i64 bLH) ∧ w'.cell? ⟨w10.heap.size, 2, none⟩ = some (.slice u17_a u17_n u17_c) ∧ w'.cell? ⟨w10.heap.size, 3, none⟩ = some (.int .i64 bXBase) ∧ w'.cell? ⟨w10.heap.size, 4, none⟩ = some (.int .i64 bRM) ∧ w'.cell? ⟨w10.heap.size, 5, none⟩ = some (.int .i64 bRW) ∧ w'.cell? ⟨w10.heap.size, 6, none⟩ = some (.slice u18_a u18_n u18_c) ∧ w'.cell? ⟨w10.heap.size, 7, none⟩ = some (.int .i64 bPA) ∧ w'.cell? ⟨w10.heap.size, 8, none⟩ = some (.int .i64 bPF) ∧ w'.cell? ⟨w10.heap.size, 9, none⟩ = some (.slice u19_a u19_n u19_c) ∧ w'.cell? ⟨w10.heap.size, 10, none⟩ = some (.slice u20_a u20_n u20_c) ∧ w'.cell? ⟨w10.heap.size, 11, none⟩ = some (.slice u21_a u21_n u21_c) ∧ w'.cell? ⟨w10.heap.size, 12, none⟩ = some (.int .i64 bXDay) ∧ w'.cell? ⟨w10.heap.size, 13, none⟩ = some (.int .i64 bXGiven) ∧ w'.cell? ⟨w10.heap.size, 14, none⟩ = some (.int .i64 bXEaten) ∧ w'.cell? ⟨w.heap.size + 1, 0, none⟩ = some (.int .i64 bLW) ∧ w'.cell? ⟨w.heap.size + 1, 1, none⟩ = some (.int .i64 bLH) ∧ w'.cell? ⟨w.heap.size + 1, 2, none⟩ = some (.slice bLC_a bLC_L.length bLC_cap) ∧ w'.cell? ⟨w.heap.size + 1, 3, none⟩ = some (.int .i64 bXBase) ∧ w'.cell? ⟨w.heap.size + 1, 4, none⟩ = some (.int .i64 bRM) ∧ w'.cell? ⟨w.heap.size + 1, 5, none⟩ = some (.int .i64 bRW) ∧ w'.cell? ⟨w.heap.size + 1, 6, none⟩ = some (.slice bDp_a bDp_L.length bDp_cap) ∧ w'.cell? ⟨w.heap.size + 1, 7, none⟩ = some (.int .i64 bPA) ∧ w'.cell? ⟨w.heap.size + 1, 8, none⟩ = some (.int .i64 bPF) ∧ w'.cell? ⟨w.heap.size + 1, 9, none⟩ = some (.slice bPC_a bPC_L.length bPC_cap) ∧ w'.cell? ⟨w.heap.size + 1, 10, none⟩ = some (.slice bPP_a bPP_L.length bPP_cap) ∧ w'.cell? ⟨w.heap.size + 1, 11, none⟩ = some (.slice bJn_a bJn_L.length bJn_cap) ∧ w'.cell? ⟨w.heap.size + 1, 12, none⟩ = some (.int .i64 bXDay) ∧ w'.cell? ⟨w.heap.size + 1, 13, none⟩ = some (.int .i64 bXGiven) ∧ w'.cell? ⟨w.heap.size + 1, 14, none⟩ = some (.int .i64 bXEaten)) (by kernel_rfl) ⟨cB22_0, cB22_1, cB22_2, cB22_3, cB22_4, cB22_5, cB22_6, cB22_7, cB22_8, cB22_9, cB22_10, cB22_11, cB22_12, cB22_13, cB22_14, cP1_0, cP1_1, cP1_2, cP1_3, cP1_4, cP1_5, cP1_6, cP1_7, cP1_8, cP1_9, cP1_10, cP1_11, cP1_12, cP1_13, cP1_14⟩ (fun hHeld => ?_)
            refine wpAnyH_take (i := 0) (v := ?_) rfl (by kernel_rfl) (by kernel_rfl) (by kernel_rfl) (fun _ _ _ h => h) (Or.inl ⟨by rfl, ?_⟩) (by assumption) ?_; rotate_left; (focus (intro wS hSw; (try dsimp only at hSw); go_simp <;> with_reducible rfl)); (try simp only [Act.put, List.getElem_toArray, List.getElem_cons_succ, List.getElem_cons_zero, List.setIfInBounds_toArray, List.set_cons_zero, List.set_cons_succ])
            refine wpAnyH_take (i := 1) (v := ?_) rfl (by kernel_rfl) (by kernel_rfl) (by kernel_rfl) (fun _ _ _ h => h) (Or.inl ⟨by rfl, ?_⟩) (by assumption) ?_; rotate_left; (focus (intro wS hSw; (try dsimp only at hSw); go_simp <;> with_reducible rfl)); (try simp only [Act.put, List.getElem_toArray, List.getElem_cons_succ, List.getElem_cons_zero, List.setIfInBounds_toArray, List.set_cons_zero, List.set_cons_succ])
            refine wpAnyH_ready (rs := [2]) (by kernel_rfl) (by simp) ?_; refine AllReadyH.cons rfl (fun K hK => ?_) AllReadyH.nil; go_simp; (go_at_call 44; refine (TrekL.toTrek_any (World.drew w15) bLW bLH bXBase bRM bRW bPA bPF bXDay bXGiven bXEaten _ _ _ _ _ _ _ _ _ _ (bLC_S.out.below HB17.out) (bDp_S.out.below HB17.out) (bPC_S.out.below HB17.out) (bPP_S.out.below HB17.out) (bJn_S.out.below HB17.out) (by omega) (by omega) (by omega) (by omega) (by omega)).mono ?_; rintro e w17 ⟨u28, u29, u30, u31, u32, rfl, ho1, ho2, ho3, ho4, ho5, hap, hg⟩; have A_u28_u17 := Lib.hid (Rg.apart_lt ho1.lt Ou17.out.lt (Nat.le_refl _)); have A_u28_u18 := Lib.hid (Rg.apart_lt ho1.lt Ou18.out.lt (Nat.le_refl _)); have A_u28_u19 := Lib.hid (Rg.apart_lt ho1.lt Ou19.out.lt (Nat.le_refl _)); have A_u28_u20 := Lib.hid (Rg.apart_lt ho1.lt Ou20.out.lt (Nat.le_refl _)); have A_u28_u21 := Lib.hid (Rg.apart_lt ho1.lt Ou21.out.lt (Nat.le_refl _)); have D_u28_P0 := Lib.hid (ho1.off XP0.out.lt); have D_u28_P1 := Lib.hid (ho1.off XP1.out.lt); have D_u28_B16 := Lib.hid (ho1.off XB16.out.lt); have D_u28_B22 := Lib.hid (ho1.off XB22.out.lt); have Ou28 := Lib.hid (ho1.lower HB17.out.size); have A_u29_u17 := Lib.hid (Rg.apart_lt ho2.lt Ou17.out.lt (Nat.le_refl _)); have A_u29_u18 := Lib.hid (Rg.apart_lt ho2.lt Ou18.out.lt (Nat.le_refl _)); have A_u29_u19 := Lib.hid (Rg.apart_lt ho2.lt Ou19.out.lt (Nat.le_refl _)); have A_u29_u20 := Lib.hid (Rg.apart_lt ho2.lt Ou20.out.lt (Nat.le_refl _)); have A_u29_u21 := Lib.hid (Rg.apart_lt ho2.lt Ou21.out.lt (Nat.le_refl _)); have D_u29_P0 := Lib.hid (ho2.off XP0.out.lt); have D_u29_P1 := Lib.hid (ho2.off XP1.out.lt); have D_u29_B16 := Lib.hid (ho2.off XB16.out.lt); have D_u29_B22 := Lib.hid (ho2.off XB22.out.lt); have Ou29 := Lib.hid (ho2.lower HB17.out.size); have A_u30_u17 := Lib.hid (Rg.apart_lt ho3.lt Ou17.out.lt (Nat.le_refl _)); have A_u30_u18 := Lib.hid (Rg.apart_lt ho3.lt Ou18.out.lt (Nat.le_refl _)); have A_u30_u19 := Lib.hid (Rg.apart_lt ho3.lt Ou19.out.lt (Nat.le_refl _)); have A_u30_u20 := Lib.hid (Rg.apart_lt ho3.lt Ou20.out.lt (Nat.le_refl _)); have A_u30_u21 := Lib.hid (Rg.apart_lt ho3.lt Ou21.out.lt (Nat.le_refl _)); have D_u30_P0 := Lib.hid (ho3.off XP0.out.lt); have D_u30_P1 := Lib.hid (ho3.off XP1.out.lt); have D_u30_B16 := Lib.hid (ho3.off XB16.out.lt); have D_u30_B22 := Lib.hid (ho3.off XB22.out.lt); have Ou30 := Lib.hid (ho3.lower HB17.out.size); have A_u31_u17 := Lib.hid (Rg.apart_lt ho4.lt Ou17.out.lt (Nat.le_refl _)); have A_u31_u18 := Lib.hid (Rg.apart_lt ho4.lt Ou18.out.lt (Nat.le_refl _)); have A_u31_u19 := Lib.hid (Rg.apart_lt ho4.lt Ou19.out.lt (Nat.le_refl _)); have A_u31_u20 := Lib.hid (Rg.apart_lt ho4.lt Ou20.out.lt (Nat.le_refl _)); have A_u31_u21 := Lib.hid (Rg.apart_lt ho4.lt Ou21.out.lt (Nat.le_refl _)); have D_u31_P0 := Lib.hid (ho4.off XP0.out.lt); have D_u31_P1 := Lib.hid (ho4.off XP1.out.lt); have D_u31_B16 := Lib.hid (ho4.off XB16.out.lt); have D_u31_B22 := Lib.hid (ho4.off XB22.out.lt); have Ou31 := Lib.hid (ho4.lower HB17.out.size); have A_u32_u17 := Lib.hid (Rg.apart_lt ho5.lt Ou17.out.lt (Nat.le_refl _)); have A_u32_u18 := Lib.hid (Rg.apart_lt ho5.lt Ou18.out.lt (Nat.le_refl _)); have A_u32_u19 := Lib.hid (Rg.apart_lt ho5.lt Ou19.out.lt (Nat.le_refl _)); have A_u32_u20 := Lib.hid (Rg.apart_lt ho5.lt Ou20.out.lt (Nat.le_refl _)); have A_u32_u21 := Lib.hid (Rg.apart_lt ho5.lt Ou21.out.lt (Nat.le_refl _)); have D_u32_P0 := Lib.hid (ho5.off XP0.out.lt); have D_u32_P1 := Lib.hid (ho5.off XP1.out.lt); have D_u32_B16 := Lib.hid (ho5.off XB16.out.lt); have D_u32_B22 := Lib.hid (ho5.off XB22.out.lt); have Ou32 := Lib.hid (ho5.lower HB17.out.size); simp only [TrekL.ApN, List.mem_cons, List.not_mem_nil, or_false, forall_eq_or_imp, forall_eq] at hap; obtain ⟨⟨x43, x42, x41, x40⟩, ⟨x32, x31, x30⟩, ⟨x21, x20⟩, x10, _⟩ := hap; have A_u29_u28 := Lib.hid x10; clear x10; have A_u30_u28 := Lib.hid x20; clear x20; have A_u30_u29 := Lib.hid x21; clear x21; have A_u31_u28 := Lib.hid x30; clear x30; have A_u31_u29 := Lib.hid x31; clear x31; have A_u31_u30 := Lib.hid x32; clear x32; have A_u32_u28 := Lib.hid x40; clear x40; have A_u32_u29 := Lib.hid x41; clear x41; have A_u32_u30 := Lib.hid x42; clear x42; have A_u32_u31 := Lib.hid x43; clear x43; have hap := trivial; have HB18 := Lib.hid (HB17.out.grown hg HB17.out.size (fun _ h => by cases h)); clear HB17; have Ou17 := Lib.hid (Ou17.out.grown hg); have Ou18 := Lib.hid (Ou18.out.grown hg); have Ou19 := Lib.hid (Ou19.out.grown hg); have Ou20 := Lib.hid (Ou20.out.grown hg); have Ou21 := Lib.hid (Ou21.out.grown hg); have XP0 := Lib.hid (XP0.out.grown hg); have XP1 := Lib.hid (XP1.out.grown hg); have XB16 := Lib.hid (XB16.out.grown hg); have XB22 := Lib.hid (XB22.out.grown hg); clear ho1 ho2 ho3 ho4 ho5 hap hg)
            refine hK.out _ _ ?_ (fun hHeld => ?_)
            · exact ⟨XB22.out.cell 0, XB22.out.cell 1, XB22.out.cell 2, XB22.out.cell 3, XB22.out.cell 4, XB22.out.cell 5, XB22.out.cell 6, XB22.out.cell 7, XB22.out.cell 8, XB22.out.cell 9, XB22.out.cell 10, XB22.out.cell 11, XB22.out.cell 12, XB22.out.cell 13, XB22.out.cell 14, XP1.out.cell 0, XP1.out.cell 1, XP1.out.cell 2, XP1.out.cell 3, XP1.out.cell 4, XP1.out.cell 5, XP1.out.cell 6, XP1.out.cell 7, XP1.out.cell 8, XP1.out.cell 9, XP1.out.cell 10, XP1.out.cell 11, XP1.out.cell 12, XP1.out.cell 13, XP1.out.cell 14⟩
            clear hK K
            (try simp only [Act.put, List.getElem_toArray, List.getElem_cons_succ, List.getElem_cons_zero, List.setIfInBounds_toArray, List.set_cons_zero, List.set_cons_succ])
            refine wpAnyH_ready (rs := [3]) (by kernel_rfl) (by simp) ?_; refine AllReadyH.cons rfl (fun K hK => ?_) AllReadyH.nil; go_simp; (go_at_call 46; refine (TrekL.eqTrek_same w17 bLW bLH bXBase bRM bRW bPA bPF bXDay bXGiven bXEaten _ _ _ _ _ _ _ _ _ _ _ _ _ _ _ (Ou17.out.sees) (Ou18.out.sees) (Ou19.out.sees) (Ou20.out.sees) (Ou21.out.sees) (Ou28.out.sees) (Ou29.out.sees) (Ou30.out.sees) (Ou31.out.sees) (Ou32.out.sees)).mono ?_; rintro e w18 ⟨rfl, hg⟩; have HB19 := Lib.hid (HB18.out.grown hg HB18.out.size (fun _ h => by cases h)); clear HB18; have Ou17 := Lib.hid (Ou17.out.grown hg); have Ou18 := Lib.hid (Ou18.out.grown hg); have Ou19 := Lib.hid (Ou19.out.grown hg); have Ou20 := Lib.hid (Ou20.out.grown hg); have Ou21 := Lib.hid (Ou21.out.grown hg); have Ou28 := Lib.hid (Ou28.out.grown hg); have Ou29 := Lib.hid (Ou29.out.grown hg); have Ou30 := Lib.hid (Ou30.out.grown hg); have Ou31 := Lib.hid (Ou31.out.grown hg); have Ou32 := Lib.hid (Ou32.out.grown hg); have XP0 := Lib.hid (XP0.out.grown hg); have XP1 := Lib.hid (XP1.out.grown hg); have XB16 := Lib.hid (XB16.out.grown hg); have XB22 := Lib.hid (XB22.out.grown hg); clear hg)
            refine hK.out _ _ ?_ (fun hHeld => ?_)
            · exact ⟨XB22.out.cell 0, XB22.out.cell 1, XB22.out.cell 2, XB22.out.cell 3, XB22.out.cell 4, XB22.out.cell 5, XB22.out.cell 6, XB22.out.cell 7, XB22.out.cell 8, XB22.out.cell 9, XB22.out.cell 10, XB22.out.cell 11, XB22.out.cell 12, XB22.out.cell 13, XB22.out.cell 14, XP1.out.cell 0, XP1.out.cell 1, XP1.out.cell 2, XP1.out.cell 3, XP1.out.cell 4, XP1.out.cell 5, XP1.out.cell 6, XP1.out.cell 7, XP1.out.cell 8, XP1.out.cell 9, XP1.out.cell 10, XP1.out.cell 11, XP1.out.cell 12, XP1.out.cell 13, XP1.out.cell 14⟩
            clear hK K
            (try simp only [Act.put, List.getElem_toArray, List.getElem_cons_succ, List.getElem_cons_zero, List.setIfInBounds_toArray, List.set_cons_zero, List.set_cons_succ])
            refine wpAnyH_take (i := 4) (v := ?_) rfl (by kernel_rfl) (by kernel_rfl) (by kernel_rfl) (fun _ _ _ h => h) (Or.inl ⟨by rfl, ?_⟩) (by assumption) ?_; rotate_left; (focus (intro wS hSw; (try dsimp only at hSw); go_simp <;> with_reducible rfl)); (try simp only [Act.put, List.getElem_toArray, List.getElem_cons_succ, List.getElem_cons_zero, List.setIfInBounds_toArray, List.set_cons_zero, List.set_cons_succ])
            refine wpAnyH_done (by kernel_rfl) ?_ _
            (try simp only [Act.put, List.getElem_toArray, List.getElem_cons_succ, List.getElem_cons_zero, List.setIfInBounds_toArray, List.set_cons_zero, List.set_cons_succ])
            clear Ou28
            clear Ou29
            clear Ou30
            clear Ou31
            clear Ou32
            clear Ou17
            clear Ou18
            clear Ou19
            clear Ou20
            clear Ou21
            try clear cP0_0
            have cP0_0 : World.cell? (w18) ⟨w.heap.size, 0, none⟩ = some (.int .i64 aLW) := XP0.out.cell 0
            try clear cP0_1
            have cP0_1 : World.cell? (w18) ⟨w.heap.size, 1, none⟩ = some (.int .i64 aLH) := XP0.out.cell 1
            try clear cP0_2
            have cP0_2 : World.cell? (w18) ⟨w.heap.size, 2, none⟩ = some (.slice aLC_a aLC_L.length aLC_cap) := XP0.out.cell 2
            try clear cP0_3
            have cP0_3 : World.cell? (w18) ⟨w.heap.size, 3, none⟩ = some (.int .i64 aXBase) := XP0.out.cell 3
            try clear cP0_4
            have cP0_4 : World.cell? (w18) ⟨w.heap.size, 4, none⟩ = some (.int .i64 aRM) := XP0.out.cell 4
            try clear cP0_5
            have cP0_5 : World.cell? (w18) ⟨w.heap.size, 5, none⟩ = some (.int .i64 aRW) := XP0.out.cell 5
            try clear cP0_6
            have cP0_6 : World.cell? (w18) ⟨w.heap.size, 6, none⟩ = some (.slice aDp_a aDp_L.length aDp_cap) := XP0.out.cell 6
            try clear cP0_7
            have cP0_7 : World.cell? (w18) ⟨w.heap.size, 7, none⟩ = some (.int .i64 aPA) := XP0.out.cell 7
            try clear cP0_8
            have cP0_8 : World.cell? (w18) ⟨w.heap.size, 8, none⟩ = some (.int .i64 aPF) := XP0.out.cell 8
            try clear cP0_9
            have cP0_9 : World.cell? (w18) ⟨w.heap.size, 9, none⟩ = some (.slice aPC_a aPC_L.length aPC_cap) := XP0.out.cell 9
            try clear cP0_10
            have cP0_10 : World.cell? (w18) ⟨w.heap.size, 10, none⟩ = some (.slice aPP_a aPP_L.length aPP_cap) := XP0.out.cell 10
            try clear cP0_11
            have cP0_11 : World.cell? (w18) ⟨w.heap.size, 11, none⟩ = some (.slice aJn_a aJn_L.length aJn_cap) := XP0.out.cell 11
            try clear cP0_12
            have cP0_12 : World.cell? (w18) ⟨w.heap.size, 12, none⟩ = some (.int .i64 aXDay) := XP0.out.cell 12
            try clear cP0_13
            have cP0_13 : World.cell? (w18) ⟨w.heap.size, 13, none⟩ = some (.int .i64 aXGiven) := XP0.out.cell 13
            try clear cP0_14
            have cP0_14 : World.cell? (w18) ⟨w.heap.size, 14, none⟩ = some (.int .i64 aXEaten) := XP0.out.cell 14
            try clear cP1_0
            have cP1_0 : World.cell? (w18) ⟨w.heap.size + 1, 0, none⟩ = some (.int .i64 bLW) := XP1.out.cell 0
            try clear cP1_1
            have cP1_1 : World.cell? (w18) ⟨w.heap.size + 1, 1, none⟩ = some (.int .i64 bLH) := XP1.out.cell 1
            try clear cP1_2
            have cP1_2 : World.cell? (w18) ⟨w.heap.size + 1, 2, none⟩ = some (.slice bLC_a bLC_L.length bLC_cap) := XP1.out.cell 2
            try clear cP1_3
            have cP1_3 : World.cell? (w18) ⟨w.heap.size + 1, 3, none⟩ = some (.int .i64 bXBase) := XP1.out.cell 3
            try clear cP1_4
            have cP1_4 : World.cell? (w18) ⟨w.heap.size + 1, 4, none⟩ = some (.int .i64 bRM) := XP1.out.cell 4
            try clear cP1_5
            have cP1_5 : World.cell? (w18) ⟨w.heap.size + 1, 5, none⟩ = some (.int .i64 bRW) := XP1.out.cell 5
            try clear cP1_6
            have cP1_6 : World.cell? (w18) ⟨w.heap.size + 1, 6, none⟩ = some (.slice bDp_a bDp_L.length bDp_cap) := XP1.out.cell 6
            try clear cP1_7
            have cP1_7 : World.cell? (w18) ⟨w.heap.size + 1, 7, none⟩ = some (.int .i64 bPA) := XP1.out.cell 7
            try clear cP1_8
            have cP1_8 : World.cell? (w18) ⟨w.heap.size + 1, 8, none⟩ = some (.int .i64 bPF) := XP1.out.cell 8
            try clear cP1_9
            have cP1_9 : World.cell? (w18) ⟨w.heap.size + 1, 9, none⟩ = some (.slice bPC_a bPC_L.length bPC_cap) := XP1.out.cell 9
            try clear cP1_10
            have cP1_10 : World.cell? (w18) ⟨w.heap.size + 1, 10, none⟩ = some (.slice bPP_a bPP_L.length bPP_cap) := XP1.out.cell 10
            try clear cP1_11
            have cP1_11 : World.cell? (w18) ⟨w.heap.size + 1, 11, none⟩ = some (.slice bJn_a bJn_L.length bJn_cap) := XP1.out.cell 11
            try clear cP1_12
            have cP1_12 : World.cell? (w18) ⟨w.heap.size + 1, 12, none⟩ = some (.int .i64 bXDay) := XP1.out.cell 12
            try clear cP1_13
            have cP1_13 : World.cell? (w18) ⟨w.heap.size + 1, 13, none⟩ = some (.int .i64 bXGiven) := XP1.out.cell 13
            try clear cP1_14
            have cP1_14 : World.cell? (w18) ⟨w.heap.size + 1, 14, none⟩ = some (.int .i64 bXEaten) := XP1.out.cell 14
            try clear cB16_0
            have cB16_0 : World.cell? (w18) ⟨w8.heap.size, 0, none⟩ = some (.int .i64 aLW) := XB16.out.cell 0
            try clear cB16_1
            have cB16_1 : World.cell? (w18) ⟨w8.heap.size, 1, none⟩ = some (.int .i64 aLH) := XB16.out.cell 1
            try clear cB16_2
            have cB16_2 : World.cell? (w18) ⟨w8.heap.size, 2, none⟩ = some (.slice u11_a u11_n u11_c) := XB16.out.cell 2
            try clear cB16_3
            have cB16_3 : World.cell? (w18) ⟨w8.heap.size, 3, none⟩ = some (.int .i64 aXBase) := XB16.out.cell 3
            try clear cB16_4
            have cB16_4 : World.cell? (w18) ⟨w8.heap.size, 4, none⟩ = some (.int .i64 aRM) := XB16.out.cell 4
            try clear cB16_5
            have cB16_5 : World.cell? (w18) ⟨w8.heap.size, 5, none⟩ = some (.int .i64 aRW) := XB16.out.cell 5
            try clear cB16_6
            have cB16_6 : World.cell? (w18) ⟨w8.heap.size, 6, none⟩ = some (.slice u12_a u12_n u12_c) := XB16.out.cell 6
            try clear cB16_7
            have cB16_7 : World.cell? (w18) ⟨w8.heap.size, 7, none⟩ = some (.int .i64 aPA) := XB16.out.cell 7
            try clear cB16_8
            have cB16_8 : World.cell? (w18) ⟨w8.heap.size, 8, none⟩ = some (.int .i64 aPF) := XB16.out.cell 8
            try clear cB16_9
            have cB16_9 : World.cell? (w18) ⟨w8.heap.size, 9, none⟩ = some (.slice u13_a u13_n u13_c) := XB16.out.cell 9
            try clear cB16_10
            have cB16_10 : World.cell? (w18) ⟨w8.heap.size, 10, none⟩ = some (.slice u14_a u14_n u14_c) := XB16.out.cell 10
            try clear cB16_11
            have cB16_11 : World.cell? (w18) ⟨w8.heap.size, 11, none⟩ = some (.slice u15_a u15_n u15_c) := XB16.out.cell 11
            try clear cB16_12
            have cB16_12 : World.cell? (w18) ⟨w8.heap.size, 12, none⟩ = some (.int .i64 aXDay) := XB16.out.cell 12
            try clear cB16_13
            have cB16_13 : World.cell? (w18) ⟨w8.heap.size, 13, none⟩ = some (.int .i64 aXGiven) := XB16.out.cell 13
            try clear cB16_14
            have cB16_14 : World.cell? (w18) ⟨w8.heap.size, 14, none⟩ = some (.int .i64 aXEaten) := XB16.out.cell 14
            try clear cB22_0
            have cB22_0 : World.cell? (w18) ⟨w10.heap.size, 0, none⟩ = some (.int .i64 bLW) := XB22.out.cell 0
            try clear cB22_1
            have cB22_1 : World.cell? (w18) ⟨w10.heap.size, 1, none⟩ = some (.int .i64 bLH) := XB22.out.cell 1
            try clear cB22_2
            have cB22_2 : World.cell? (w18) ⟨w10.heap.size, 2, none⟩ = some (.slice u17_a u17_n u17_c) := XB22.out.cell 2
            try clear cB22_3
            have cB22_3 : World.cell? (w18) ⟨w10.heap.size, 3, none⟩ = some (.int .i64 bXBase) := XB22.out.cell 3
            try clear cB22_4
            have cB22_4 : World.cell? (w18) ⟨w10.heap.size, 4, none⟩ = some (.int .i64 bRM) := XB22.out.cell 4
            try clear cB22_5
            have cB22_5 : World.cell? (w18) ⟨w10.heap.size, 5, none⟩ = some (.int .i64 bRW) := XB22.out.cell 5
            try clear cB22_6
            have cB22_6 : World.cell? (w18) ⟨w10.heap.size, 6, none⟩ = some (.slice u18_a u18_n u18_c) := XB22.out.cell 6
            try clear cB22_7
            have cB22_7 : World.cell? (w18) ⟨w10.heap.size, 7, none⟩ = some (.int .i64 bPA) := XB22.out.cell 7
            try clear cB22_8
            have cB22_8 : World.cell? (w18) ⟨w10.heap.size, 8, none⟩ = some (.int .i64 bPF) := XB22.out.cell 8
            try clear cB22_9
            have cB22_9 : World.cell? (w18) ⟨w10.heap.size, 9, none⟩ = some (.slice u19_a u19_n u19_c) := XB22.out.cell 9
            try clear cB22_10
            have cB22_10 : World.cell? (w18) ⟨w10.heap.size, 10, none⟩ = some (.slice u20_a u20_n u20_c) := XB22.out.cell 10
            try clear cB22_11
            have cB22_11 : World.cell? (w18) ⟨w10.heap.size, 11, none⟩ = some (.slice u21_a u21_n u21_c) := XB22.out.cell 11
            try clear cB22_12
            have cB22_12 : World.cell? (w18) ⟨w10.heap.size, 12, none⟩ = some (.int .i64 bXDay) := XB22.out.cell 12
            try clear cB22_13
            have cB22_13 : World.cell? (w18) ⟨w10.heap.size, 13, none⟩ = some (.int .i64 bXGiven) := XB22.out.cell 13
            try clear cB22_14
            have cB22_14 : World.cell? (w18) ⟨w10.heap.size, 14, none⟩ = some (.int .i64 bXEaten) := XB22.out.cell 14
            go_wp2
            go_ret
            exact ⟨rfl, HB19.out⟩

set_option maxRecDepth 100000 in
/-- What the walk gives, for every argument. -/
theorem contract (H : Type) (enc : TypeId × Value → H) (W : World) (base : Nat) (args : Array Value) (ds gs : List (DataW H)) (before : List MemPlace)
    (hval : ∀ (j : Nat) t v, Try.f11.params[j]? = some t → args[j]? = some v → Value.okWide Try.prog W .any base t v)
    (hW : DataW.Whole enc Try.prog Try.f11.params.toList Rows.fnExactEqualTreksSpec.vars false W args.toList ds gs before) :
    Calls Try.prog 11 args W fun e W' => ∃ v, e = .returned v ∧ Rows.fnExactEqualTreksSpec.post enc Try.prog Try.f11 false true false false W args v W' := by
  have hW' := hW
  obtain ⟨p, q, hA0, hV, rfl, hfz, hnd⟩ := hW
  have hA : DataW.TrodAll enc Try.prog W 0 (fun _ => true) true Try.f11.params.toList args.toList ds p := hA0
  rw [Try.params11] at hA hval
  obtain ⟨v0, vs0, d0, ds0, p0, q0, hargs, rfl, rfl, h0, r0⟩ := trodAll_cons hA
  obtain ⟨v1, vs1, d1, ds1, p1, q1, rfl, rfl, rfl, h1, r1⟩ := trodAll_cons r0
  obtain ⟨rfl, rfl, rfl⟩ := trodAll_nil r1
  obtain rfl : args = #[v0, v1] := by cases args; simp_all
  obtain ⟨rfl, rfl⟩ := trodVars_none hV
  have k0 := h0
  have lt0 : ∀ x ∈ p0, x.block < W.heap.size := by obtain ⟨m, hm⟩ := k0; exact DataW.trod_lt m _ _ _ hm
  obtain ⟨tW0, tH0, tb0, tm0, trn0, tn0, tf0, tdy0, tgv0, tea0, txa0, tda0, tca0, tpa0, tja0, txn0, txc0, tdn0, tdc0, tcn0, tcc0, tpn0, tpc0, tjn0, tjc0, tX0, tD0, tL0, tP0, tJ0, rfl, tw0_0, tw1_0, tw2_0, tw3_0, tw4_0, tw5_0, tw6_0, tw7_0, tw8_0, tw9_0, tw10_0, tw11_0, tw12_0, tw13_0, tw14_0⟩ := TrekL.open_trek (hval 0 58 v0 rfl rfl) h0
  have k1 := h1
  have lt1 : ∀ x ∈ p1, x.block < W.heap.size := by obtain ⟨m, hm⟩ := k1; exact DataW.trod_lt m _ _ _ hm
  obtain ⟨tW1, tH1, tb1, tm1, trn1, tn1, tf1, tdy1, tgv1, tea1, txa1, tda1, tca1, tpa1, tja1, txn1, txc1, tdn1, tdc1, tcn1, tcc1, tpn1, tpc1, tjn1, tjc1, tX1, tD1, tL1, tP1, tJ1, rfl, tw0_1, tw1_1, tw2_1, tw3_1, tw4_1, tw5_1, tw6_1, tw7_1, tw8_1, tw9_1, tw10_1, tw11_1, tw12_1, tw13_1, tw14_1⟩ := TrekL.open_trek (hval 1 58 v1 rfl rfl) h1
  clear hA0
  refine (walk W tW0 tw0_0 tH0 tw1_0 txa0 txn0 txc0 tX0 tw2_0 tb0 tw3_0 tm0 tw4_0 trn0 tw5_0 tda0 tdn0 tdc0 tD0 tw6_0 tn0 tw7_0 tf0 tw8_0 tca0 tcn0 tcc0 tL0 tw9_0 tpa0 tpn0 tpc0 tP0 tw10_0 tja0 tjn0 tjc0 tJ0 tw11_0 tdy0 tw12_0 tgv0 tw13_0 tea0 tw14_0 tW1 tw0_1 tH1 tw1_1 txa1 txn1 txc1 tX1 tw2_1 tb1 tw3_1 tm1 tw4_1 trn1 tw5_1 tda1 tdn1 tdc1 tD1 tw6_1 tn1 tw7_1 tf1 tw8_1 tca1 tcn1 tcc1 tL1 tw9_1 tpa1 tpn1 tpc1 tP1 tw10_1 tja1 tjn1 tjc1 tJ1 tw11_1 tdy1 tw12_1 tgv1 tw13_1 tea1 tw14_1).mono fun e W' ⟨he, bel⟩ => ?_
  subst he
  exact ⟨_, rfl, _, _, _, [], _, [], hW', trodAll_mk1 (shut_bool Try.underlying4 _), (trodAll_cons_mk (Below.trod laidOut (by kernel_rfl) (of_decide_eq_true (by kernel_rfl)) k0 bel lt0) (trodAll_cons_mk (Below.trod laidOut (by kernel_rfl) (of_decide_eq_true (by kernel_rfl)) k1 bel lt1) trodAll_mk0)), rfl, bel.frame _, fun h => by cases h⟩

noncomputable def laidWorld (os : Os) : World := World.holding Try.prog os ⟨#[], #[], []⟩
theorem reads (os : Os) {H : Type} (enc : TypeId × Value → H) : ∃ places, DataW.whole enc Try.prog ((laidWorld os).forCall (fun _ _ => 0) ⟨#[], #[.agg #[.int .i64 0, .int .i64 0, .slice none 0 0, .int .i64 0, .int .i64 0, .int .i64 0, .slice none 0 0, .int .i64 0, .int .i64 0, .slice none 0 0, .slice none 0 0, .slice none 0 0, .int .i64 0, .int .i64 0, .int .i64 0], .agg #[.int .i64 0, .int .i64 0, .slice none 0 0, .int .i64 0, .int .i64 0, .int .i64 0, .slice none 0 0, .int .i64 0, .int .i64 0, .slice none 0 0, .slice none 0 0, .slice none 0 0, .int .i64 0, .int .i64 0, .int .i64 0]], []⟩).memory Try.f11.params.toList Rows.fnExactEqualTreksSpec.vars false (#[.agg #[.int .i64 0, .int .i64 0, .slice none 0 0, .int .i64 0, .int .i64 0, .int .i64 0, .slice none 0 0, .int .i64 0, .int .i64 0, .slice none 0 0, .slice none 0 0, .slice none 0 0, .int .i64 0, .int .i64 0, .int .i64 0], .agg #[.int .i64 0, .int .i64 0, .slice none 0 0, .int .i64 0, .int .i64 0, .int .i64 0, .slice none 0 0, .int .i64 0, .int .i64 0, .slice none 0 0, .slice none 0 0, .slice none 0 0, .int .i64 0, .int .i64 0, .int .i64 0]] : Array Value).toList 8 = some ([.agg [.agg [.lit (.int .i64 0), .lit (.int .i64 0), .nil], .lit (.int .i64 0), .agg [.lit (.int .i64 0), .lit (.int .i64 0)], .nil, .agg [.lit (.int .i64 0), .lit (.int .i64 0), .nil, .nil], .nil, .lit (.int .i64 0), .lit (.int .i64 0), .lit (.int .i64 0)], .agg [.agg [.lit (.int .i64 0), .lit (.int .i64 0), .nil], .lit (.int .i64 0), .agg [.lit (.int .i64 0), .lit (.int .i64 0)], .nil, .agg [.lit (.int .i64 0), .lit (.int .i64 0), .nil, .nil], .nil, .lit (.int .i64 0), .lit (.int .i64 0), .lit (.int .i64 0)]], [], places) :=
  ⟨[], by kernel_rfl⟩

set_option maxRecDepth 100000 in
theorem lifted (os : Os) (started : os.Started) (H : Type) (enc : TypeId × Value → H) (F : Stop.Interp) :
    ReturnsInHanded {} Try.checked os 11 .any ((OpenSpec.ofChange Rows.fnExactEqualTreksSpec).preRow enc Try.prog Try.f11 Rows.fnExactEqualTreksRow.domain false Rows.fnExactEqualTreksRow.laid) (((OpenSpec.ofChange Rows.fnExactEqualTreksSpec).at F).post enc Try.prog Try.f11 false true false false) := by
  obtain ⟨places, hx⟩ := reads os enc
  refine returnsInHanded_of_row (C := Try.checked) (s := (OpenSpec.ofChange Rows.fnExactEqualTreksSpec)) own started (by kernel_rfl) Try.func11
    (witness_row_at (enc := enc) (C := Try.checked) false (laidWorld os) #[.agg #[.int .i64 0, .int .i64 0, .slice none 0 0, .int .i64 0, .int .i64 0, .int .i64 0, .slice none 0 0, .int .i64 0, .int .i64 0, .slice none 0 0, .slice none 0 0, .slice none 0 0, .int .i64 0, .int .i64 0, .int .i64 0], .agg #[.int .i64 0, .int .i64 0, .slice none 0 0, .int .i64 0, .int .i64 0, .int .i64 0, .slice none 0 0, .int .i64 0, .int .i64 0, .slice none 0 0, .slice none 0 0, .slice none 0 0, .int .i64 0, .int .i64 0, .int .i64 0]] rfl (by kernel_rfl) (by kernel_rfl) (by kernel_rfl)
      (OpenSpec.preRow_of_cond 8 hx (by kernel_rfl) (fun k hk => by cases hk) (by kernel_rfl) (laidMetH_nil _ _))) ?_
  intro W base args ds gs before hval hW _ _ _ _ _ _
  exact contract H enc W base args ds gs before hval hW

set_option maxRecDepth 100000 in
theorem said : Rows.FnExactEqualTreksSaid :=
  OpenClaim.holds_of_cond 11 Try.f11 rfl rfl rfl rfl rfl rfl rfl ⟨rfl, rfl, rfl, rfl, rfl⟩ rfl rfl rfl rfl rfl (by kernel_rfl) Try.func11 (by kernel_rfl)
    (of_decide_eq_true (by kernel_rfl)) (by unfold Func.isWrapper; first | (rw [if_pos (by decide +kernel)]; kernel_rfl) | (rw [if_neg (by decide +kernel)]; exact ⟨rfl, rfl⟩))
    (fun os started H enc _ F => by rw [OpenClaim.pre_eq_preRow]; exact lifted os started H enc F)

theorem proved : Rows.FnExactEqualTreksSaid := said
#print axioms proved
end Go.Proofs.Ytochohoihmfanaa.fnExactEqualTreks

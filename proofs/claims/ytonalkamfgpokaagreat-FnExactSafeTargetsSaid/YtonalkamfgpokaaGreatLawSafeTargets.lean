/- The law FnExactSafeTargets: the program's SafeTargets answers as its model, for every argument; it writes into no argument, and its answer owns its memory. No condition. -/
import Derived.Deep.RegionHeld3
import Derived.Test.YtonalkamfgpokaaGreatRows
import Derived.Test.YtonalkamfgpokaaGreatClSafeTargets
import Derived.Test.YtonalkamfgpokaaGreatG1
import Derived.Test.YtonalkamfgpokaaGreatG6
import Derived.Test.YtonalkamfgpokaaGreatG9
import Derived.Test.YtonalkamfgpokaaGreatG5
import Derived.Test.YtonalkamfgpokaaGreatSaf
import Derived.WalkKit
import Derived.ProofKit
import Derived.OpenShut
import Derived.ShutString
import Derived.ChangeOld
import Derived.Below
import Derived.Deep.DeepHandedRow
import Derived.Deep.DeepWitnessRowRef
import Derived.Lib.LaidTab
namespace Go.Proofs.YtonalkamfgpokaaGreat.fnExactSafeTargets
open Go.ChangeShapes Go.WideShapes Go.ChangeAt Go.RowKit
open Go.ChangeMaps (open_string shut_string)
set_option linter.unusedVariables false

theorem own : ownKnob Tryz.prog.godebug = none := by kernel_rfl
theorem laidOut : laidOutB Tryz.prog = true := by kernel_rfl

open Kit Rw
set_option maxRecDepth 100000 in
set_option maxHeartbeats 4000000 in
theorem walk (w : World) (aX_W : Int) (aX_W_h : (Lit.int .i64 aX_W).wf = true) (aX_H : Int) (aX_H_h : (Lit.int .i64 aX_H).wf = true) (aX_Cells_a : Option Addr) (aX_Cells_len aX_Cells_cap : Nat) (aX_Cells_z : List Int) (aX_Cells_h : Kit.IsRow .i64 w aX_Cells_a aX_Cells_len aX_Cells_cap aX_Cells_z) (aBase : Int) (aBase_h : (Lit.int .i64 aBase).wf = true) (aR_Most : Int) (aR_Most_h : (Lit.int .i64 aR_Most).wf = true) (aR_Window : Int) (aR_Window_h : (Lit.int .i64 aR_Window).wf = true) (aL_a : Option Addr) (aL_len aL_cap : Nat) (aL_L : List (Int × Int)) (aL_h : aL_L.length = aL_len ∧ Rg.SeesG Rg.encP w (.slice aL_a aL_len aL_cap) aL_L) (aP_At : Int) (aP_At_h : (Lit.int .i64 aP_At).wf = true) (aP_Food : Int) (aP_Food_h : (Lit.int .i64 aP_Food).wf = true) (aP_Crew_a : Option Addr) (aP_Crew_len aP_Crew_cap : Nat) (aP_Crew_L : List Rg.Mem) (aP_Crew_h : aP_Crew_L.length = aP_Crew_len ∧ Rg.SeesG Rg.encM w (.slice aP_Crew_a aP_Crew_len aP_Crew_cap) aP_Crew_L) (aP_Past_a : Option Addr) (aP_Past_len aP_Past_cap : Nat) (aP_Past_L : List Bool) (aP_Past_h : aP_Past_L.length = aP_Past_len ∧ Rg.SeesG Rg.encB w (.slice aP_Past_a aP_Past_len aP_Past_cap) aP_Past_L) :
    Calls Tryz.prog 5 #[.agg #[.int .i64 aX_W, .int .i64 aX_H, .slice aX_Cells_a aX_Cells_len aX_Cells_cap], .int .i64 aBase, .agg #[.int .i64 aR_Most, .int .i64 aR_Window], .slice aL_a aL_len aL_cap, .agg #[.int .i64 aP_At, .int .i64 aP_Food, .slice aP_Crew_a aP_Crew_len aP_Crew_cap, .slice aP_Past_a aP_Past_len aP_Past_cap]] w fun e w' => e = .returned (.bool true) ∧ Below w.heap.size w w' := by
  obtain ⟨aL_e, aL_s0⟩ := aL_h; have aL_S := Lib.hid aL_s0; have aL_len0 := aL_s0.len; subst aL_e; clear aL_s0
  obtain ⟨aP_Crew_e, aP_Crew_s0⟩ := aP_Crew_h; have aP_Crew_S := Lib.hid aP_Crew_s0; have aP_Crew_len0 := aP_Crew_s0.len; subst aP_Crew_e; clear aP_Crew_s0
  obtain ⟨aP_Past_e, aP_Past_s0⟩ := aP_Past_h; have aP_Past_S := Lib.hid aP_Past_s0; have aP_Past_len0 := aP_Past_s0.len; subst aP_Past_e; clear aP_Past_s0
  have aX_Cells_g := Lib.hid aX_Cells_h; clear aX_Cells_h
  obtain ⟨aX_Cells_L, aX_Cells_e, aX_Cells_s0⟩ := IsRow.sees aX_Cells_g.out
  have aX_Cells_S := Lib.hid aX_Cells_s0; have aX_Cells_len0 := aX_Cells_s0.len; subst aX_Cells_e; clear aX_Cells_s0 aX_Cells_g
  have aX_W_H := Lib.hid aX_W_h; have aX_W_b := i64_of aX_W_h; clear aX_W_h
  have aX_H_H := Lib.hid aX_H_h; have aX_H_b := i64_of aX_H_h; clear aX_H_h
  have aBase_H := Lib.hid aBase_h; have aBase_b := i64_of aBase_h; clear aBase_h
  have aR_Most_H := Lib.hid aR_Most_h; have aR_Most_b := i64_of aR_Most_h; clear aR_Most_h
  have aR_Window_H := Lib.hid aR_Window_h; have aR_Window_b := i64_of aR_Window_h; clear aR_Window_h
  have aP_At_H := Lib.hid aP_At_h; have aP_At_b := i64_of aP_At_h; clear aP_At_h
  have aP_Food_H := Lib.hid aP_Food_h; have aP_Food_b := i64_of aP_Food_h; clear aP_Food_h
  by_cases aX_l : (aX_Cells_L.length : Int) ≤ (1048576 : Int)
  rotate_left
  ·
    have HB0 : Hid (Below w.heap.size w w) := Below.refl _ _
    have hgb := World.grownBy_alloc w (.cells #[.int .i64 aX_W, .int .i64 aX_H, .slice aX_Cells_a aX_Cells_L.length aX_Cells_cap] 24 (0, 0)) none
    have HB1 := Lib.hid (HB0.out.grown hgb HB0.out.size (fun _ h => by cases h)); clear HB0
    have XP0 := Lib.hid (box_new w #[.int .i64 aX_W, .int .i64 aX_H, .slice aX_Cells_a aX_Cells_L.length aX_Cells_cap] 24); clear hgb
    have hgb := World.grownBy_alloc (w.alloc (.cells #[.int .i64 aX_W, .int .i64 aX_H, .slice aX_Cells_a aX_Cells_L.length aX_Cells_cap] 24 (0, 0))) (.cells #[.int .i64 aR_Most, .int .i64 aR_Window] 26 (0, 0)) none
    have HB2 := Lib.hid (HB1.out.grown hgb HB1.out.size (fun _ h => by cases h)); clear HB1
    have XP0 := Lib.hid (XP0.out.grown hgb)
    have XP1 := Lib.hid (box_new (w.alloc (.cells #[.int .i64 aX_W, .int .i64 aX_H, .slice aX_Cells_a aX_Cells_L.length aX_Cells_cap] 24 (0, 0))) #[.int .i64 aR_Most, .int .i64 aR_Window] 26); clear hgb
    simp only [World.size_alloc] at XP1
    have hgb := World.grownBy_alloc ((w.alloc (.cells #[.int .i64 aX_W, .int .i64 aX_H, .slice aX_Cells_a aX_Cells_L.length aX_Cells_cap] 24 (0, 0))).alloc (.cells #[.int .i64 aR_Most, .int .i64 aR_Window] 26 (0, 0))) (.cells #[.int .i64 aP_At, .int .i64 aP_Food, .slice aP_Crew_a aP_Crew_L.length aP_Crew_cap, .slice aP_Past_a aP_Past_L.length aP_Past_cap] 31 (0, 0)) none
    have HB3 := Lib.hid (HB2.out.grown hgb HB2.out.size (fun _ h => by cases h)); clear HB2
    have XP0 := Lib.hid (XP0.out.grown hgb)
    have XP1 := Lib.hid (XP1.out.grown hgb)
    have XP2 := Lib.hid (box_new ((w.alloc (.cells #[.int .i64 aX_W, .int .i64 aX_H, .slice aX_Cells_a aX_Cells_L.length aX_Cells_cap] 24 (0, 0))).alloc (.cells #[.int .i64 aR_Most, .int .i64 aR_Window] 26 (0, 0))) #[.int .i64 aP_At, .int .i64 aP_Food, .slice aP_Crew_a aP_Crew_L.length aP_Crew_cap, .slice aP_Past_a aP_Past_L.length aP_Past_cap] 31); clear hgb
    simp only [World.size_alloc] at XP2
    go_enter Tryz.func5, Tryz.ntmps5
    try clear cP0_0
    have cP0_0 : World.cell? (((w.alloc (.cells #[.int .i64 aX_W, .int .i64 aX_H, .slice aX_Cells_a aX_Cells_L.length aX_Cells_cap] 24 (0, 0))).alloc (.cells #[.int .i64 aR_Most, .int .i64 aR_Window] 26 (0, 0))).alloc (.cells #[.int .i64 aP_At, .int .i64 aP_Food, .slice aP_Crew_a aP_Crew_L.length aP_Crew_cap, .slice aP_Past_a aP_Past_L.length aP_Past_cap] 31 (0, 0))) ⟨w.heap.size, 0, none⟩ = some (.int .i64 aX_W) := XP0.out.cell 0
    try clear cP0_1
    have cP0_1 : World.cell? (((w.alloc (.cells #[.int .i64 aX_W, .int .i64 aX_H, .slice aX_Cells_a aX_Cells_L.length aX_Cells_cap] 24 (0, 0))).alloc (.cells #[.int .i64 aR_Most, .int .i64 aR_Window] 26 (0, 0))).alloc (.cells #[.int .i64 aP_At, .int .i64 aP_Food, .slice aP_Crew_a aP_Crew_L.length aP_Crew_cap, .slice aP_Past_a aP_Past_L.length aP_Past_cap] 31 (0, 0))) ⟨w.heap.size, 1, none⟩ = some (.int .i64 aX_H) := XP0.out.cell 1
    try clear cP0_2
    have cP0_2 : World.cell? (((w.alloc (.cells #[.int .i64 aX_W, .int .i64 aX_H, .slice aX_Cells_a aX_Cells_L.length aX_Cells_cap] 24 (0, 0))).alloc (.cells #[.int .i64 aR_Most, .int .i64 aR_Window] 26 (0, 0))).alloc (.cells #[.int .i64 aP_At, .int .i64 aP_Food, .slice aP_Crew_a aP_Crew_L.length aP_Crew_cap, .slice aP_Past_a aP_Past_L.length aP_Past_cap] 31 (0, 0))) ⟨w.heap.size, 2, none⟩ = some (.slice aX_Cells_a aX_Cells_L.length aX_Cells_cap) := XP0.out.cell 2
    try clear cP1_0
    have cP1_0 : World.cell? (((w.alloc (.cells #[.int .i64 aX_W, .int .i64 aX_H, .slice aX_Cells_a aX_Cells_L.length aX_Cells_cap] 24 (0, 0))).alloc (.cells #[.int .i64 aR_Most, .int .i64 aR_Window] 26 (0, 0))).alloc (.cells #[.int .i64 aP_At, .int .i64 aP_Food, .slice aP_Crew_a aP_Crew_L.length aP_Crew_cap, .slice aP_Past_a aP_Past_L.length aP_Past_cap] 31 (0, 0))) ⟨w.heap.size + 1, 0, none⟩ = some (.int .i64 aR_Most) := XP1.out.cell 0
    try clear cP1_1
    have cP1_1 : World.cell? (((w.alloc (.cells #[.int .i64 aX_W, .int .i64 aX_H, .slice aX_Cells_a aX_Cells_L.length aX_Cells_cap] 24 (0, 0))).alloc (.cells #[.int .i64 aR_Most, .int .i64 aR_Window] 26 (0, 0))).alloc (.cells #[.int .i64 aP_At, .int .i64 aP_Food, .slice aP_Crew_a aP_Crew_L.length aP_Crew_cap, .slice aP_Past_a aP_Past_L.length aP_Past_cap] 31 (0, 0))) ⟨w.heap.size + 1, 1, none⟩ = some (.int .i64 aR_Window) := XP1.out.cell 1
    try clear cP2_0
    have cP2_0 : World.cell? (((w.alloc (.cells #[.int .i64 aX_W, .int .i64 aX_H, .slice aX_Cells_a aX_Cells_L.length aX_Cells_cap] 24 (0, 0))).alloc (.cells #[.int .i64 aR_Most, .int .i64 aR_Window] 26 (0, 0))).alloc (.cells #[.int .i64 aP_At, .int .i64 aP_Food, .slice aP_Crew_a aP_Crew_L.length aP_Crew_cap, .slice aP_Past_a aP_Past_L.length aP_Past_cap] 31 (0, 0))) ⟨w.heap.size + 1 + 1, 0, none⟩ = some (.int .i64 aP_At) := XP2.out.cell 0
    try clear cP2_1
    have cP2_1 : World.cell? (((w.alloc (.cells #[.int .i64 aX_W, .int .i64 aX_H, .slice aX_Cells_a aX_Cells_L.length aX_Cells_cap] 24 (0, 0))).alloc (.cells #[.int .i64 aR_Most, .int .i64 aR_Window] 26 (0, 0))).alloc (.cells #[.int .i64 aP_At, .int .i64 aP_Food, .slice aP_Crew_a aP_Crew_L.length aP_Crew_cap, .slice aP_Past_a aP_Past_L.length aP_Past_cap] 31 (0, 0))) ⟨w.heap.size + 1 + 1, 1, none⟩ = some (.int .i64 aP_Food) := XP2.out.cell 1
    try clear cP2_2
    have cP2_2 : World.cell? (((w.alloc (.cells #[.int .i64 aX_W, .int .i64 aX_H, .slice aX_Cells_a aX_Cells_L.length aX_Cells_cap] 24 (0, 0))).alloc (.cells #[.int .i64 aR_Most, .int .i64 aR_Window] 26 (0, 0))).alloc (.cells #[.int .i64 aP_At, .int .i64 aP_Food, .slice aP_Crew_a aP_Crew_L.length aP_Crew_cap, .slice aP_Past_a aP_Past_L.length aP_Past_cap] 31 (0, 0))) ⟨w.heap.size + 1 + 1, 2, none⟩ = some (.slice aP_Crew_a aP_Crew_L.length aP_Crew_cap) := XP2.out.cell 2
    try clear cP2_3
    have cP2_3 : World.cell? (((w.alloc (.cells #[.int .i64 aX_W, .int .i64 aX_H, .slice aX_Cells_a aX_Cells_L.length aX_Cells_cap] 24 (0, 0))).alloc (.cells #[.int .i64 aR_Most, .int .i64 aR_Window] 26 (0, 0))).alloc (.cells #[.int .i64 aP_At, .int .i64 aP_Food, .slice aP_Crew_a aP_Crew_L.length aP_Crew_cap, .slice aP_Past_a aP_Past_L.length aP_Past_cap] 31 (0, 0))) ⟨w.heap.size + 1 + 1, 3, none⟩ = some (.slice aP_Past_a aP_Past_L.length aP_Past_cap) := XP2.out.cell 3
    go_wp2_with fail
    generalize ((w.alloc (.cells #[.int .i64 aX_W, .int .i64 aX_H, .slice aX_Cells_a aX_Cells_L.length aX_Cells_cap] 24 (0, 0))).alloc (.cells #[.int .i64 aR_Most, .int .i64 aR_Window] 26 (0, 0))).alloc (.cells #[.int .i64 aP_At, .int .i64 aP_Food, .slice aP_Crew_a aP_Crew_L.length aP_Crew_cap, .slice aP_Past_a aP_Past_L.length aP_Past_cap] 31 (0, 0)) = w1 at *
    refine (LandL.szLand_no w1 aX_W aX_H _ _ (1048576 : Int) (aX_Cells_S.out.below HB3.out) (by omega) (by omega) (by omega)).mono ?_
    rintro e w2 ⟨rfl, hg⟩
    have HB4 := Lib.hid (HB3.out.grown hg HB3.out.size (fun _ h => by cases h)); clear HB3
    have XP0 := Lib.hid (XP0.out.grown hg)
    have XP1 := Lib.hid (XP1.out.grown hg)
    have XP2 := Lib.hid (XP2.out.grown hg)
    clear hg
    try clear cP0_0
    have cP0_0 : World.cell? (w2) ⟨w.heap.size, 0, none⟩ = some (.int .i64 aX_W) := XP0.out.cell 0
    try clear cP0_1
    have cP0_1 : World.cell? (w2) ⟨w.heap.size, 1, none⟩ = some (.int .i64 aX_H) := XP0.out.cell 1
    try clear cP0_2
    have cP0_2 : World.cell? (w2) ⟨w.heap.size, 2, none⟩ = some (.slice aX_Cells_a aX_Cells_L.length aX_Cells_cap) := XP0.out.cell 2
    try clear cP1_0
    have cP1_0 : World.cell? (w2) ⟨w.heap.size + 1, 0, none⟩ = some (.int .i64 aR_Most) := XP1.out.cell 0
    try clear cP1_1
    have cP1_1 : World.cell? (w2) ⟨w.heap.size + 1, 1, none⟩ = some (.int .i64 aR_Window) := XP1.out.cell 1
    try clear cP2_0
    have cP2_0 : World.cell? (w2) ⟨w.heap.size + 1 + 1, 0, none⟩ = some (.int .i64 aP_At) := XP2.out.cell 0
    try clear cP2_1
    have cP2_1 : World.cell? (w2) ⟨w.heap.size + 1 + 1, 1, none⟩ = some (.int .i64 aP_Food) := XP2.out.cell 1
    try clear cP2_2
    have cP2_2 : World.cell? (w2) ⟨w.heap.size + 1 + 1, 2, none⟩ = some (.slice aP_Crew_a aP_Crew_L.length aP_Crew_cap) := XP2.out.cell 2
    try clear cP2_3
    have cP2_3 : World.cell? (w2) ⟨w.heap.size + 1 + 1, 3, none⟩ = some (.slice aP_Past_a aP_Past_L.length aP_Past_cap) := XP2.out.cell 3
    go_wp2
    go_ret
    exact ⟨rfl, HB4.out⟩
  by_cases aL_l : (aL_L.length : Int) ≤ ((1048576 : Int) - ((aX_Cells_L.length : Int)))
  rotate_left
  ·
    have HB0 : Hid (Below w.heap.size w w) := Below.refl _ _
    have hgb := World.grownBy_alloc w (.cells #[.int .i64 aX_W, .int .i64 aX_H, .slice aX_Cells_a aX_Cells_L.length aX_Cells_cap] 24 (0, 0)) none
    have HB1 := Lib.hid (HB0.out.grown hgb HB0.out.size (fun _ h => by cases h)); clear HB0
    have XP0 := Lib.hid (box_new w #[.int .i64 aX_W, .int .i64 aX_H, .slice aX_Cells_a aX_Cells_L.length aX_Cells_cap] 24); clear hgb
    have hgb := World.grownBy_alloc (w.alloc (.cells #[.int .i64 aX_W, .int .i64 aX_H, .slice aX_Cells_a aX_Cells_L.length aX_Cells_cap] 24 (0, 0))) (.cells #[.int .i64 aR_Most, .int .i64 aR_Window] 26 (0, 0)) none
    have HB2 := Lib.hid (HB1.out.grown hgb HB1.out.size (fun _ h => by cases h)); clear HB1
    have XP0 := Lib.hid (XP0.out.grown hgb)
    have XP1 := Lib.hid (box_new (w.alloc (.cells #[.int .i64 aX_W, .int .i64 aX_H, .slice aX_Cells_a aX_Cells_L.length aX_Cells_cap] 24 (0, 0))) #[.int .i64 aR_Most, .int .i64 aR_Window] 26); clear hgb
    simp only [World.size_alloc] at XP1
    have hgb := World.grownBy_alloc ((w.alloc (.cells #[.int .i64 aX_W, .int .i64 aX_H, .slice aX_Cells_a aX_Cells_L.length aX_Cells_cap] 24 (0, 0))).alloc (.cells #[.int .i64 aR_Most, .int .i64 aR_Window] 26 (0, 0))) (.cells #[.int .i64 aP_At, .int .i64 aP_Food, .slice aP_Crew_a aP_Crew_L.length aP_Crew_cap, .slice aP_Past_a aP_Past_L.length aP_Past_cap] 31 (0, 0)) none
    have HB3 := Lib.hid (HB2.out.grown hgb HB2.out.size (fun _ h => by cases h)); clear HB2
    have XP0 := Lib.hid (XP0.out.grown hgb)
    have XP1 := Lib.hid (XP1.out.grown hgb)
    have XP2 := Lib.hid (box_new ((w.alloc (.cells #[.int .i64 aX_W, .int .i64 aX_H, .slice aX_Cells_a aX_Cells_L.length aX_Cells_cap] 24 (0, 0))).alloc (.cells #[.int .i64 aR_Most, .int .i64 aR_Window] 26 (0, 0))) #[.int .i64 aP_At, .int .i64 aP_Food, .slice aP_Crew_a aP_Crew_L.length aP_Crew_cap, .slice aP_Past_a aP_Past_L.length aP_Past_cap] 31); clear hgb
    simp only [World.size_alloc] at XP2
    go_enter Tryz.func5, Tryz.ntmps5
    try clear cP0_0
    have cP0_0 : World.cell? (((w.alloc (.cells #[.int .i64 aX_W, .int .i64 aX_H, .slice aX_Cells_a aX_Cells_L.length aX_Cells_cap] 24 (0, 0))).alloc (.cells #[.int .i64 aR_Most, .int .i64 aR_Window] 26 (0, 0))).alloc (.cells #[.int .i64 aP_At, .int .i64 aP_Food, .slice aP_Crew_a aP_Crew_L.length aP_Crew_cap, .slice aP_Past_a aP_Past_L.length aP_Past_cap] 31 (0, 0))) ⟨w.heap.size, 0, none⟩ = some (.int .i64 aX_W) := XP0.out.cell 0
    try clear cP0_1
    have cP0_1 : World.cell? (((w.alloc (.cells #[.int .i64 aX_W, .int .i64 aX_H, .slice aX_Cells_a aX_Cells_L.length aX_Cells_cap] 24 (0, 0))).alloc (.cells #[.int .i64 aR_Most, .int .i64 aR_Window] 26 (0, 0))).alloc (.cells #[.int .i64 aP_At, .int .i64 aP_Food, .slice aP_Crew_a aP_Crew_L.length aP_Crew_cap, .slice aP_Past_a aP_Past_L.length aP_Past_cap] 31 (0, 0))) ⟨w.heap.size, 1, none⟩ = some (.int .i64 aX_H) := XP0.out.cell 1
    try clear cP0_2
    have cP0_2 : World.cell? (((w.alloc (.cells #[.int .i64 aX_W, .int .i64 aX_H, .slice aX_Cells_a aX_Cells_L.length aX_Cells_cap] 24 (0, 0))).alloc (.cells #[.int .i64 aR_Most, .int .i64 aR_Window] 26 (0, 0))).alloc (.cells #[.int .i64 aP_At, .int .i64 aP_Food, .slice aP_Crew_a aP_Crew_L.length aP_Crew_cap, .slice aP_Past_a aP_Past_L.length aP_Past_cap] 31 (0, 0))) ⟨w.heap.size, 2, none⟩ = some (.slice aX_Cells_a aX_Cells_L.length aX_Cells_cap) := XP0.out.cell 2
    try clear cP1_0
    have cP1_0 : World.cell? (((w.alloc (.cells #[.int .i64 aX_W, .int .i64 aX_H, .slice aX_Cells_a aX_Cells_L.length aX_Cells_cap] 24 (0, 0))).alloc (.cells #[.int .i64 aR_Most, .int .i64 aR_Window] 26 (0, 0))).alloc (.cells #[.int .i64 aP_At, .int .i64 aP_Food, .slice aP_Crew_a aP_Crew_L.length aP_Crew_cap, .slice aP_Past_a aP_Past_L.length aP_Past_cap] 31 (0, 0))) ⟨w.heap.size + 1, 0, none⟩ = some (.int .i64 aR_Most) := XP1.out.cell 0
    try clear cP1_1
    have cP1_1 : World.cell? (((w.alloc (.cells #[.int .i64 aX_W, .int .i64 aX_H, .slice aX_Cells_a aX_Cells_L.length aX_Cells_cap] 24 (0, 0))).alloc (.cells #[.int .i64 aR_Most, .int .i64 aR_Window] 26 (0, 0))).alloc (.cells #[.int .i64 aP_At, .int .i64 aP_Food, .slice aP_Crew_a aP_Crew_L.length aP_Crew_cap, .slice aP_Past_a aP_Past_L.length aP_Past_cap] 31 (0, 0))) ⟨w.heap.size + 1, 1, none⟩ = some (.int .i64 aR_Window) := XP1.out.cell 1
    try clear cP2_0
    have cP2_0 : World.cell? (((w.alloc (.cells #[.int .i64 aX_W, .int .i64 aX_H, .slice aX_Cells_a aX_Cells_L.length aX_Cells_cap] 24 (0, 0))).alloc (.cells #[.int .i64 aR_Most, .int .i64 aR_Window] 26 (0, 0))).alloc (.cells #[.int .i64 aP_At, .int .i64 aP_Food, .slice aP_Crew_a aP_Crew_L.length aP_Crew_cap, .slice aP_Past_a aP_Past_L.length aP_Past_cap] 31 (0, 0))) ⟨w.heap.size + 1 + 1, 0, none⟩ = some (.int .i64 aP_At) := XP2.out.cell 0
    try clear cP2_1
    have cP2_1 : World.cell? (((w.alloc (.cells #[.int .i64 aX_W, .int .i64 aX_H, .slice aX_Cells_a aX_Cells_L.length aX_Cells_cap] 24 (0, 0))).alloc (.cells #[.int .i64 aR_Most, .int .i64 aR_Window] 26 (0, 0))).alloc (.cells #[.int .i64 aP_At, .int .i64 aP_Food, .slice aP_Crew_a aP_Crew_L.length aP_Crew_cap, .slice aP_Past_a aP_Past_L.length aP_Past_cap] 31 (0, 0))) ⟨w.heap.size + 1 + 1, 1, none⟩ = some (.int .i64 aP_Food) := XP2.out.cell 1
    try clear cP2_2
    have cP2_2 : World.cell? (((w.alloc (.cells #[.int .i64 aX_W, .int .i64 aX_H, .slice aX_Cells_a aX_Cells_L.length aX_Cells_cap] 24 (0, 0))).alloc (.cells #[.int .i64 aR_Most, .int .i64 aR_Window] 26 (0, 0))).alloc (.cells #[.int .i64 aP_At, .int .i64 aP_Food, .slice aP_Crew_a aP_Crew_L.length aP_Crew_cap, .slice aP_Past_a aP_Past_L.length aP_Past_cap] 31 (0, 0))) ⟨w.heap.size + 1 + 1, 2, none⟩ = some (.slice aP_Crew_a aP_Crew_L.length aP_Crew_cap) := XP2.out.cell 2
    try clear cP2_3
    have cP2_3 : World.cell? (((w.alloc (.cells #[.int .i64 aX_W, .int .i64 aX_H, .slice aX_Cells_a aX_Cells_L.length aX_Cells_cap] 24 (0, 0))).alloc (.cells #[.int .i64 aR_Most, .int .i64 aR_Window] 26 (0, 0))).alloc (.cells #[.int .i64 aP_At, .int .i64 aP_Food, .slice aP_Crew_a aP_Crew_L.length aP_Crew_cap, .slice aP_Past_a aP_Past_L.length aP_Past_cap] 31 (0, 0))) ⟨w.heap.size + 1 + 1, 3, none⟩ = some (.slice aP_Past_a aP_Past_L.length aP_Past_cap) := XP2.out.cell 3
    go_wp2_with fail
    generalize ((w.alloc (.cells #[.int .i64 aX_W, .int .i64 aX_H, .slice aX_Cells_a aX_Cells_L.length aX_Cells_cap] 24 (0, 0))).alloc (.cells #[.int .i64 aR_Most, .int .i64 aR_Window] 26 (0, 0))).alloc (.cells #[.int .i64 aP_At, .int .i64 aP_Food, .slice aP_Crew_a aP_Crew_L.length aP_Crew_cap, .slice aP_Past_a aP_Past_L.length aP_Past_cap] 31 (0, 0)) = w1 at *
    refine (LandL.szLand_yes w1 aX_W aX_H _ _ (1048576 : Int) (aX_Cells_S.out.below HB3.out) (by omega) (by omega) (by omega)).mono ?_
    rintro e w2 ⟨rfl, hg⟩
    have HB4 := Lib.hid (HB3.out.grown hg HB3.out.size (fun _ h => by cases h)); clear HB3
    have XP0 := Lib.hid (XP0.out.grown hg)
    have XP1 := Lib.hid (XP1.out.grown hg)
    have XP2 := Lib.hid (XP2.out.grown hg)
    clear hg
    try clear cP0_0
    have cP0_0 : World.cell? (w2) ⟨w.heap.size, 0, none⟩ = some (.int .i64 aX_W) := XP0.out.cell 0
    try clear cP0_1
    have cP0_1 : World.cell? (w2) ⟨w.heap.size, 1, none⟩ = some (.int .i64 aX_H) := XP0.out.cell 1
    try clear cP0_2
    have cP0_2 : World.cell? (w2) ⟨w.heap.size, 2, none⟩ = some (.slice aX_Cells_a aX_Cells_L.length aX_Cells_cap) := XP0.out.cell 2
    try clear cP1_0
    have cP1_0 : World.cell? (w2) ⟨w.heap.size + 1, 0, none⟩ = some (.int .i64 aR_Most) := XP1.out.cell 0
    try clear cP1_1
    have cP1_1 : World.cell? (w2) ⟨w.heap.size + 1, 1, none⟩ = some (.int .i64 aR_Window) := XP1.out.cell 1
    try clear cP2_0
    have cP2_0 : World.cell? (w2) ⟨w.heap.size + 1 + 1, 0, none⟩ = some (.int .i64 aP_At) := XP2.out.cell 0
    try clear cP2_1
    have cP2_1 : World.cell? (w2) ⟨w.heap.size + 1 + 1, 1, none⟩ = some (.int .i64 aP_Food) := XP2.out.cell 1
    try clear cP2_2
    have cP2_2 : World.cell? (w2) ⟨w.heap.size + 1 + 1, 2, none⟩ = some (.slice aP_Crew_a aP_Crew_L.length aP_Crew_cap) := XP2.out.cell 2
    try clear cP2_3
    have cP2_3 : World.cell? (w2) ⟨w.heap.size + 1 + 1, 3, none⟩ = some (.slice aP_Past_a aP_Past_L.length aP_Past_cap) := XP2.out.cell 3
    go_wp2_with fail
    refine (LawsP.szP_no w2 _ _ ((1048576 : Int) - ((aX_Cells_L.length : Int))) (aL_S.out.below HB4.out) (by omega) (by omega) (by omega)).mono ?_
    rintro e w3 ⟨rfl, hg⟩
    have HB5 := Lib.hid (HB4.out.grown hg HB4.out.size (fun _ h => by cases h)); clear HB4
    have XP0 := Lib.hid (XP0.out.grown hg)
    have XP1 := Lib.hid (XP1.out.grown hg)
    have XP2 := Lib.hid (XP2.out.grown hg)
    clear hg
    try clear cP0_0
    have cP0_0 : World.cell? (w3) ⟨w.heap.size, 0, none⟩ = some (.int .i64 aX_W) := XP0.out.cell 0
    try clear cP0_1
    have cP0_1 : World.cell? (w3) ⟨w.heap.size, 1, none⟩ = some (.int .i64 aX_H) := XP0.out.cell 1
    try clear cP0_2
    have cP0_2 : World.cell? (w3) ⟨w.heap.size, 2, none⟩ = some (.slice aX_Cells_a aX_Cells_L.length aX_Cells_cap) := XP0.out.cell 2
    try clear cP1_0
    have cP1_0 : World.cell? (w3) ⟨w.heap.size + 1, 0, none⟩ = some (.int .i64 aR_Most) := XP1.out.cell 0
    try clear cP1_1
    have cP1_1 : World.cell? (w3) ⟨w.heap.size + 1, 1, none⟩ = some (.int .i64 aR_Window) := XP1.out.cell 1
    try clear cP2_0
    have cP2_0 : World.cell? (w3) ⟨w.heap.size + 1 + 1, 0, none⟩ = some (.int .i64 aP_At) := XP2.out.cell 0
    try clear cP2_1
    have cP2_1 : World.cell? (w3) ⟨w.heap.size + 1 + 1, 1, none⟩ = some (.int .i64 aP_Food) := XP2.out.cell 1
    try clear cP2_2
    have cP2_2 : World.cell? (w3) ⟨w.heap.size + 1 + 1, 2, none⟩ = some (.slice aP_Crew_a aP_Crew_L.length aP_Crew_cap) := XP2.out.cell 2
    try clear cP2_3
    have cP2_3 : World.cell? (w3) ⟨w.heap.size + 1 + 1, 3, none⟩ = some (.slice aP_Past_a aP_Past_L.length aP_Past_cap) := XP2.out.cell 3
    go_wp2
    go_ret
    exact ⟨rfl, HB5.out⟩
  by_cases aP_l : (aP_Crew_L.length : Int) + (aP_Past_L.length : Int) ≤ (((1048576 : Int) - ((aX_Cells_L.length : Int))) - ((aL_L.length : Int)))
  rotate_left
  ·
    have HB0 : Hid (Below w.heap.size w w) := Below.refl _ _
    have hgb := World.grownBy_alloc w (.cells #[.int .i64 aX_W, .int .i64 aX_H, .slice aX_Cells_a aX_Cells_L.length aX_Cells_cap] 24 (0, 0)) none
    have HB1 := Lib.hid (HB0.out.grown hgb HB0.out.size (fun _ h => by cases h)); clear HB0
    have XP0 := Lib.hid (box_new w #[.int .i64 aX_W, .int .i64 aX_H, .slice aX_Cells_a aX_Cells_L.length aX_Cells_cap] 24); clear hgb
    have hgb := World.grownBy_alloc (w.alloc (.cells #[.int .i64 aX_W, .int .i64 aX_H, .slice aX_Cells_a aX_Cells_L.length aX_Cells_cap] 24 (0, 0))) (.cells #[.int .i64 aR_Most, .int .i64 aR_Window] 26 (0, 0)) none
    have HB2 := Lib.hid (HB1.out.grown hgb HB1.out.size (fun _ h => by cases h)); clear HB1
    have XP0 := Lib.hid (XP0.out.grown hgb)
    have XP1 := Lib.hid (box_new (w.alloc (.cells #[.int .i64 aX_W, .int .i64 aX_H, .slice aX_Cells_a aX_Cells_L.length aX_Cells_cap] 24 (0, 0))) #[.int .i64 aR_Most, .int .i64 aR_Window] 26); clear hgb
    simp only [World.size_alloc] at XP1
    have hgb := World.grownBy_alloc ((w.alloc (.cells #[.int .i64 aX_W, .int .i64 aX_H, .slice aX_Cells_a aX_Cells_L.length aX_Cells_cap] 24 (0, 0))).alloc (.cells #[.int .i64 aR_Most, .int .i64 aR_Window] 26 (0, 0))) (.cells #[.int .i64 aP_At, .int .i64 aP_Food, .slice aP_Crew_a aP_Crew_L.length aP_Crew_cap, .slice aP_Past_a aP_Past_L.length aP_Past_cap] 31 (0, 0)) none
    have HB3 := Lib.hid (HB2.out.grown hgb HB2.out.size (fun _ h => by cases h)); clear HB2
    have XP0 := Lib.hid (XP0.out.grown hgb)
    have XP1 := Lib.hid (XP1.out.grown hgb)
    have XP2 := Lib.hid (box_new ((w.alloc (.cells #[.int .i64 aX_W, .int .i64 aX_H, .slice aX_Cells_a aX_Cells_L.length aX_Cells_cap] 24 (0, 0))).alloc (.cells #[.int .i64 aR_Most, .int .i64 aR_Window] 26 (0, 0))) #[.int .i64 aP_At, .int .i64 aP_Food, .slice aP_Crew_a aP_Crew_L.length aP_Crew_cap, .slice aP_Past_a aP_Past_L.length aP_Past_cap] 31); clear hgb
    simp only [World.size_alloc] at XP2
    go_enter Tryz.func5, Tryz.ntmps5
    try clear cP0_0
    have cP0_0 : World.cell? (((w.alloc (.cells #[.int .i64 aX_W, .int .i64 aX_H, .slice aX_Cells_a aX_Cells_L.length aX_Cells_cap] 24 (0, 0))).alloc (.cells #[.int .i64 aR_Most, .int .i64 aR_Window] 26 (0, 0))).alloc (.cells #[.int .i64 aP_At, .int .i64 aP_Food, .slice aP_Crew_a aP_Crew_L.length aP_Crew_cap, .slice aP_Past_a aP_Past_L.length aP_Past_cap] 31 (0, 0))) ⟨w.heap.size, 0, none⟩ = some (.int .i64 aX_W) := XP0.out.cell 0
    try clear cP0_1
    have cP0_1 : World.cell? (((w.alloc (.cells #[.int .i64 aX_W, .int .i64 aX_H, .slice aX_Cells_a aX_Cells_L.length aX_Cells_cap] 24 (0, 0))).alloc (.cells #[.int .i64 aR_Most, .int .i64 aR_Window] 26 (0, 0))).alloc (.cells #[.int .i64 aP_At, .int .i64 aP_Food, .slice aP_Crew_a aP_Crew_L.length aP_Crew_cap, .slice aP_Past_a aP_Past_L.length aP_Past_cap] 31 (0, 0))) ⟨w.heap.size, 1, none⟩ = some (.int .i64 aX_H) := XP0.out.cell 1
    try clear cP0_2
    have cP0_2 : World.cell? (((w.alloc (.cells #[.int .i64 aX_W, .int .i64 aX_H, .slice aX_Cells_a aX_Cells_L.length aX_Cells_cap] 24 (0, 0))).alloc (.cells #[.int .i64 aR_Most, .int .i64 aR_Window] 26 (0, 0))).alloc (.cells #[.int .i64 aP_At, .int .i64 aP_Food, .slice aP_Crew_a aP_Crew_L.length aP_Crew_cap, .slice aP_Past_a aP_Past_L.length aP_Past_cap] 31 (0, 0))) ⟨w.heap.size, 2, none⟩ = some (.slice aX_Cells_a aX_Cells_L.length aX_Cells_cap) := XP0.out.cell 2
    try clear cP1_0
    have cP1_0 : World.cell? (((w.alloc (.cells #[.int .i64 aX_W, .int .i64 aX_H, .slice aX_Cells_a aX_Cells_L.length aX_Cells_cap] 24 (0, 0))).alloc (.cells #[.int .i64 aR_Most, .int .i64 aR_Window] 26 (0, 0))).alloc (.cells #[.int .i64 aP_At, .int .i64 aP_Food, .slice aP_Crew_a aP_Crew_L.length aP_Crew_cap, .slice aP_Past_a aP_Past_L.length aP_Past_cap] 31 (0, 0))) ⟨w.heap.size + 1, 0, none⟩ = some (.int .i64 aR_Most) := XP1.out.cell 0
    try clear cP1_1
    have cP1_1 : World.cell? (((w.alloc (.cells #[.int .i64 aX_W, .int .i64 aX_H, .slice aX_Cells_a aX_Cells_L.length aX_Cells_cap] 24 (0, 0))).alloc (.cells #[.int .i64 aR_Most, .int .i64 aR_Window] 26 (0, 0))).alloc (.cells #[.int .i64 aP_At, .int .i64 aP_Food, .slice aP_Crew_a aP_Crew_L.length aP_Crew_cap, .slice aP_Past_a aP_Past_L.length aP_Past_cap] 31 (0, 0))) ⟨w.heap.size + 1, 1, none⟩ = some (.int .i64 aR_Window) := XP1.out.cell 1
    try clear cP2_0
    have cP2_0 : World.cell? (((w.alloc (.cells #[.int .i64 aX_W, .int .i64 aX_H, .slice aX_Cells_a aX_Cells_L.length aX_Cells_cap] 24 (0, 0))).alloc (.cells #[.int .i64 aR_Most, .int .i64 aR_Window] 26 (0, 0))).alloc (.cells #[.int .i64 aP_At, .int .i64 aP_Food, .slice aP_Crew_a aP_Crew_L.length aP_Crew_cap, .slice aP_Past_a aP_Past_L.length aP_Past_cap] 31 (0, 0))) ⟨w.heap.size + 1 + 1, 0, none⟩ = some (.int .i64 aP_At) := XP2.out.cell 0
    try clear cP2_1
    have cP2_1 : World.cell? (((w.alloc (.cells #[.int .i64 aX_W, .int .i64 aX_H, .slice aX_Cells_a aX_Cells_L.length aX_Cells_cap] 24 (0, 0))).alloc (.cells #[.int .i64 aR_Most, .int .i64 aR_Window] 26 (0, 0))).alloc (.cells #[.int .i64 aP_At, .int .i64 aP_Food, .slice aP_Crew_a aP_Crew_L.length aP_Crew_cap, .slice aP_Past_a aP_Past_L.length aP_Past_cap] 31 (0, 0))) ⟨w.heap.size + 1 + 1, 1, none⟩ = some (.int .i64 aP_Food) := XP2.out.cell 1
    try clear cP2_2
    have cP2_2 : World.cell? (((w.alloc (.cells #[.int .i64 aX_W, .int .i64 aX_H, .slice aX_Cells_a aX_Cells_L.length aX_Cells_cap] 24 (0, 0))).alloc (.cells #[.int .i64 aR_Most, .int .i64 aR_Window] 26 (0, 0))).alloc (.cells #[.int .i64 aP_At, .int .i64 aP_Food, .slice aP_Crew_a aP_Crew_L.length aP_Crew_cap, .slice aP_Past_a aP_Past_L.length aP_Past_cap] 31 (0, 0))) ⟨w.heap.size + 1 + 1, 2, none⟩ = some (.slice aP_Crew_a aP_Crew_L.length aP_Crew_cap) := XP2.out.cell 2
    try clear cP2_3
    have cP2_3 : World.cell? (((w.alloc (.cells #[.int .i64 aX_W, .int .i64 aX_H, .slice aX_Cells_a aX_Cells_L.length aX_Cells_cap] 24 (0, 0))).alloc (.cells #[.int .i64 aR_Most, .int .i64 aR_Window] 26 (0, 0))).alloc (.cells #[.int .i64 aP_At, .int .i64 aP_Food, .slice aP_Crew_a aP_Crew_L.length aP_Crew_cap, .slice aP_Past_a aP_Past_L.length aP_Past_cap] 31 (0, 0))) ⟨w.heap.size + 1 + 1, 3, none⟩ = some (.slice aP_Past_a aP_Past_L.length aP_Past_cap) := XP2.out.cell 3
    go_wp2_with fail
    generalize ((w.alloc (.cells #[.int .i64 aX_W, .int .i64 aX_H, .slice aX_Cells_a aX_Cells_L.length aX_Cells_cap] 24 (0, 0))).alloc (.cells #[.int .i64 aR_Most, .int .i64 aR_Window] 26 (0, 0))).alloc (.cells #[.int .i64 aP_At, .int .i64 aP_Food, .slice aP_Crew_a aP_Crew_L.length aP_Crew_cap, .slice aP_Past_a aP_Past_L.length aP_Past_cap] 31 (0, 0)) = w1 at *
    refine (LandL.szLand_yes w1 aX_W aX_H _ _ (1048576 : Int) (aX_Cells_S.out.below HB3.out) (by omega) (by omega) (by omega)).mono ?_
    rintro e w2 ⟨rfl, hg⟩
    have HB4 := Lib.hid (HB3.out.grown hg HB3.out.size (fun _ h => by cases h)); clear HB3
    have XP0 := Lib.hid (XP0.out.grown hg)
    have XP1 := Lib.hid (XP1.out.grown hg)
    have XP2 := Lib.hid (XP2.out.grown hg)
    clear hg
    try clear cP0_0
    have cP0_0 : World.cell? (w2) ⟨w.heap.size, 0, none⟩ = some (.int .i64 aX_W) := XP0.out.cell 0
    try clear cP0_1
    have cP0_1 : World.cell? (w2) ⟨w.heap.size, 1, none⟩ = some (.int .i64 aX_H) := XP0.out.cell 1
    try clear cP0_2
    have cP0_2 : World.cell? (w2) ⟨w.heap.size, 2, none⟩ = some (.slice aX_Cells_a aX_Cells_L.length aX_Cells_cap) := XP0.out.cell 2
    try clear cP1_0
    have cP1_0 : World.cell? (w2) ⟨w.heap.size + 1, 0, none⟩ = some (.int .i64 aR_Most) := XP1.out.cell 0
    try clear cP1_1
    have cP1_1 : World.cell? (w2) ⟨w.heap.size + 1, 1, none⟩ = some (.int .i64 aR_Window) := XP1.out.cell 1
    try clear cP2_0
    have cP2_0 : World.cell? (w2) ⟨w.heap.size + 1 + 1, 0, none⟩ = some (.int .i64 aP_At) := XP2.out.cell 0
    try clear cP2_1
    have cP2_1 : World.cell? (w2) ⟨w.heap.size + 1 + 1, 1, none⟩ = some (.int .i64 aP_Food) := XP2.out.cell 1
    try clear cP2_2
    have cP2_2 : World.cell? (w2) ⟨w.heap.size + 1 + 1, 2, none⟩ = some (.slice aP_Crew_a aP_Crew_L.length aP_Crew_cap) := XP2.out.cell 2
    try clear cP2_3
    have cP2_3 : World.cell? (w2) ⟨w.heap.size + 1 + 1, 3, none⟩ = some (.slice aP_Past_a aP_Past_L.length aP_Past_cap) := XP2.out.cell 3
    go_wp2_with fail
    refine (LawsP.szP_yes w2 _ _ ((1048576 : Int) - ((aX_Cells_L.length : Int))) (aL_S.out.below HB4.out) (by omega) (by omega) (by omega)).mono ?_
    rintro e w3 ⟨rfl, hg⟩
    have HB5 := Lib.hid (HB4.out.grown hg HB4.out.size (fun _ h => by cases h)); clear HB4
    have XP0 := Lib.hid (XP0.out.grown hg)
    have XP1 := Lib.hid (XP1.out.grown hg)
    have XP2 := Lib.hid (XP2.out.grown hg)
    clear hg
    try clear cP0_0
    have cP0_0 : World.cell? (w3) ⟨w.heap.size, 0, none⟩ = some (.int .i64 aX_W) := XP0.out.cell 0
    try clear cP0_1
    have cP0_1 : World.cell? (w3) ⟨w.heap.size, 1, none⟩ = some (.int .i64 aX_H) := XP0.out.cell 1
    try clear cP0_2
    have cP0_2 : World.cell? (w3) ⟨w.heap.size, 2, none⟩ = some (.slice aX_Cells_a aX_Cells_L.length aX_Cells_cap) := XP0.out.cell 2
    try clear cP1_0
    have cP1_0 : World.cell? (w3) ⟨w.heap.size + 1, 0, none⟩ = some (.int .i64 aR_Most) := XP1.out.cell 0
    try clear cP1_1
    have cP1_1 : World.cell? (w3) ⟨w.heap.size + 1, 1, none⟩ = some (.int .i64 aR_Window) := XP1.out.cell 1
    try clear cP2_0
    have cP2_0 : World.cell? (w3) ⟨w.heap.size + 1 + 1, 0, none⟩ = some (.int .i64 aP_At) := XP2.out.cell 0
    try clear cP2_1
    have cP2_1 : World.cell? (w3) ⟨w.heap.size + 1 + 1, 1, none⟩ = some (.int .i64 aP_Food) := XP2.out.cell 1
    try clear cP2_2
    have cP2_2 : World.cell? (w3) ⟨w.heap.size + 1 + 1, 2, none⟩ = some (.slice aP_Crew_a aP_Crew_L.length aP_Crew_cap) := XP2.out.cell 2
    try clear cP2_3
    have cP2_3 : World.cell? (w3) ⟨w.heap.size + 1 + 1, 3, none⟩ = some (.slice aP_Past_a aP_Past_L.length aP_Past_cap) := XP2.out.cell 3
    go_wp2_with fail
    refine (PartyL.szParty_no w3 aP_At aP_Food _ _ _ _ (((1048576 : Int) - ((aX_Cells_L.length : Int))) - ((aL_L.length : Int))) (aP_Crew_S.out.below HB5.out) (aP_Past_S.out.below HB5.out) (by omega) (by omega) (by omega)).mono ?_
    rintro e w4 ⟨rfl, hg⟩
    have HB6 := Lib.hid (HB5.out.grown hg HB5.out.size (fun _ h => by cases h)); clear HB5
    have XP0 := Lib.hid (XP0.out.grown hg)
    have XP1 := Lib.hid (XP1.out.grown hg)
    have XP2 := Lib.hid (XP2.out.grown hg)
    clear hg
    try clear cP0_0
    have cP0_0 : World.cell? (w4) ⟨w.heap.size, 0, none⟩ = some (.int .i64 aX_W) := XP0.out.cell 0
    try clear cP0_1
    have cP0_1 : World.cell? (w4) ⟨w.heap.size, 1, none⟩ = some (.int .i64 aX_H) := XP0.out.cell 1
    try clear cP0_2
    have cP0_2 : World.cell? (w4) ⟨w.heap.size, 2, none⟩ = some (.slice aX_Cells_a aX_Cells_L.length aX_Cells_cap) := XP0.out.cell 2
    try clear cP1_0
    have cP1_0 : World.cell? (w4) ⟨w.heap.size + 1, 0, none⟩ = some (.int .i64 aR_Most) := XP1.out.cell 0
    try clear cP1_1
    have cP1_1 : World.cell? (w4) ⟨w.heap.size + 1, 1, none⟩ = some (.int .i64 aR_Window) := XP1.out.cell 1
    try clear cP2_0
    have cP2_0 : World.cell? (w4) ⟨w.heap.size + 1 + 1, 0, none⟩ = some (.int .i64 aP_At) := XP2.out.cell 0
    try clear cP2_1
    have cP2_1 : World.cell? (w4) ⟨w.heap.size + 1 + 1, 1, none⟩ = some (.int .i64 aP_Food) := XP2.out.cell 1
    try clear cP2_2
    have cP2_2 : World.cell? (w4) ⟨w.heap.size + 1 + 1, 2, none⟩ = some (.slice aP_Crew_a aP_Crew_L.length aP_Crew_cap) := XP2.out.cell 2
    try clear cP2_3
    have cP2_3 : World.cell? (w4) ⟨w.heap.size + 1 + 1, 3, none⟩ = some (.slice aP_Past_a aP_Past_L.length aP_Past_cap) := XP2.out.cell 3
    go_wp2
    go_ret
    exact ⟨rfl, HB6.out⟩
  have HB0 : Hid (Below w.heap.size w w) := Below.refl _ _
  have hgb := World.grownBy_alloc w (.cells #[.int .i64 aX_W, .int .i64 aX_H, .slice aX_Cells_a aX_Cells_L.length aX_Cells_cap] 24 (0, 0)) none
  have HB1 := Lib.hid (HB0.out.grown hgb HB0.out.size (fun _ h => by cases h)); clear HB0
  have XP0 := Lib.hid (box_new w #[.int .i64 aX_W, .int .i64 aX_H, .slice aX_Cells_a aX_Cells_L.length aX_Cells_cap] 24); clear hgb
  have hgb := World.grownBy_alloc (w.alloc (.cells #[.int .i64 aX_W, .int .i64 aX_H, .slice aX_Cells_a aX_Cells_L.length aX_Cells_cap] 24 (0, 0))) (.cells #[.int .i64 aR_Most, .int .i64 aR_Window] 26 (0, 0)) none
  have HB2 := Lib.hid (HB1.out.grown hgb HB1.out.size (fun _ h => by cases h)); clear HB1
  have XP0 := Lib.hid (XP0.out.grown hgb)
  have XP1 := Lib.hid (box_new (w.alloc (.cells #[.int .i64 aX_W, .int .i64 aX_H, .slice aX_Cells_a aX_Cells_L.length aX_Cells_cap] 24 (0, 0))) #[.int .i64 aR_Most, .int .i64 aR_Window] 26); clear hgb
  simp only [World.size_alloc] at XP1
  have hgb := World.grownBy_alloc ((w.alloc (.cells #[.int .i64 aX_W, .int .i64 aX_H, .slice aX_Cells_a aX_Cells_L.length aX_Cells_cap] 24 (0, 0))).alloc (.cells #[.int .i64 aR_Most, .int .i64 aR_Window] 26 (0, 0))) (.cells #[.int .i64 aP_At, .int .i64 aP_Food, .slice aP_Crew_a aP_Crew_L.length aP_Crew_cap, .slice aP_Past_a aP_Past_L.length aP_Past_cap] 31 (0, 0)) none
  have HB3 := Lib.hid (HB2.out.grown hgb HB2.out.size (fun _ h => by cases h)); clear HB2
  have XP0 := Lib.hid (XP0.out.grown hgb)
  have XP1 := Lib.hid (XP1.out.grown hgb)
  have XP2 := Lib.hid (box_new ((w.alloc (.cells #[.int .i64 aX_W, .int .i64 aX_H, .slice aX_Cells_a aX_Cells_L.length aX_Cells_cap] 24 (0, 0))).alloc (.cells #[.int .i64 aR_Most, .int .i64 aR_Window] 26 (0, 0))) #[.int .i64 aP_At, .int .i64 aP_Food, .slice aP_Crew_a aP_Crew_L.length aP_Crew_cap, .slice aP_Past_a aP_Past_L.length aP_Past_cap] 31); clear hgb
  simp only [World.size_alloc] at XP2
  go_enter Tryz.func5, Tryz.ntmps5
  try clear cP0_0
  have cP0_0 : World.cell? (((w.alloc (.cells #[.int .i64 aX_W, .int .i64 aX_H, .slice aX_Cells_a aX_Cells_L.length aX_Cells_cap] 24 (0, 0))).alloc (.cells #[.int .i64 aR_Most, .int .i64 aR_Window] 26 (0, 0))).alloc (.cells #[.int .i64 aP_At, .int .i64 aP_Food, .slice aP_Crew_a aP_Crew_L.length aP_Crew_cap, .slice aP_Past_a aP_Past_L.length aP_Past_cap] 31 (0, 0))) ⟨w.heap.size, 0, none⟩ = some (.int .i64 aX_W) := XP0.out.cell 0
  try clear cP0_1
  have cP0_1 : World.cell? (((w.alloc (.cells #[.int .i64 aX_W, .int .i64 aX_H, .slice aX_Cells_a aX_Cells_L.length aX_Cells_cap] 24 (0, 0))).alloc (.cells #[.int .i64 aR_Most, .int .i64 aR_Window] 26 (0, 0))).alloc (.cells #[.int .i64 aP_At, .int .i64 aP_Food, .slice aP_Crew_a aP_Crew_L.length aP_Crew_cap, .slice aP_Past_a aP_Past_L.length aP_Past_cap] 31 (0, 0))) ⟨w.heap.size, 1, none⟩ = some (.int .i64 aX_H) := XP0.out.cell 1
  try clear cP0_2
  have cP0_2 : World.cell? (((w.alloc (.cells #[.int .i64 aX_W, .int .i64 aX_H, .slice aX_Cells_a aX_Cells_L.length aX_Cells_cap] 24 (0, 0))).alloc (.cells #[.int .i64 aR_Most, .int .i64 aR_Window] 26 (0, 0))).alloc (.cells #[.int .i64 aP_At, .int .i64 aP_Food, .slice aP_Crew_a aP_Crew_L.length aP_Crew_cap, .slice aP_Past_a aP_Past_L.length aP_Past_cap] 31 (0, 0))) ⟨w.heap.size, 2, none⟩ = some (.slice aX_Cells_a aX_Cells_L.length aX_Cells_cap) := XP0.out.cell 2
  try clear cP1_0
  have cP1_0 : World.cell? (((w.alloc (.cells #[.int .i64 aX_W, .int .i64 aX_H, .slice aX_Cells_a aX_Cells_L.length aX_Cells_cap] 24 (0, 0))).alloc (.cells #[.int .i64 aR_Most, .int .i64 aR_Window] 26 (0, 0))).alloc (.cells #[.int .i64 aP_At, .int .i64 aP_Food, .slice aP_Crew_a aP_Crew_L.length aP_Crew_cap, .slice aP_Past_a aP_Past_L.length aP_Past_cap] 31 (0, 0))) ⟨w.heap.size + 1, 0, none⟩ = some (.int .i64 aR_Most) := XP1.out.cell 0
  try clear cP1_1
  have cP1_1 : World.cell? (((w.alloc (.cells #[.int .i64 aX_W, .int .i64 aX_H, .slice aX_Cells_a aX_Cells_L.length aX_Cells_cap] 24 (0, 0))).alloc (.cells #[.int .i64 aR_Most, .int .i64 aR_Window] 26 (0, 0))).alloc (.cells #[.int .i64 aP_At, .int .i64 aP_Food, .slice aP_Crew_a aP_Crew_L.length aP_Crew_cap, .slice aP_Past_a aP_Past_L.length aP_Past_cap] 31 (0, 0))) ⟨w.heap.size + 1, 1, none⟩ = some (.int .i64 aR_Window) := XP1.out.cell 1
  try clear cP2_0
  have cP2_0 : World.cell? (((w.alloc (.cells #[.int .i64 aX_W, .int .i64 aX_H, .slice aX_Cells_a aX_Cells_L.length aX_Cells_cap] 24 (0, 0))).alloc (.cells #[.int .i64 aR_Most, .int .i64 aR_Window] 26 (0, 0))).alloc (.cells #[.int .i64 aP_At, .int .i64 aP_Food, .slice aP_Crew_a aP_Crew_L.length aP_Crew_cap, .slice aP_Past_a aP_Past_L.length aP_Past_cap] 31 (0, 0))) ⟨w.heap.size + 1 + 1, 0, none⟩ = some (.int .i64 aP_At) := XP2.out.cell 0
  try clear cP2_1
  have cP2_1 : World.cell? (((w.alloc (.cells #[.int .i64 aX_W, .int .i64 aX_H, .slice aX_Cells_a aX_Cells_L.length aX_Cells_cap] 24 (0, 0))).alloc (.cells #[.int .i64 aR_Most, .int .i64 aR_Window] 26 (0, 0))).alloc (.cells #[.int .i64 aP_At, .int .i64 aP_Food, .slice aP_Crew_a aP_Crew_L.length aP_Crew_cap, .slice aP_Past_a aP_Past_L.length aP_Past_cap] 31 (0, 0))) ⟨w.heap.size + 1 + 1, 1, none⟩ = some (.int .i64 aP_Food) := XP2.out.cell 1
  try clear cP2_2
  have cP2_2 : World.cell? (((w.alloc (.cells #[.int .i64 aX_W, .int .i64 aX_H, .slice aX_Cells_a aX_Cells_L.length aX_Cells_cap] 24 (0, 0))).alloc (.cells #[.int .i64 aR_Most, .int .i64 aR_Window] 26 (0, 0))).alloc (.cells #[.int .i64 aP_At, .int .i64 aP_Food, .slice aP_Crew_a aP_Crew_L.length aP_Crew_cap, .slice aP_Past_a aP_Past_L.length aP_Past_cap] 31 (0, 0))) ⟨w.heap.size + 1 + 1, 2, none⟩ = some (.slice aP_Crew_a aP_Crew_L.length aP_Crew_cap) := XP2.out.cell 2
  try clear cP2_3
  have cP2_3 : World.cell? (((w.alloc (.cells #[.int .i64 aX_W, .int .i64 aX_H, .slice aX_Cells_a aX_Cells_L.length aX_Cells_cap] 24 (0, 0))).alloc (.cells #[.int .i64 aR_Most, .int .i64 aR_Window] 26 (0, 0))).alloc (.cells #[.int .i64 aP_At, .int .i64 aP_Food, .slice aP_Crew_a aP_Crew_L.length aP_Crew_cap, .slice aP_Past_a aP_Past_L.length aP_Past_cap] 31 (0, 0))) ⟨w.heap.size + 1 + 1, 3, none⟩ = some (.slice aP_Past_a aP_Past_L.length aP_Past_cap) := XP2.out.cell 3
  go_wp2_with fail
  generalize ((w.alloc (.cells #[.int .i64 aX_W, .int .i64 aX_H, .slice aX_Cells_a aX_Cells_L.length aX_Cells_cap] 24 (0, 0))).alloc (.cells #[.int .i64 aR_Most, .int .i64 aR_Window] 26 (0, 0))).alloc (.cells #[.int .i64 aP_At, .int .i64 aP_Food, .slice aP_Crew_a aP_Crew_L.length aP_Crew_cap, .slice aP_Past_a aP_Past_L.length aP_Past_cap] 31 (0, 0)) = w1 at *
  refine (LandL.szLand_yes w1 aX_W aX_H _ _ (1048576 : Int) (aX_Cells_S.out.below HB3.out) (by omega) (by omega) (by omega)).mono ?_
  rintro e w2 ⟨rfl, hg⟩
  have HB4 := Lib.hid (HB3.out.grown hg HB3.out.size (fun _ h => by cases h)); clear HB3
  have XP0 := Lib.hid (XP0.out.grown hg)
  have XP1 := Lib.hid (XP1.out.grown hg)
  have XP2 := Lib.hid (XP2.out.grown hg)
  clear hg
  try clear cP0_0
  have cP0_0 : World.cell? (w2) ⟨w.heap.size, 0, none⟩ = some (.int .i64 aX_W) := XP0.out.cell 0
  try clear cP0_1
  have cP0_1 : World.cell? (w2) ⟨w.heap.size, 1, none⟩ = some (.int .i64 aX_H) := XP0.out.cell 1
  try clear cP0_2
  have cP0_2 : World.cell? (w2) ⟨w.heap.size, 2, none⟩ = some (.slice aX_Cells_a aX_Cells_L.length aX_Cells_cap) := XP0.out.cell 2
  try clear cP1_0
  have cP1_0 : World.cell? (w2) ⟨w.heap.size + 1, 0, none⟩ = some (.int .i64 aR_Most) := XP1.out.cell 0
  try clear cP1_1
  have cP1_1 : World.cell? (w2) ⟨w.heap.size + 1, 1, none⟩ = some (.int .i64 aR_Window) := XP1.out.cell 1
  try clear cP2_0
  have cP2_0 : World.cell? (w2) ⟨w.heap.size + 1 + 1, 0, none⟩ = some (.int .i64 aP_At) := XP2.out.cell 0
  try clear cP2_1
  have cP2_1 : World.cell? (w2) ⟨w.heap.size + 1 + 1, 1, none⟩ = some (.int .i64 aP_Food) := XP2.out.cell 1
  try clear cP2_2
  have cP2_2 : World.cell? (w2) ⟨w.heap.size + 1 + 1, 2, none⟩ = some (.slice aP_Crew_a aP_Crew_L.length aP_Crew_cap) := XP2.out.cell 2
  try clear cP2_3
  have cP2_3 : World.cell? (w2) ⟨w.heap.size + 1 + 1, 3, none⟩ = some (.slice aP_Past_a aP_Past_L.length aP_Past_cap) := XP2.out.cell 3
  go_wp2_with fail
  refine (LawsP.szP_yes w2 _ _ ((1048576 : Int) - ((aX_Cells_L.length : Int))) (aL_S.out.below HB4.out) (by omega) (by omega) (by omega)).mono ?_
  rintro e w3 ⟨rfl, hg⟩
  have HB5 := Lib.hid (HB4.out.grown hg HB4.out.size (fun _ h => by cases h)); clear HB4
  have XP0 := Lib.hid (XP0.out.grown hg)
  have XP1 := Lib.hid (XP1.out.grown hg)
  have XP2 := Lib.hid (XP2.out.grown hg)
  clear hg
  try clear cP0_0
  have cP0_0 : World.cell? (w3) ⟨w.heap.size, 0, none⟩ = some (.int .i64 aX_W) := XP0.out.cell 0
  try clear cP0_1
  have cP0_1 : World.cell? (w3) ⟨w.heap.size, 1, none⟩ = some (.int .i64 aX_H) := XP0.out.cell 1
  try clear cP0_2
  have cP0_2 : World.cell? (w3) ⟨w.heap.size, 2, none⟩ = some (.slice aX_Cells_a aX_Cells_L.length aX_Cells_cap) := XP0.out.cell 2
  try clear cP1_0
  have cP1_0 : World.cell? (w3) ⟨w.heap.size + 1, 0, none⟩ = some (.int .i64 aR_Most) := XP1.out.cell 0
  try clear cP1_1
  have cP1_1 : World.cell? (w3) ⟨w.heap.size + 1, 1, none⟩ = some (.int .i64 aR_Window) := XP1.out.cell 1
  try clear cP2_0
  have cP2_0 : World.cell? (w3) ⟨w.heap.size + 1 + 1, 0, none⟩ = some (.int .i64 aP_At) := XP2.out.cell 0
  try clear cP2_1
  have cP2_1 : World.cell? (w3) ⟨w.heap.size + 1 + 1, 1, none⟩ = some (.int .i64 aP_Food) := XP2.out.cell 1
  try clear cP2_2
  have cP2_2 : World.cell? (w3) ⟨w.heap.size + 1 + 1, 2, none⟩ = some (.slice aP_Crew_a aP_Crew_L.length aP_Crew_cap) := XP2.out.cell 2
  try clear cP2_3
  have cP2_3 : World.cell? (w3) ⟨w.heap.size + 1 + 1, 3, none⟩ = some (.slice aP_Past_a aP_Past_L.length aP_Past_cap) := XP2.out.cell 3
  go_wp2_with fail
  refine (PartyL.szParty_yes w3 aP_At aP_Food _ _ _ _ (((1048576 : Int) - ((aX_Cells_L.length : Int))) - ((aL_L.length : Int))) (aP_Crew_S.out.below HB5.out) (aP_Past_S.out.below HB5.out) (by omega) (by omega) (by omega)).mono ?_
  rintro e w4 ⟨rfl, hg⟩
  have HB6 := Lib.hid (HB5.out.grown hg HB5.out.size (fun _ h => by cases h)); clear HB5
  have XP0 := Lib.hid (XP0.out.grown hg)
  have XP1 := Lib.hid (XP1.out.grown hg)
  have XP2 := Lib.hid (XP2.out.grown hg)
  clear hg
  try clear cP0_0
  have cP0_0 : World.cell? (w4) ⟨w.heap.size, 0, none⟩ = some (.int .i64 aX_W) := XP0.out.cell 0
  try clear cP0_1
  have cP0_1 : World.cell? (w4) ⟨w.heap.size, 1, none⟩ = some (.int .i64 aX_H) := XP0.out.cell 1
  try clear cP0_2
  have cP0_2 : World.cell? (w4) ⟨w.heap.size, 2, none⟩ = some (.slice aX_Cells_a aX_Cells_L.length aX_Cells_cap) := XP0.out.cell 2
  try clear cP1_0
  have cP1_0 : World.cell? (w4) ⟨w.heap.size + 1, 0, none⟩ = some (.int .i64 aR_Most) := XP1.out.cell 0
  try clear cP1_1
  have cP1_1 : World.cell? (w4) ⟨w.heap.size + 1, 1, none⟩ = some (.int .i64 aR_Window) := XP1.out.cell 1
  try clear cP2_0
  have cP2_0 : World.cell? (w4) ⟨w.heap.size + 1 + 1, 0, none⟩ = some (.int .i64 aP_At) := XP2.out.cell 0
  try clear cP2_1
  have cP2_1 : World.cell? (w4) ⟨w.heap.size + 1 + 1, 1, none⟩ = some (.int .i64 aP_Food) := XP2.out.cell 1
  try clear cP2_2
  have cP2_2 : World.cell? (w4) ⟨w.heap.size + 1 + 1, 2, none⟩ = some (.slice aP_Crew_a aP_Crew_L.length aP_Crew_cap) := XP2.out.cell 2
  try clear cP2_3
  have cP2_3 : World.cell? (w4) ⟨w.heap.size + 1 + 1, 3, none⟩ = some (.slice aP_Past_a aP_Past_L.length aP_Past_cap) := XP2.out.cell 3
  go_wp2_with fail
  have hgd := grown_drew (World.grownBy.refl w4 none)
  have HB7 := Lib.hid (HB6.out.grown hgd HB6.out.size (fun _ h => by cases h)); clear HB6
  have XP0 := Lib.hid (XP0.out.grown hgd)
  have XP1 := Lib.hid (XP1.out.grown hgd)
  have XP2 := Lib.hid (XP2.out.grown hgd)
  clear hgd
  try clear cP0_0
  have cP0_0 : World.cell? ((World.drew w4)) ⟨w.heap.size, 0, none⟩ = some (.int .i64 aX_W) := XP0.out.cell 0
  try clear cP0_1
  have cP0_1 : World.cell? ((World.drew w4)) ⟨w.heap.size, 1, none⟩ = some (.int .i64 aX_H) := XP0.out.cell 1
  try clear cP0_2
  have cP0_2 : World.cell? ((World.drew w4)) ⟨w.heap.size, 2, none⟩ = some (.slice aX_Cells_a aX_Cells_L.length aX_Cells_cap) := XP0.out.cell 2
  try clear cP1_0
  have cP1_0 : World.cell? ((World.drew w4)) ⟨w.heap.size + 1, 0, none⟩ = some (.int .i64 aR_Most) := XP1.out.cell 0
  try clear cP1_1
  have cP1_1 : World.cell? ((World.drew w4)) ⟨w.heap.size + 1, 1, none⟩ = some (.int .i64 aR_Window) := XP1.out.cell 1
  try clear cP2_0
  have cP2_0 : World.cell? ((World.drew w4)) ⟨w.heap.size + 1 + 1, 0, none⟩ = some (.int .i64 aP_At) := XP2.out.cell 0
  try clear cP2_1
  have cP2_1 : World.cell? ((World.drew w4)) ⟨w.heap.size + 1 + 1, 1, none⟩ = some (.int .i64 aP_Food) := XP2.out.cell 1
  try clear cP2_2
  have cP2_2 : World.cell? ((World.drew w4)) ⟨w.heap.size + 1 + 1, 2, none⟩ = some (.slice aP_Crew_a aP_Crew_L.length aP_Crew_cap) := XP2.out.cell 2
  try clear cP2_3
  have cP2_3 : World.cell? ((World.drew w4)) ⟨w.heap.size + 1 + 1, 3, none⟩ = some (.slice aP_Past_a aP_Past_L.length aP_Past_cap) := XP2.out.cell 3
  refine wp_region_held_drew (S := fun w' => w'.cell? ⟨w.heap.size, 0, none⟩ = some (.int .i64 aX_W) ∧ w'.cell? ⟨w.heap.size, 1, none⟩ = some (.int .i64 aX_H) ∧ w'.cell? ⟨w.heap.size, 2, none⟩ = some (.slice aX_Cells_a aX_Cells_L.length aX_Cells_cap) ∧ w'.cell? ⟨w.heap.size + 1, 0, none⟩ = some (.int .i64 aR_Most) ∧ w'.cell? ⟨w.heap.size + 1, 1, none⟩ = some (.int .i64 aR_Window) ∧ w'.cell? ⟨w.heap.size + 1 + 1, 0, none⟩ = some (.int .i64 aP_At) ∧ w'.cell? ⟨w.heap.size + 1 + 1, 1, none⟩ = some (.int .i64 aP_Food) ∧ w'.cell? ⟨w.heap.size + 1 + 1, 2, none⟩ = some (.slice aP_Crew_a aP_Crew_L.length aP_Crew_cap) ∧ w'.cell? ⟨w.heap.size + 1 + 1, 3, none⟩ = some (.slice aP_Past_a aP_Past_L.length aP_Past_cap)) (by kernel_rfl) ⟨cP0_0, cP0_1, cP0_2, cP1_0, cP1_1, cP2_0, cP2_1, cP2_2, cP2_3⟩ (fun hHeld => ?_)
  refine wpAnyH_take (i := 0) (v := ?_) rfl (by kernel_rfl) (by kernel_rfl) (by kernel_rfl) (fun _ _ _ h => h) (Or.inl ⟨by rfl, ?_⟩) (by assumption) ?_; rotate_left; (focus (intro wS hSw; (try dsimp only at hSw); go_simp <;> with_reducible rfl)); (try simp only [Act.put, List.getElem_toArray, List.getElem_cons_succ, List.getElem_cons_zero, List.setIfInBounds_toArray, List.set_cons_zero, List.set_cons_succ])
  refine wpAnyH_take (i := 2) (v := ?_) rfl (by kernel_rfl) (by kernel_rfl) (by kernel_rfl) (fun _ _ _ h => h) (Or.inl ⟨by rfl, ?_⟩) (by assumption) ?_; rotate_left; (focus (intro wS hSw; (try dsimp only at hSw); go_simp <;> with_reducible rfl)); (try simp only [Act.put, List.getElem_toArray, List.getElem_cons_succ, List.getElem_cons_zero, List.setIfInBounds_toArray, List.set_cons_zero, List.set_cons_succ])
  refine wpAnyH_take (i := 3) (v := ?_) rfl (by kernel_rfl) (by kernel_rfl) (by kernel_rfl) (fun _ _ _ h => h) (Or.inl ⟨by rfl, ?_⟩) (by assumption) ?_; rotate_left; (focus (intro wS hSw; (try dsimp only at hSw); go_simp <;> with_reducible rfl)); (try simp only [Act.put, List.getElem_toArray, List.getElem_cons_succ, List.getElem_cons_zero, List.setIfInBounds_toArray, List.set_cons_zero, List.set_cons_succ])
  refine wpAnyH_take (i := 5) (v := ?_) rfl (by kernel_rfl) (by kernel_rfl) (by kernel_rfl) (fun _ _ _ h => h) (Or.inl ⟨by rfl, ?_⟩) (by assumption) ?_; rotate_left; (focus (intro wS hSw; (try dsimp only at hSw); go_simp <;> with_reducible rfl)); (try simp only [Act.put, List.getElem_toArray, List.getElem_cons_succ, List.getElem_cons_zero, List.setIfInBounds_toArray, List.set_cons_zero, List.set_cons_succ])
  refine wpAnyH_take (i := 7) (v := ?_) rfl (by kernel_rfl) (by kernel_rfl) (by kernel_rfl) (fun _ _ _ h => h) (Or.inl ⟨by rfl, ?_⟩) (by assumption) ?_; rotate_left; (focus (intro wS hSw; (try dsimp only at hSw); go_simp <;> with_reducible rfl)); (try simp only [Act.put, List.getElem_toArray, List.getElem_cons_succ, List.getElem_cons_zero, List.setIfInBounds_toArray, List.set_cons_zero, List.set_cons_succ])
  refine wpAnyH_ready (rs := [1]) (by kernel_rfl) (by simp) ?_; refine AllReadyH.cons rfl (fun K hK => ?_) AllReadyH.nil; go_simp; (go_at_call 24; refine (LandL.toLand_any (World.drew w4) aX_W aX_H _ _ (aX_Cells_S.out.below HB7.out) (by omega)).mono ?_; rintro e w6 ⟨u1, rfl, ho, hg⟩; have D_u1_P0 := Lib.hid (ho.off XP0.out.lt); have D_u1_P1 := Lib.hid (ho.off XP1.out.lt); have D_u1_P2 := Lib.hid (ho.off XP2.out.lt); have Ou1 := Lib.hid (ho.lower HB7.out.size); have HB8 := Lib.hid (HB7.out.grown hg HB7.out.size (fun _ h => by cases h)); clear HB7; have XP0 := Lib.hid (XP0.out.grown hg); have XP1 := Lib.hid (XP1.out.grown hg); have XP2 := Lib.hid (XP2.out.grown hg); clear ho hg)
  refine hK.out _ _ ?_ (fun hHeld => ?_)
  · exact ⟨XP0.out.cell 0, XP0.out.cell 1, XP0.out.cell 2, XP1.out.cell 0, XP1.out.cell 1, XP2.out.cell 0, XP2.out.cell 1, XP2.out.cell 2, XP2.out.cell 3⟩
  clear hK K
  (try simp only [Act.put, List.getElem_toArray, List.getElem_cons_succ, List.getElem_cons_zero, List.setIfInBounds_toArray, List.set_cons_zero, List.set_cons_succ])
  refine wpAnyH_ready (rs := [4]) (by kernel_rfl) (by simp) ?_; refine AllReadyH.cons rfl (fun K hK => ?_) AllReadyH.nil; go_simp; (go_at_call 25; refine (RuleL.toRule_any w6 aR_Most aR_Window).mono ?_; rintro e w7 ⟨rfl, hg⟩; have HB9 := Lib.hid (HB8.out.grown hg HB8.out.size (fun _ h => by cases h)); clear HB8; have Ou1 := Lib.hid (Ou1.out.grown hg); have XP0 := Lib.hid (XP0.out.grown hg); have XP1 := Lib.hid (XP1.out.grown hg); have XP2 := Lib.hid (XP2.out.grown hg); clear hg)
  refine hK.out _ _ ?_ (fun hHeld => ?_)
  · exact ⟨XP0.out.cell 0, XP0.out.cell 1, XP0.out.cell 2, XP1.out.cell 0, XP1.out.cell 1, XP2.out.cell 0, XP2.out.cell 1, XP2.out.cell 2, XP2.out.cell 3⟩
  clear hK K
  (try simp only [Act.put, List.getElem_toArray, List.getElem_cons_succ, List.getElem_cons_zero, List.setIfInBounds_toArray, List.set_cons_zero, List.set_cons_succ])
  refine wpAnyH_ready (rs := [6]) (by kernel_rfl) (by simp) ?_; refine AllReadyH.cons rfl (fun K hK => ?_) AllReadyH.nil; go_simp; (go_at_call 26; refine (LawsP.to_any w7 (.slice aL_a aL_L.length aL_cap) aL_L (aL_S.out.below HB9.out) (by have h9 := Saf.safe_len aX_W aX_H aX_Cells_L aBase aR_Most aR_Window aL_L aP_At aP_Food aP_Crew_L aP_Past_L; (try simp only [LawsBo.marksB_len, LawsI.marksI_len, LawsM.marksM_len, LawsP.marksP_len]); omega)).mono ?_; rintro e w8 ⟨u2, rfl, ho, hg⟩; have A_u2_u1 := Lib.hid (Rg.apart_lt ho.lt Ou1.out.lt (Nat.le_refl _)); have D_u2_P0 := Lib.hid (ho.off XP0.out.lt); have D_u2_P1 := Lib.hid (ho.off XP1.out.lt); have D_u2_P2 := Lib.hid (ho.off XP2.out.lt); have Ou2 := Lib.hid (ho.lower HB9.out.size); have HB10 := Lib.hid (HB9.out.grown hg HB9.out.size (fun _ h => by cases h)); clear HB9; have Ou1 := Lib.hid (Ou1.out.grown hg); have XP0 := Lib.hid (XP0.out.grown hg); have XP1 := Lib.hid (XP1.out.grown hg); have XP2 := Lib.hid (XP2.out.grown hg); clear ho hg)
  refine hK.out _ _ ?_ (fun hHeld => ?_)
  · exact ⟨XP0.out.cell 0, XP0.out.cell 1, XP0.out.cell 2, XP1.out.cell 0, XP1.out.cell 1, XP2.out.cell 0, XP2.out.cell 1, XP2.out.cell 2, XP2.out.cell 3⟩
  clear hK K
  (try simp only [Act.put, List.getElem_toArray, List.getElem_cons_succ, List.getElem_cons_zero, List.setIfInBounds_toArray, List.set_cons_zero, List.set_cons_succ])
  refine wpAnyH_ready (rs := [8]) (by kernel_rfl) (by simp) ?_; refine AllReadyH.cons rfl (fun K hK => ?_) AllReadyH.nil; go_simp; (go_at_call 27; refine (PartyL.toParty_any w8 aP_At aP_Food _ _ _ _ (aP_Crew_S.out.below HB10.out) (aP_Past_S.out.below HB10.out) (by omega) (by omega)).mono ?_; rintro e w9 ⟨u3, u4, rfl, ho1, ho2, hap, hg⟩; have A_u3_u1 := Lib.hid (Rg.apart_lt ho1.lt Ou1.out.lt (Nat.le_refl _)); have A_u3_u2 := Lib.hid (Rg.apart_lt ho1.lt Ou2.out.lt (Nat.le_refl _)); have D_u3_P0 := Lib.hid (ho1.off XP0.out.lt); have D_u3_P1 := Lib.hid (ho1.off XP1.out.lt); have D_u3_P2 := Lib.hid (ho1.off XP2.out.lt); have Ou3 := Lib.hid (ho1.lower HB10.out.size); have A_u4_u1 := Lib.hid (Rg.apart_lt ho2.lt Ou1.out.lt (Nat.le_refl _)); have A_u4_u2 := Lib.hid (Rg.apart_lt ho2.lt Ou2.out.lt (Nat.le_refl _)); have D_u4_P0 := Lib.hid (ho2.off XP0.out.lt); have D_u4_P1 := Lib.hid (ho2.off XP1.out.lt); have D_u4_P2 := Lib.hid (ho2.off XP2.out.lt); have Ou4 := Lib.hid (ho2.lower HB10.out.size); have A_u4_u3 := Lib.hid hap; have HB11 := Lib.hid (HB10.out.grown hg HB10.out.size (fun _ h => by cases h)); clear HB10; have Ou1 := Lib.hid (Ou1.out.grown hg); have Ou2 := Lib.hid (Ou2.out.grown hg); have XP0 := Lib.hid (XP0.out.grown hg); have XP1 := Lib.hid (XP1.out.grown hg); have XP2 := Lib.hid (XP2.out.grown hg); clear ho1 ho2 hap hg)
  refine hK.out _ _ ?_ (fun hHeld => ?_)
  · exact ⟨XP0.out.cell 0, XP0.out.cell 1, XP0.out.cell 2, XP1.out.cell 0, XP1.out.cell 1, XP2.out.cell 0, XP2.out.cell 1, XP2.out.cell 2, XP2.out.cell 3⟩
  clear hK K
  (try simp only [Act.put, List.getElem_toArray, List.getElem_cons_succ, List.getElem_cons_zero, List.setIfInBounds_toArray, List.set_cons_zero, List.set_cons_succ])
  refine wpAnyH_ready (rs := [9]) (by kernel_rfl) (by simp) ?_; refine AllReadyH.cons rfl (fun K hK => ?_) AllReadyH.nil; go_simp; (go_at_call 32; refine (Saf.sSafe_any w9 aX_W aX_H aBase aR_Most aR_Window aP_At aP_Food _ _ _ _ aX_Cells_L aL_L aP_Crew_L aP_Past_L aR_Most_H.out aR_Window_H.out aP_Food_H.out (Ou1.out.sees) (Ou2.out.sees) (Ou3.out.sees) (Ou4.out.sees) (by have h9 := Saf.safe_len aX_W aX_H aX_Cells_L aBase aR_Most aR_Window aL_L aP_At aP_Food aP_Crew_L aP_Past_L; (try simp only [LawsBo.marksB_len, LawsI.marksI_len, LawsM.marksM_len, LawsP.marksP_len]); omega) (by have h9 := Saf.safe_len aX_W aX_H aX_Cells_L aBase aR_Most aR_Window aL_L aP_At aP_Food aP_Crew_L aP_Past_L; (try simp only [LawsBo.marksB_len, LawsI.marksI_len, LawsM.marksM_len, LawsP.marksP_len]); omega) (by have h9 := Saf.safe_len aX_W aX_H aX_Cells_L aBase aR_Most aR_Window aL_L aP_At aP_Food aP_Crew_L aP_Past_L; (try simp only [LawsBo.marksB_len, LawsI.marksI_len, LawsM.marksM_len, LawsP.marksP_len]); omega)).mono ?_; rintro e w10 ⟨u5, rfl, ho, hg⟩; have A_u5_u1 := Lib.hid (Rg.apart_lt ho.lt Ou1.out.lt (Nat.le_refl _)); have A_u5_u2 := Lib.hid (Rg.apart_lt ho.lt Ou2.out.lt (Nat.le_refl _)); have A_u5_u3 := Lib.hid (Rg.apart_lt ho.lt Ou3.out.lt (Nat.le_refl _)); have A_u5_u4 := Lib.hid (Rg.apart_lt ho.lt Ou4.out.lt (Nat.le_refl _)); have D_u5_P0 := Lib.hid (ho.off XP0.out.lt); have D_u5_P1 := Lib.hid (ho.off XP1.out.lt); have D_u5_P2 := Lib.hid (ho.off XP2.out.lt); have Ou5 := Lib.hid (ho.lower HB11.out.size); have HB12 := Lib.hid (HB11.out.grown hg HB11.out.size (fun _ h => by cases h)); clear HB11; have Ou1 := Lib.hid (Ou1.out.grown hg); have Ou2 := Lib.hid (Ou2.out.grown hg); have Ou3 := Lib.hid (Ou3.out.grown hg); have Ou4 := Lib.hid (Ou4.out.grown hg); have XP0 := Lib.hid (XP0.out.grown hg); have XP1 := Lib.hid (XP1.out.grown hg); have XP2 := Lib.hid (XP2.out.grown hg); clear ho hg)
  refine hK.out _ _ ?_ (fun hHeld => ?_)
  · exact ⟨XP0.out.cell 0, XP0.out.cell 1, XP0.out.cell 2, XP1.out.cell 0, XP1.out.cell 1, XP2.out.cell 0, XP2.out.cell 1, XP2.out.cell 2, XP2.out.cell 3⟩
  clear hK K
  (try simp only [Act.put, List.getElem_toArray, List.getElem_cons_succ, List.getElem_cons_zero, List.setIfInBounds_toArray, List.set_cons_zero, List.set_cons_succ])
  refine wpAnyH_take (i := 10) (v := ?_) rfl (by kernel_rfl) (by kernel_rfl) (by kernel_rfl) (fun _ _ _ h => h) (Or.inl ⟨by rfl, ?_⟩) (by assumption) ?_; rotate_left; (focus (intro wS hSw; (try dsimp only at hSw); go_simp <;> with_reducible rfl)); (try simp only [Act.put, List.getElem_toArray, List.getElem_cons_succ, List.getElem_cons_zero, List.setIfInBounds_toArray, List.set_cons_zero, List.set_cons_succ])
  refine wpAnyH_done (by kernel_rfl) ?_ _
  (try simp only [Act.put, List.getElem_toArray, List.getElem_cons_succ, List.getElem_cons_zero, List.setIfInBounds_toArray, List.set_cons_zero, List.set_cons_succ])
  clear Ou1
  clear Ou2
  clear Ou3
  clear Ou4
  try clear cP0_0
  have cP0_0 : World.cell? (w10) ⟨w.heap.size, 0, none⟩ = some (.int .i64 aX_W) := XP0.out.cell 0
  try clear cP0_1
  have cP0_1 : World.cell? (w10) ⟨w.heap.size, 1, none⟩ = some (.int .i64 aX_H) := XP0.out.cell 1
  try clear cP0_2
  have cP0_2 : World.cell? (w10) ⟨w.heap.size, 2, none⟩ = some (.slice aX_Cells_a aX_Cells_L.length aX_Cells_cap) := XP0.out.cell 2
  try clear cP1_0
  have cP1_0 : World.cell? (w10) ⟨w.heap.size + 1, 0, none⟩ = some (.int .i64 aR_Most) := XP1.out.cell 0
  try clear cP1_1
  have cP1_1 : World.cell? (w10) ⟨w.heap.size + 1, 1, none⟩ = some (.int .i64 aR_Window) := XP1.out.cell 1
  try clear cP2_0
  have cP2_0 : World.cell? (w10) ⟨w.heap.size + 1 + 1, 0, none⟩ = some (.int .i64 aP_At) := XP2.out.cell 0
  try clear cP2_1
  have cP2_1 : World.cell? (w10) ⟨w.heap.size + 1 + 1, 1, none⟩ = some (.int .i64 aP_Food) := XP2.out.cell 1
  try clear cP2_2
  have cP2_2 : World.cell? (w10) ⟨w.heap.size + 1 + 1, 2, none⟩ = some (.slice aP_Crew_a aP_Crew_L.length aP_Crew_cap) := XP2.out.cell 2
  try clear cP2_3
  have cP2_3 : World.cell? (w10) ⟨w.heap.size + 1 + 1, 3, none⟩ = some (.slice aP_Past_a aP_Past_L.length aP_Past_cap) := XP2.out.cell 3
  go_wp2_with fail
  refine (LandL.toLand_any w10 aX_W aX_H _ _ (aX_Cells_S.out.below HB12.out) (by omega)).mono ?_
  rintro e w11 ⟨u6, rfl, ho, hg⟩
  have A_u6_u5 := Lib.hid (Rg.apart_lt ho.lt Ou5.out.lt (Nat.le_refl _))
  have D_u6_P0 := Lib.hid (ho.off XP0.out.lt)
  have D_u6_P1 := Lib.hid (ho.off XP1.out.lt)
  have D_u6_P2 := Lib.hid (ho.off XP2.out.lt)
  have Ou6 := Lib.hid (ho.lower HB12.out.size)
  have HB13 := Lib.hid (HB12.out.grown hg HB12.out.size (fun _ h => by cases h)); clear HB12
  have Ou5 := Lib.hid (Ou5.out.grown hg)
  have XP0 := Lib.hid (XP0.out.grown hg)
  have XP1 := Lib.hid (XP1.out.grown hg)
  have XP2 := Lib.hid (XP2.out.grown hg)
  clear ho hg
  obtain ⟨u6_a, u6_n, u6_c, hu6, Nu6⟩ := Ou6.out.sees.shape; subst hu6
  have hgb := World.grownBy_alloc w11 (.cells #[.int .i64 aX_W, .int .i64 aX_H, .slice u6_a u6_n u6_c] 37 (0, 0)) none
  have D_u5_B7 := Lib.hid (Ou5.out.off' (Nat.le_refl _))
  have D_u6_B7 := Lib.hid (Ou6.out.off' (Nat.le_refl _))
  have HB14 := Lib.hid (HB13.out.grown hgb HB13.out.size (fun _ h => by cases h)); clear HB13
  have Ou5 := Lib.hid (Ou5.out.grown hgb)
  have Ou6 := Lib.hid (Ou6.out.grown hgb)
  have XP0 := Lib.hid (XP0.out.grown hgb)
  have XP1 := Lib.hid (XP1.out.grown hgb)
  have XP2 := Lib.hid (XP2.out.grown hgb)
  have XB7 := Lib.hid (box_new w11 #[.int .i64 aX_W, .int .i64 aX_H, .slice u6_a u6_n u6_c] 37); clear hgb
  try clear cP0_0
  have cP0_0 : World.cell? (w11.alloc (.cells #[.int .i64 aX_W, .int .i64 aX_H, .slice u6_a u6_n u6_c] 37 (0, 0))) ⟨w.heap.size, 0, none⟩ = some (.int .i64 aX_W) := XP0.out.cell 0
  try clear cP0_1
  have cP0_1 : World.cell? (w11.alloc (.cells #[.int .i64 aX_W, .int .i64 aX_H, .slice u6_a u6_n u6_c] 37 (0, 0))) ⟨w.heap.size, 1, none⟩ = some (.int .i64 aX_H) := XP0.out.cell 1
  try clear cP0_2
  have cP0_2 : World.cell? (w11.alloc (.cells #[.int .i64 aX_W, .int .i64 aX_H, .slice u6_a u6_n u6_c] 37 (0, 0))) ⟨w.heap.size, 2, none⟩ = some (.slice aX_Cells_a aX_Cells_L.length aX_Cells_cap) := XP0.out.cell 2
  try clear cP1_0
  have cP1_0 : World.cell? (w11.alloc (.cells #[.int .i64 aX_W, .int .i64 aX_H, .slice u6_a u6_n u6_c] 37 (0, 0))) ⟨w.heap.size + 1, 0, none⟩ = some (.int .i64 aR_Most) := XP1.out.cell 0
  try clear cP1_1
  have cP1_1 : World.cell? (w11.alloc (.cells #[.int .i64 aX_W, .int .i64 aX_H, .slice u6_a u6_n u6_c] 37 (0, 0))) ⟨w.heap.size + 1, 1, none⟩ = some (.int .i64 aR_Window) := XP1.out.cell 1
  try clear cP2_0
  have cP2_0 : World.cell? (w11.alloc (.cells #[.int .i64 aX_W, .int .i64 aX_H, .slice u6_a u6_n u6_c] 37 (0, 0))) ⟨w.heap.size + 1 + 1, 0, none⟩ = some (.int .i64 aP_At) := XP2.out.cell 0
  try clear cP2_1
  have cP2_1 : World.cell? (w11.alloc (.cells #[.int .i64 aX_W, .int .i64 aX_H, .slice u6_a u6_n u6_c] 37 (0, 0))) ⟨w.heap.size + 1 + 1, 1, none⟩ = some (.int .i64 aP_Food) := XP2.out.cell 1
  try clear cP2_2
  have cP2_2 : World.cell? (w11.alloc (.cells #[.int .i64 aX_W, .int .i64 aX_H, .slice u6_a u6_n u6_c] 37 (0, 0))) ⟨w.heap.size + 1 + 1, 2, none⟩ = some (.slice aP_Crew_a aP_Crew_L.length aP_Crew_cap) := XP2.out.cell 2
  try clear cP2_3
  have cP2_3 : World.cell? (w11.alloc (.cells #[.int .i64 aX_W, .int .i64 aX_H, .slice u6_a u6_n u6_c] 37 (0, 0))) ⟨w.heap.size + 1 + 1, 3, none⟩ = some (.slice aP_Past_a aP_Past_L.length aP_Past_cap) := XP2.out.cell 3
  try clear cB7_0
  have cB7_0 : World.cell? (w11.alloc (.cells #[.int .i64 aX_W, .int .i64 aX_H, .slice u6_a u6_n u6_c] 37 (0, 0))) ⟨w11.heap.size, 0, none⟩ = some (.int .i64 aX_W) := XB7.out.cell 0
  try clear cB7_1
  have cB7_1 : World.cell? (w11.alloc (.cells #[.int .i64 aX_W, .int .i64 aX_H, .slice u6_a u6_n u6_c] 37 (0, 0))) ⟨w11.heap.size, 1, none⟩ = some (.int .i64 aX_H) := XB7.out.cell 1
  try clear cB7_2
  have cB7_2 : World.cell? (w11.alloc (.cells #[.int .i64 aX_W, .int .i64 aX_H, .slice u6_a u6_n u6_c] 37 (0, 0))) ⟨w11.heap.size, 2, none⟩ = some (.slice u6_a u6_n u6_c) := XB7.out.cell 2
  go_wp2_with fail
  generalize w11.alloc (.cells #[.int .i64 aX_W, .int .i64 aX_H, .slice u6_a u6_n u6_c] 37 (0, 0)) = w12 at *
  refine (LawsP.to_any w12 (.slice aL_a aL_L.length aL_cap) aL_L (aL_S.out.below HB14.out) (by have h9 := Saf.safe_len aX_W aX_H aX_Cells_L aBase aR_Most aR_Window aL_L aP_At aP_Food aP_Crew_L aP_Past_L; (try simp only [LawsBo.marksB_len, LawsI.marksI_len, LawsM.marksM_len, LawsP.marksP_len]); omega)).mono ?_
  rintro e w13 ⟨u8, rfl, ho, hg⟩
  have A_u8_u5 := Lib.hid (Rg.apart_lt ho.lt Ou5.out.lt (Nat.le_refl _))
  have A_u8_u6 := Lib.hid (Rg.apart_lt ho.lt Ou6.out.lt (Nat.le_refl _))
  have D_u8_P0 := Lib.hid (ho.off XP0.out.lt)
  have D_u8_P1 := Lib.hid (ho.off XP1.out.lt)
  have D_u8_P2 := Lib.hid (ho.off XP2.out.lt)
  have D_u8_B7 := Lib.hid (ho.off XB7.out.lt)
  have Ou8 := Lib.hid (ho.lower HB14.out.size)
  have HB15 := Lib.hid (HB14.out.grown hg HB14.out.size (fun _ h => by cases h)); clear HB14
  have Ou5 := Lib.hid (Ou5.out.grown hg)
  have Ou6 := Lib.hid (Ou6.out.grown hg)
  have XP0 := Lib.hid (XP0.out.grown hg)
  have XP1 := Lib.hid (XP1.out.grown hg)
  have XP2 := Lib.hid (XP2.out.grown hg)
  have XB7 := Lib.hid (XB7.out.grown hg)
  clear ho hg
  try clear cP0_0
  have cP0_0 : World.cell? (w13) ⟨w.heap.size, 0, none⟩ = some (.int .i64 aX_W) := XP0.out.cell 0
  try clear cP0_1
  have cP0_1 : World.cell? (w13) ⟨w.heap.size, 1, none⟩ = some (.int .i64 aX_H) := XP0.out.cell 1
  try clear cP0_2
  have cP0_2 : World.cell? (w13) ⟨w.heap.size, 2, none⟩ = some (.slice aX_Cells_a aX_Cells_L.length aX_Cells_cap) := XP0.out.cell 2
  try clear cP1_0
  have cP1_0 : World.cell? (w13) ⟨w.heap.size + 1, 0, none⟩ = some (.int .i64 aR_Most) := XP1.out.cell 0
  try clear cP1_1
  have cP1_1 : World.cell? (w13) ⟨w.heap.size + 1, 1, none⟩ = some (.int .i64 aR_Window) := XP1.out.cell 1
  try clear cP2_0
  have cP2_0 : World.cell? (w13) ⟨w.heap.size + 1 + 1, 0, none⟩ = some (.int .i64 aP_At) := XP2.out.cell 0
  try clear cP2_1
  have cP2_1 : World.cell? (w13) ⟨w.heap.size + 1 + 1, 1, none⟩ = some (.int .i64 aP_Food) := XP2.out.cell 1
  try clear cP2_2
  have cP2_2 : World.cell? (w13) ⟨w.heap.size + 1 + 1, 2, none⟩ = some (.slice aP_Crew_a aP_Crew_L.length aP_Crew_cap) := XP2.out.cell 2
  try clear cP2_3
  have cP2_3 : World.cell? (w13) ⟨w.heap.size + 1 + 1, 3, none⟩ = some (.slice aP_Past_a aP_Past_L.length aP_Past_cap) := XP2.out.cell 3
  try clear cB7_0
  have cB7_0 : World.cell? (w13) ⟨w11.heap.size, 0, none⟩ = some (.int .i64 aX_W) := XB7.out.cell 0
  try clear cB7_1
  have cB7_1 : World.cell? (w13) ⟨w11.heap.size, 1, none⟩ = some (.int .i64 aX_H) := XB7.out.cell 1
  try clear cB7_2
  have cB7_2 : World.cell? (w13) ⟨w11.heap.size, 2, none⟩ = some (.slice u6_a u6_n u6_c) := XB7.out.cell 2
  go_wp2_with fail
  refine (PartyL.toParty_any w13 aP_At aP_Food _ _ _ _ (aP_Crew_S.out.below HB15.out) (aP_Past_S.out.below HB15.out) (by omega) (by omega)).mono ?_
  rintro e w14 ⟨u9, u10, rfl, ho1, ho2, hap, hg⟩
  have A_u9_u5 := Lib.hid (Rg.apart_lt ho1.lt Ou5.out.lt (Nat.le_refl _))
  have A_u9_u6 := Lib.hid (Rg.apart_lt ho1.lt Ou6.out.lt (Nat.le_refl _))
  have A_u9_u8 := Lib.hid (Rg.apart_lt ho1.lt Ou8.out.lt (Nat.le_refl _))
  have D_u9_P0 := Lib.hid (ho1.off XP0.out.lt)
  have D_u9_P1 := Lib.hid (ho1.off XP1.out.lt)
  have D_u9_P2 := Lib.hid (ho1.off XP2.out.lt)
  have D_u9_B7 := Lib.hid (ho1.off XB7.out.lt)
  have Ou9 := Lib.hid (ho1.lower HB15.out.size)
  have A_u10_u5 := Lib.hid (Rg.apart_lt ho2.lt Ou5.out.lt (Nat.le_refl _))
  have A_u10_u6 := Lib.hid (Rg.apart_lt ho2.lt Ou6.out.lt (Nat.le_refl _))
  have A_u10_u8 := Lib.hid (Rg.apart_lt ho2.lt Ou8.out.lt (Nat.le_refl _))
  have D_u10_P0 := Lib.hid (ho2.off XP0.out.lt)
  have D_u10_P1 := Lib.hid (ho2.off XP1.out.lt)
  have D_u10_P2 := Lib.hid (ho2.off XP2.out.lt)
  have D_u10_B7 := Lib.hid (ho2.off XB7.out.lt)
  have Ou10 := Lib.hid (ho2.lower HB15.out.size)
  have A_u10_u9 := Lib.hid hap
  have HB16 := Lib.hid (HB15.out.grown hg HB15.out.size (fun _ h => by cases h)); clear HB15
  have Ou5 := Lib.hid (Ou5.out.grown hg)
  have Ou6 := Lib.hid (Ou6.out.grown hg)
  have Ou8 := Lib.hid (Ou8.out.grown hg)
  have XP0 := Lib.hid (XP0.out.grown hg)
  have XP1 := Lib.hid (XP1.out.grown hg)
  have XP2 := Lib.hid (XP2.out.grown hg)
  have XB7 := Lib.hid (XB7.out.grown hg)
  clear ho1 ho2 hap hg
  obtain ⟨u9_a, u9_n, u9_c, hu9, Nu9⟩ := Ou9.out.sees.shape; subst hu9
  obtain ⟨u10_a, u10_n, u10_c, hu10, Nu10⟩ := Ou10.out.sees.shape; subst hu10
  have hgb := World.grownBy_alloc w14 (.cells #[.int .i64 aP_At, .int .i64 aP_Food, .slice u9_a u9_n u9_c, .slice u10_a u10_n u10_c] 42 (0, 0)) none
  have D_u5_B11 := Lib.hid (Ou5.out.off' (Nat.le_refl _))
  have D_u6_B11 := Lib.hid (Ou6.out.off' (Nat.le_refl _))
  have D_u8_B11 := Lib.hid (Ou8.out.off' (Nat.le_refl _))
  have D_u9_B11 := Lib.hid (Ou9.out.off' (Nat.le_refl _))
  have D_u10_B11 := Lib.hid (Ou10.out.off' (Nat.le_refl _))
  have HB17 := Lib.hid (HB16.out.grown hgb HB16.out.size (fun _ h => by cases h)); clear HB16
  have Ou5 := Lib.hid (Ou5.out.grown hgb)
  have Ou6 := Lib.hid (Ou6.out.grown hgb)
  have Ou8 := Lib.hid (Ou8.out.grown hgb)
  have Ou9 := Lib.hid (Ou9.out.grown hgb)
  have Ou10 := Lib.hid (Ou10.out.grown hgb)
  have XP0 := Lib.hid (XP0.out.grown hgb)
  have XP1 := Lib.hid (XP1.out.grown hgb)
  have XP2 := Lib.hid (XP2.out.grown hgb)
  have XB7 := Lib.hid (XB7.out.grown hgb)
  have XB11 := Lib.hid (box_new w14 #[.int .i64 aP_At, .int .i64 aP_Food, .slice u9_a u9_n u9_c, .slice u10_a u10_n u10_c] 42); clear hgb
  try clear cP0_0
  have cP0_0 : World.cell? (w14.alloc (.cells #[.int .i64 aP_At, .int .i64 aP_Food, .slice u9_a u9_n u9_c, .slice u10_a u10_n u10_c] 42 (0, 0))) ⟨w.heap.size, 0, none⟩ = some (.int .i64 aX_W) := XP0.out.cell 0
  try clear cP0_1
  have cP0_1 : World.cell? (w14.alloc (.cells #[.int .i64 aP_At, .int .i64 aP_Food, .slice u9_a u9_n u9_c, .slice u10_a u10_n u10_c] 42 (0, 0))) ⟨w.heap.size, 1, none⟩ = some (.int .i64 aX_H) := XP0.out.cell 1
  try clear cP0_2
  have cP0_2 : World.cell? (w14.alloc (.cells #[.int .i64 aP_At, .int .i64 aP_Food, .slice u9_a u9_n u9_c, .slice u10_a u10_n u10_c] 42 (0, 0))) ⟨w.heap.size, 2, none⟩ = some (.slice aX_Cells_a aX_Cells_L.length aX_Cells_cap) := XP0.out.cell 2
  try clear cP1_0
  have cP1_0 : World.cell? (w14.alloc (.cells #[.int .i64 aP_At, .int .i64 aP_Food, .slice u9_a u9_n u9_c, .slice u10_a u10_n u10_c] 42 (0, 0))) ⟨w.heap.size + 1, 0, none⟩ = some (.int .i64 aR_Most) := XP1.out.cell 0
  try clear cP1_1
  have cP1_1 : World.cell? (w14.alloc (.cells #[.int .i64 aP_At, .int .i64 aP_Food, .slice u9_a u9_n u9_c, .slice u10_a u10_n u10_c] 42 (0, 0))) ⟨w.heap.size + 1, 1, none⟩ = some (.int .i64 aR_Window) := XP1.out.cell 1
  try clear cP2_0
  have cP2_0 : World.cell? (w14.alloc (.cells #[.int .i64 aP_At, .int .i64 aP_Food, .slice u9_a u9_n u9_c, .slice u10_a u10_n u10_c] 42 (0, 0))) ⟨w.heap.size + 1 + 1, 0, none⟩ = some (.int .i64 aP_At) := XP2.out.cell 0
  try clear cP2_1
  have cP2_1 : World.cell? (w14.alloc (.cells #[.int .i64 aP_At, .int .i64 aP_Food, .slice u9_a u9_n u9_c, .slice u10_a u10_n u10_c] 42 (0, 0))) ⟨w.heap.size + 1 + 1, 1, none⟩ = some (.int .i64 aP_Food) := XP2.out.cell 1
  try clear cP2_2
  have cP2_2 : World.cell? (w14.alloc (.cells #[.int .i64 aP_At, .int .i64 aP_Food, .slice u9_a u9_n u9_c, .slice u10_a u10_n u10_c] 42 (0, 0))) ⟨w.heap.size + 1 + 1, 2, none⟩ = some (.slice aP_Crew_a aP_Crew_L.length aP_Crew_cap) := XP2.out.cell 2
  try clear cP2_3
  have cP2_3 : World.cell? (w14.alloc (.cells #[.int .i64 aP_At, .int .i64 aP_Food, .slice u9_a u9_n u9_c, .slice u10_a u10_n u10_c] 42 (0, 0))) ⟨w.heap.size + 1 + 1, 3, none⟩ = some (.slice aP_Past_a aP_Past_L.length aP_Past_cap) := XP2.out.cell 3
  try clear cB7_0
  have cB7_0 : World.cell? (w14.alloc (.cells #[.int .i64 aP_At, .int .i64 aP_Food, .slice u9_a u9_n u9_c, .slice u10_a u10_n u10_c] 42 (0, 0))) ⟨w11.heap.size, 0, none⟩ = some (.int .i64 aX_W) := XB7.out.cell 0
  try clear cB7_1
  have cB7_1 : World.cell? (w14.alloc (.cells #[.int .i64 aP_At, .int .i64 aP_Food, .slice u9_a u9_n u9_c, .slice u10_a u10_n u10_c] 42 (0, 0))) ⟨w11.heap.size, 1, none⟩ = some (.int .i64 aX_H) := XB7.out.cell 1
  try clear cB7_2
  have cB7_2 : World.cell? (w14.alloc (.cells #[.int .i64 aP_At, .int .i64 aP_Food, .slice u9_a u9_n u9_c, .slice u10_a u10_n u10_c] 42 (0, 0))) ⟨w11.heap.size, 2, none⟩ = some (.slice u6_a u6_n u6_c) := XB7.out.cell 2
  try clear cB11_0
  have cB11_0 : World.cell? (w14.alloc (.cells #[.int .i64 aP_At, .int .i64 aP_Food, .slice u9_a u9_n u9_c, .slice u10_a u10_n u10_c] 42 (0, 0))) ⟨w14.heap.size, 0, none⟩ = some (.int .i64 aP_At) := XB11.out.cell 0
  try clear cB11_1
  have cB11_1 : World.cell? (w14.alloc (.cells #[.int .i64 aP_At, .int .i64 aP_Food, .slice u9_a u9_n u9_c, .slice u10_a u10_n u10_c] 42 (0, 0))) ⟨w14.heap.size, 1, none⟩ = some (.int .i64 aP_Food) := XB11.out.cell 1
  try clear cB11_2
  have cB11_2 : World.cell? (w14.alloc (.cells #[.int .i64 aP_At, .int .i64 aP_Food, .slice u9_a u9_n u9_c, .slice u10_a u10_n u10_c] 42 (0, 0))) ⟨w14.heap.size, 2, none⟩ = some (.slice u9_a u9_n u9_c) := XB11.out.cell 2
  try clear cB11_3
  have cB11_3 : World.cell? (w14.alloc (.cells #[.int .i64 aP_At, .int .i64 aP_Food, .slice u9_a u9_n u9_c, .slice u10_a u10_n u10_c] 42 (0, 0))) ⟨w14.heap.size, 3, none⟩ = some (.slice u10_a u10_n u10_c) := XB11.out.cell 3
  go_wp2_with fail
  generalize w14.alloc (.cells #[.int .i64 aP_At, .int .i64 aP_Food, .slice u9_a u9_n u9_c, .slice u10_a u10_n u10_c] 42 (0, 0)) = w15 at *
  have hgd := grown_drew (World.grownBy.refl w15 none)
  have HB18 := Lib.hid (HB17.out.grown hgd HB17.out.size (fun _ h => by cases h)); clear HB17
  have Ou5 := Lib.hid (Ou5.out.grown hgd)
  have Ou6 := Lib.hid (Ou6.out.grown hgd)
  have Ou8 := Lib.hid (Ou8.out.grown hgd)
  have Ou9 := Lib.hid (Ou9.out.grown hgd)
  have Ou10 := Lib.hid (Ou10.out.grown hgd)
  have XP0 := Lib.hid (XP0.out.grown hgd)
  have XP1 := Lib.hid (XP1.out.grown hgd)
  have XP2 := Lib.hid (XP2.out.grown hgd)
  have XB7 := Lib.hid (XB7.out.grown hgd)
  have XB11 := Lib.hid (XB11.out.grown hgd)
  clear hgd
  try clear cB7_0
  have cB7_0 : World.cell? ((World.drew w15)) ⟨w11.heap.size, 0, none⟩ = some (.int .i64 aX_W) := XB7.out.cell 0
  try clear cB7_1
  have cB7_1 : World.cell? ((World.drew w15)) ⟨w11.heap.size, 1, none⟩ = some (.int .i64 aX_H) := XB7.out.cell 1
  try clear cB7_2
  have cB7_2 : World.cell? ((World.drew w15)) ⟨w11.heap.size, 2, none⟩ = some (.slice u6_a u6_n u6_c) := XB7.out.cell 2
  try clear cP1_0
  have cP1_0 : World.cell? ((World.drew w15)) ⟨w.heap.size + 1, 0, none⟩ = some (.int .i64 aR_Most) := XP1.out.cell 0
  try clear cP1_1
  have cP1_1 : World.cell? ((World.drew w15)) ⟨w.heap.size + 1, 1, none⟩ = some (.int .i64 aR_Window) := XP1.out.cell 1
  try clear cB11_0
  have cB11_0 : World.cell? ((World.drew w15)) ⟨w14.heap.size, 0, none⟩ = some (.int .i64 aP_At) := XB11.out.cell 0
  try clear cB11_1
  have cB11_1 : World.cell? ((World.drew w15)) ⟨w14.heap.size, 1, none⟩ = some (.int .i64 aP_Food) := XB11.out.cell 1
  try clear cB11_2
  have cB11_2 : World.cell? ((World.drew w15)) ⟨w14.heap.size, 2, none⟩ = some (.slice u9_a u9_n u9_c) := XB11.out.cell 2
  try clear cB11_3
  have cB11_3 : World.cell? ((World.drew w15)) ⟨w14.heap.size, 3, none⟩ = some (.slice u10_a u10_n u10_c) := XB11.out.cell 3
  refine wp_region_held_drew (S := fun w' => w'.cell? ⟨w11.heap.size, 0, none⟩ = some (.int .i64 aX_W) ∧ w'.cell? ⟨w11.heap.size, 1, none⟩ = some (.int .i64 aX_H) ∧ w'.cell? ⟨w11.heap.size, 2, none⟩ = some (.slice u6_a u6_n u6_c) ∧ w'.cell? ⟨w.heap.size + 1, 0, none⟩ = some (.int .i64 aR_Most) ∧ w'.cell? ⟨w.heap.size + 1, 1, none⟩ = some (.int .i64 aR_Window) ∧ w'.cell? ⟨w14.heap.size, 0, none⟩ = some (.int .i64 aP_At) ∧ w'.cell? ⟨w14.heap.size, 1, none⟩ = some (.int .i64 aP_Food) ∧ w'.cell? ⟨w14.heap.size, 2, none⟩ = some (.slice u9_a u9_n u9_c) ∧ w'.cell? ⟨w14.heap.size, 3, none⟩ = some (.slice u10_a u10_n u10_c)) (by kernel_rfl) ⟨cB7_0, cB7_1, cB7_2, cP1_0, cP1_1, cB11_0, cB11_1, cB11_2, cB11_3⟩ (fun hHeld => ?_)
  refine wpAnyH_take (i := 0) (v := ?_) rfl (by kernel_rfl) (by kernel_rfl) (by kernel_rfl) (fun _ _ _ h => h) (Or.inl ⟨by rfl, ?_⟩) (by assumption) ?_; rotate_left; (focus (intro wS hSw; (try dsimp only at hSw); go_simp <;> with_reducible rfl)); (try simp only [Act.put, List.getElem_toArray, List.getElem_cons_succ, List.getElem_cons_zero, List.setIfInBounds_toArray, List.set_cons_zero, List.set_cons_succ])
  refine wpAnyH_take (i := 1) (v := ?_) rfl (by kernel_rfl) (by kernel_rfl) (by kernel_rfl) (fun _ _ _ h => h) (Or.inl ⟨by rfl, ?_⟩) (by assumption) ?_; rotate_left; (focus (intro wS hSw; (try dsimp only at hSw); go_simp <;> with_reducible rfl)); (try simp only [Act.put, List.getElem_toArray, List.getElem_cons_succ, List.getElem_cons_zero, List.setIfInBounds_toArray, List.set_cons_zero, List.set_cons_succ])
  refine wpAnyH_take (i := 2) (v := ?_) rfl (by kernel_rfl) (by kernel_rfl) (by kernel_rfl) (fun _ _ _ h => h) (Or.inl ⟨by rfl, ?_⟩) (by assumption) ?_; rotate_left; (focus (intro wS hSw; (try dsimp only at hSw); go_simp <;> with_reducible rfl)); (try simp only [Act.put, List.getElem_toArray, List.getElem_cons_succ, List.getElem_cons_zero, List.setIfInBounds_toArray, List.set_cons_zero, List.set_cons_succ])
  refine wpAnyH_take (i := 4) (v := ?_) rfl (by kernel_rfl) (by kernel_rfl) (by kernel_rfl) (fun _ _ _ h => h) (Or.inl ⟨by rfl, ?_⟩) (by assumption) ?_; rotate_left; (focus (intro wS hSw; (try dsimp only at hSw); go_simp <;> with_reducible rfl)); (try simp only [Act.put, List.getElem_toArray, List.getElem_cons_succ, List.getElem_cons_zero, List.setIfInBounds_toArray, List.set_cons_zero, List.set_cons_succ])
  refine wpAnyH_take (i := 5) (v := ?_) rfl (by kernel_rfl) (by kernel_rfl) (by kernel_rfl) (fun _ _ _ h => h) (Or.inl ⟨by rfl, ?_⟩) (by assumption) ?_; rotate_left; (focus (intro wS hSw; (try dsimp only at hSw); go_simp <;> with_reducible rfl)); (try simp only [Act.put, List.getElem_toArray, List.getElem_cons_succ, List.getElem_cons_zero, List.setIfInBounds_toArray, List.set_cons_zero, List.set_cons_succ])
  refine wpAnyH_ready (rs := [3]) (by kernel_rfl) (by simp) ?_; refine AllReadyH.cons rfl (fun K hK => ?_) AllReadyH.nil; go_simp; (go_at_call 25; refine (RuleL.toRule_any (World.drew w15) aR_Most aR_Window).mono ?_; rintro e w17 ⟨rfl, hg⟩; have HB19 := Lib.hid (HB18.out.grown hg HB18.out.size (fun _ h => by cases h)); clear HB18; have Ou5 := Lib.hid (Ou5.out.grown hg); have Ou6 := Lib.hid (Ou6.out.grown hg); have Ou8 := Lib.hid (Ou8.out.grown hg); have Ou9 := Lib.hid (Ou9.out.grown hg); have Ou10 := Lib.hid (Ou10.out.grown hg); have XP0 := Lib.hid (XP0.out.grown hg); have XP1 := Lib.hid (XP1.out.grown hg); have XP2 := Lib.hid (XP2.out.grown hg); have XB7 := Lib.hid (XB7.out.grown hg); have XB11 := Lib.hid (XB11.out.grown hg); clear hg)
  refine hK.out _ _ ?_ (fun hHeld => ?_)
  · exact ⟨XB7.out.cell 0, XB7.out.cell 1, XB7.out.cell 2, XP1.out.cell 0, XP1.out.cell 1, XB11.out.cell 0, XB11.out.cell 1, XB11.out.cell 2, XB11.out.cell 3⟩
  clear hK K
  (try simp only [Act.put, List.getElem_toArray, List.getElem_cons_succ, List.getElem_cons_zero, List.setIfInBounds_toArray, List.set_cons_zero, List.set_cons_succ])
  refine wpAnyH_ready (rs := [6]) (by kernel_rfl) (by simp) ?_; refine AllReadyH.cons rfl (fun K hK => ?_) AllReadyH.nil; go_simp; (go_at_call 33; refine (Saf.iSafe_any w17 aX_W aX_H aBase aR_Most aR_Window aP_At aP_Food _ _ _ _ aX_Cells_L aL_L aP_Crew_L aP_Past_L aR_Most_H.out aR_Window_H.out aP_Food_H.out (Ou6.out.sees) (Ou8.out.sees) (Ou9.out.sees) (Ou10.out.sees) (by have h9 := Saf.safe_len aX_W aX_H aX_Cells_L aBase aR_Most aR_Window aL_L aP_At aP_Food aP_Crew_L aP_Past_L; (try simp only [LawsBo.marksB_len, LawsI.marksI_len, LawsM.marksM_len, LawsP.marksP_len]); omega) (by have h9 := Saf.safe_len aX_W aX_H aX_Cells_L aBase aR_Most aR_Window aL_L aP_At aP_Food aP_Crew_L aP_Past_L; (try simp only [LawsBo.marksB_len, LawsI.marksI_len, LawsM.marksM_len, LawsP.marksP_len]); omega) (by have h9 := Saf.safe_len aX_W aX_H aX_Cells_L aBase aR_Most aR_Window aL_L aP_At aP_Food aP_Crew_L aP_Past_L; (try simp only [LawsBo.marksB_len, LawsI.marksI_len, LawsM.marksM_len, LawsP.marksP_len]); omega)).mono ?_; rintro e w18 ⟨u12, rfl, ho, hg⟩; have A_u12_u5 := Lib.hid (Rg.apart_lt ho.lt Ou5.out.lt (Nat.le_refl _)); have A_u12_u6 := Lib.hid (Rg.apart_lt ho.lt Ou6.out.lt (Nat.le_refl _)); have A_u12_u8 := Lib.hid (Rg.apart_lt ho.lt Ou8.out.lt (Nat.le_refl _)); have A_u12_u9 := Lib.hid (Rg.apart_lt ho.lt Ou9.out.lt (Nat.le_refl _)); have A_u12_u10 := Lib.hid (Rg.apart_lt ho.lt Ou10.out.lt (Nat.le_refl _)); have D_u12_P0 := Lib.hid (ho.off XP0.out.lt); have D_u12_P1 := Lib.hid (ho.off XP1.out.lt); have D_u12_P2 := Lib.hid (ho.off XP2.out.lt); have D_u12_B7 := Lib.hid (ho.off XB7.out.lt); have D_u12_B11 := Lib.hid (ho.off XB11.out.lt); have Ou12 := Lib.hid (ho.lower HB19.out.size); have HB20 := Lib.hid (HB19.out.grown hg HB19.out.size (fun _ h => by cases h)); clear HB19; have Ou5 := Lib.hid (Ou5.out.grown hg); have Ou6 := Lib.hid (Ou6.out.grown hg); have Ou8 := Lib.hid (Ou8.out.grown hg); have Ou9 := Lib.hid (Ou9.out.grown hg); have Ou10 := Lib.hid (Ou10.out.grown hg); have XP0 := Lib.hid (XP0.out.grown hg); have XP1 := Lib.hid (XP1.out.grown hg); have XP2 := Lib.hid (XP2.out.grown hg); have XB7 := Lib.hid (XB7.out.grown hg); have XB11 := Lib.hid (XB11.out.grown hg); clear ho hg)
  refine hK.out _ _ ?_ (fun hHeld => ?_)
  · exact ⟨XB7.out.cell 0, XB7.out.cell 1, XB7.out.cell 2, XP1.out.cell 0, XP1.out.cell 1, XB11.out.cell 0, XB11.out.cell 1, XB11.out.cell 2, XB11.out.cell 3⟩
  clear hK K
  (try simp only [Act.put, List.getElem_toArray, List.getElem_cons_succ, List.getElem_cons_zero, List.setIfInBounds_toArray, List.set_cons_zero, List.set_cons_succ])
  refine wpAnyH_take (i := 7) (v := ?_) rfl (by kernel_rfl) (by kernel_rfl) (by kernel_rfl) (fun _ _ _ h => h) (Or.inl ⟨by rfl, ?_⟩) (by assumption) ?_; rotate_left; (focus (intro wS hSw; (try dsimp only at hSw); go_simp <;> with_reducible rfl)); (try simp only [Act.put, List.getElem_toArray, List.getElem_cons_succ, List.getElem_cons_zero, List.setIfInBounds_toArray, List.set_cons_zero, List.set_cons_succ])
  refine wpAnyH_done (by kernel_rfl) ?_ _
  (try simp only [Act.put, List.getElem_toArray, List.getElem_cons_succ, List.getElem_cons_zero, List.setIfInBounds_toArray, List.set_cons_zero, List.set_cons_succ])
  try clear cP0_0
  have cP0_0 : World.cell? (w18) ⟨w.heap.size, 0, none⟩ = some (.int .i64 aX_W) := XP0.out.cell 0
  try clear cP0_1
  have cP0_1 : World.cell? (w18) ⟨w.heap.size, 1, none⟩ = some (.int .i64 aX_H) := XP0.out.cell 1
  try clear cP0_2
  have cP0_2 : World.cell? (w18) ⟨w.heap.size, 2, none⟩ = some (.slice aX_Cells_a aX_Cells_L.length aX_Cells_cap) := XP0.out.cell 2
  try clear cP1_0
  have cP1_0 : World.cell? (w18) ⟨w.heap.size + 1, 0, none⟩ = some (.int .i64 aR_Most) := XP1.out.cell 0
  try clear cP1_1
  have cP1_1 : World.cell? (w18) ⟨w.heap.size + 1, 1, none⟩ = some (.int .i64 aR_Window) := XP1.out.cell 1
  try clear cP2_0
  have cP2_0 : World.cell? (w18) ⟨w.heap.size + 1 + 1, 0, none⟩ = some (.int .i64 aP_At) := XP2.out.cell 0
  try clear cP2_1
  have cP2_1 : World.cell? (w18) ⟨w.heap.size + 1 + 1, 1, none⟩ = some (.int .i64 aP_Food) := XP2.out.cell 1
  try clear cP2_2
  have cP2_2 : World.cell? (w18) ⟨w.heap.size + 1 + 1, 2, none⟩ = some (.slice aP_Crew_a aP_Crew_L.length aP_Crew_cap) := XP2.out.cell 2
  try clear cP2_3
  have cP2_3 : World.cell? (w18) ⟨w.heap.size + 1 + 1, 3, none⟩ = some (.slice aP_Past_a aP_Past_L.length aP_Past_cap) := XP2.out.cell 3
  try clear cB7_0
  have cB7_0 : World.cell? (w18) ⟨w11.heap.size, 0, none⟩ = some (.int .i64 aX_W) := XB7.out.cell 0
  try clear cB7_1
  have cB7_1 : World.cell? (w18) ⟨w11.heap.size, 1, none⟩ = some (.int .i64 aX_H) := XB7.out.cell 1
  try clear cB7_2
  have cB7_2 : World.cell? (w18) ⟨w11.heap.size, 2, none⟩ = some (.slice u6_a u6_n u6_c) := XB7.out.cell 2
  try clear cB11_0
  have cB11_0 : World.cell? (w18) ⟨w14.heap.size, 0, none⟩ = some (.int .i64 aP_At) := XB11.out.cell 0
  try clear cB11_1
  have cB11_1 : World.cell? (w18) ⟨w14.heap.size, 1, none⟩ = some (.int .i64 aP_Food) := XB11.out.cell 1
  try clear cB11_2
  have cB11_2 : World.cell? (w18) ⟨w14.heap.size, 2, none⟩ = some (.slice u9_a u9_n u9_c) := XB11.out.cell 2
  try clear cB11_3
  have cB11_3 : World.cell? (w18) ⟨w14.heap.size, 3, none⟩ = some (.slice u10_a u10_n u10_c) := XB11.out.cell 3
  go_wp2_with fail
  refine (LawsI.eq_same w18 (u12) (u5) (Saf.safe aX_W aX_H aX_Cells_L aBase aR_Most aR_Window aL_L aP_At aP_Food aP_Crew_L aP_Past_L) (Ou12.out.sees) (Ou5.out.sees)).mono ?_
  rintro e w19 ⟨rfl, hg⟩
  have HB21 := Lib.hid (HB20.out.grown hg HB20.out.size (fun _ h => by cases h)); clear HB20
  have Ou5 := Lib.hid (Ou5.out.grown hg)
  have Ou6 := Lib.hid (Ou6.out.grown hg)
  have Ou8 := Lib.hid (Ou8.out.grown hg)
  have Ou9 := Lib.hid (Ou9.out.grown hg)
  have Ou10 := Lib.hid (Ou10.out.grown hg)
  have Ou12 := Lib.hid (Ou12.out.grown hg)
  have XP0 := Lib.hid (XP0.out.grown hg)
  have XP1 := Lib.hid (XP1.out.grown hg)
  have XP2 := Lib.hid (XP2.out.grown hg)
  have XB7 := Lib.hid (XB7.out.grown hg)
  have XB11 := Lib.hid (XB11.out.grown hg)
  clear hg
  try clear cP0_0
  have cP0_0 : World.cell? (w19) ⟨w.heap.size, 0, none⟩ = some (.int .i64 aX_W) := XP0.out.cell 0
  try clear cP0_1
  have cP0_1 : World.cell? (w19) ⟨w.heap.size, 1, none⟩ = some (.int .i64 aX_H) := XP0.out.cell 1
  try clear cP0_2
  have cP0_2 : World.cell? (w19) ⟨w.heap.size, 2, none⟩ = some (.slice aX_Cells_a aX_Cells_L.length aX_Cells_cap) := XP0.out.cell 2
  try clear cP1_0
  have cP1_0 : World.cell? (w19) ⟨w.heap.size + 1, 0, none⟩ = some (.int .i64 aR_Most) := XP1.out.cell 0
  try clear cP1_1
  have cP1_1 : World.cell? (w19) ⟨w.heap.size + 1, 1, none⟩ = some (.int .i64 aR_Window) := XP1.out.cell 1
  try clear cP2_0
  have cP2_0 : World.cell? (w19) ⟨w.heap.size + 1 + 1, 0, none⟩ = some (.int .i64 aP_At) := XP2.out.cell 0
  try clear cP2_1
  have cP2_1 : World.cell? (w19) ⟨w.heap.size + 1 + 1, 1, none⟩ = some (.int .i64 aP_Food) := XP2.out.cell 1
  try clear cP2_2
  have cP2_2 : World.cell? (w19) ⟨w.heap.size + 1 + 1, 2, none⟩ = some (.slice aP_Crew_a aP_Crew_L.length aP_Crew_cap) := XP2.out.cell 2
  try clear cP2_3
  have cP2_3 : World.cell? (w19) ⟨w.heap.size + 1 + 1, 3, none⟩ = some (.slice aP_Past_a aP_Past_L.length aP_Past_cap) := XP2.out.cell 3
  try clear cB7_0
  have cB7_0 : World.cell? (w19) ⟨w11.heap.size, 0, none⟩ = some (.int .i64 aX_W) := XB7.out.cell 0
  try clear cB7_1
  have cB7_1 : World.cell? (w19) ⟨w11.heap.size, 1, none⟩ = some (.int .i64 aX_H) := XB7.out.cell 1
  try clear cB7_2
  have cB7_2 : World.cell? (w19) ⟨w11.heap.size, 2, none⟩ = some (.slice u6_a u6_n u6_c) := XB7.out.cell 2
  try clear cB11_0
  have cB11_0 : World.cell? (w19) ⟨w14.heap.size, 0, none⟩ = some (.int .i64 aP_At) := XB11.out.cell 0
  try clear cB11_1
  have cB11_1 : World.cell? (w19) ⟨w14.heap.size, 1, none⟩ = some (.int .i64 aP_Food) := XB11.out.cell 1
  try clear cB11_2
  have cB11_2 : World.cell? (w19) ⟨w14.heap.size, 2, none⟩ = some (.slice u9_a u9_n u9_c) := XB11.out.cell 2
  try clear cB11_3
  have cB11_3 : World.cell? (w19) ⟨w14.heap.size, 3, none⟩ = some (.slice u10_a u10_n u10_c) := XB11.out.cell 3
  go_wp2_with fail
  have hgd := grown_drew (World.grownBy.refl w19 none)
  have HB22 := Lib.hid (HB21.out.grown hgd HB21.out.size (fun _ h => by cases h)); clear HB21
  have Ou5 := Lib.hid (Ou5.out.grown hgd)
  have Ou6 := Lib.hid (Ou6.out.grown hgd)
  have Ou8 := Lib.hid (Ou8.out.grown hgd)
  have Ou9 := Lib.hid (Ou9.out.grown hgd)
  have Ou10 := Lib.hid (Ou10.out.grown hgd)
  have Ou12 := Lib.hid (Ou12.out.grown hgd)
  have XP0 := Lib.hid (XP0.out.grown hgd)
  have XP1 := Lib.hid (XP1.out.grown hgd)
  have XP2 := Lib.hid (XP2.out.grown hgd)
  have XB7 := Lib.hid (XB7.out.grown hgd)
  have XB11 := Lib.hid (XB11.out.grown hgd)
  clear hgd
  try clear cB7_0
  have cB7_0 : World.cell? ((World.drew w19)) ⟨w11.heap.size, 0, none⟩ = some (.int .i64 aX_W) := XB7.out.cell 0
  try clear cB7_1
  have cB7_1 : World.cell? ((World.drew w19)) ⟨w11.heap.size, 1, none⟩ = some (.int .i64 aX_H) := XB7.out.cell 1
  try clear cB7_2
  have cB7_2 : World.cell? ((World.drew w19)) ⟨w11.heap.size, 2, none⟩ = some (.slice u6_a u6_n u6_c) := XB7.out.cell 2
  try clear cP0_0
  have cP0_0 : World.cell? ((World.drew w19)) ⟨w.heap.size, 0, none⟩ = some (.int .i64 aX_W) := XP0.out.cell 0
  try clear cP0_1
  have cP0_1 : World.cell? ((World.drew w19)) ⟨w.heap.size, 1, none⟩ = some (.int .i64 aX_H) := XP0.out.cell 1
  try clear cP0_2
  have cP0_2 : World.cell? ((World.drew w19)) ⟨w.heap.size, 2, none⟩ = some (.slice aX_Cells_a aX_Cells_L.length aX_Cells_cap) := XP0.out.cell 2
  refine wp_region_held_drew (S := fun w' => w'.cell? ⟨w11.heap.size, 0, none⟩ = some (.int .i64 aX_W) ∧ w'.cell? ⟨w11.heap.size, 1, none⟩ = some (.int .i64 aX_H) ∧ w'.cell? ⟨w11.heap.size, 2, none⟩ = some (.slice u6_a u6_n u6_c) ∧ w'.cell? ⟨w.heap.size, 0, none⟩ = some (.int .i64 aX_W) ∧ w'.cell? ⟨w.heap.size, 1, none⟩ = some (.int .i64 aX_H) ∧ w'.cell? ⟨w.heap.size, 2, none⟩ = some (.slice aX_Cells_a aX_Cells_L.length aX_Cells_cap)) (by kernel_rfl) ⟨cB7_0, cB7_1, cB7_2, cP0_0, cP0_1, cP0_2⟩ (fun hHeld => ?_)
  refine wpAnyH_take (i := 0) (v := ?_) rfl (by kernel_rfl) (by kernel_rfl) (by kernel_rfl) (fun _ _ _ h => h) (Or.inl ⟨by rfl, ?_⟩) (by assumption) ?_; rotate_left; (focus (intro wS hSw; (try dsimp only at hSw); go_simp <;> with_reducible rfl)); (try simp only [Act.put, List.getElem_toArray, List.getElem_cons_succ, List.getElem_cons_zero, List.setIfInBounds_toArray, List.set_cons_zero, List.set_cons_succ])
  refine wpAnyH_take (i := 1) (v := ?_) rfl (by kernel_rfl) (by kernel_rfl) (by kernel_rfl) (fun _ _ _ h => h) (Or.inl ⟨by rfl, ?_⟩) (by assumption) ?_; rotate_left; (focus (intro wS hSw; (try dsimp only at hSw); go_simp <;> with_reducible rfl)); (try simp only [Act.put, List.getElem_toArray, List.getElem_cons_succ, List.getElem_cons_zero, List.setIfInBounds_toArray, List.set_cons_zero, List.set_cons_succ])
  refine wpAnyH_ready (rs := [2]) (by kernel_rfl) (by simp) ?_; refine AllReadyH.cons rfl (fun K hK => ?_) AllReadyH.nil; go_simp; (go_at_call 24; refine (LandL.toLand_any (World.drew w19) aX_W aX_H _ _ (aX_Cells_S.out.below HB22.out) (by omega)).mono ?_; rintro e w21 ⟨u13, rfl, ho, hg⟩; have A_u13_u5 := Lib.hid (Rg.apart_lt ho.lt Ou5.out.lt (Nat.le_refl _)); have A_u13_u6 := Lib.hid (Rg.apart_lt ho.lt Ou6.out.lt (Nat.le_refl _)); have A_u13_u8 := Lib.hid (Rg.apart_lt ho.lt Ou8.out.lt (Nat.le_refl _)); have A_u13_u9 := Lib.hid (Rg.apart_lt ho.lt Ou9.out.lt (Nat.le_refl _)); have A_u13_u10 := Lib.hid (Rg.apart_lt ho.lt Ou10.out.lt (Nat.le_refl _)); have A_u13_u12 := Lib.hid (Rg.apart_lt ho.lt Ou12.out.lt (Nat.le_refl _)); have D_u13_P0 := Lib.hid (ho.off XP0.out.lt); have D_u13_P1 := Lib.hid (ho.off XP1.out.lt); have D_u13_P2 := Lib.hid (ho.off XP2.out.lt); have D_u13_B7 := Lib.hid (ho.off XB7.out.lt); have D_u13_B11 := Lib.hid (ho.off XB11.out.lt); have Ou13 := Lib.hid (ho.lower HB22.out.size); have HB23 := Lib.hid (HB22.out.grown hg HB22.out.size (fun _ h => by cases h)); clear HB22; have Ou5 := Lib.hid (Ou5.out.grown hg); have Ou6 := Lib.hid (Ou6.out.grown hg); have Ou8 := Lib.hid (Ou8.out.grown hg); have Ou9 := Lib.hid (Ou9.out.grown hg); have Ou10 := Lib.hid (Ou10.out.grown hg); have Ou12 := Lib.hid (Ou12.out.grown hg); have XP0 := Lib.hid (XP0.out.grown hg); have XP1 := Lib.hid (XP1.out.grown hg); have XP2 := Lib.hid (XP2.out.grown hg); have XB7 := Lib.hid (XB7.out.grown hg); have XB11 := Lib.hid (XB11.out.grown hg); clear ho hg)
  refine hK.out _ _ ?_ (fun hHeld => ?_)
  · exact ⟨XB7.out.cell 0, XB7.out.cell 1, XB7.out.cell 2, XP0.out.cell 0, XP0.out.cell 1, XP0.out.cell 2⟩
  clear hK K
  (try simp only [Act.put, List.getElem_toArray, List.getElem_cons_succ, List.getElem_cons_zero, List.setIfInBounds_toArray, List.set_cons_zero, List.set_cons_succ])
  refine wpAnyH_ready (rs := [3]) (by kernel_rfl) (by simp) ?_; refine AllReadyH.cons rfl (fun K hK => ?_) AllReadyH.nil; go_simp; (go_at_call 29; refine (LandL.eqLand_same w21 aX_W aX_H _ _ _ (Ou6.out.sees) (Ou13.out.sees)).mono ?_; rintro e w22 ⟨rfl, hg⟩; have HB24 := Lib.hid (HB23.out.grown hg HB23.out.size (fun _ h => by cases h)); clear HB23; have Ou5 := Lib.hid (Ou5.out.grown hg); have Ou6 := Lib.hid (Ou6.out.grown hg); have Ou8 := Lib.hid (Ou8.out.grown hg); have Ou9 := Lib.hid (Ou9.out.grown hg); have Ou10 := Lib.hid (Ou10.out.grown hg); have Ou12 := Lib.hid (Ou12.out.grown hg); have Ou13 := Lib.hid (Ou13.out.grown hg); have XP0 := Lib.hid (XP0.out.grown hg); have XP1 := Lib.hid (XP1.out.grown hg); have XP2 := Lib.hid (XP2.out.grown hg); have XB7 := Lib.hid (XB7.out.grown hg); have XB11 := Lib.hid (XB11.out.grown hg); clear hg)
  refine hK.out _ _ ?_ (fun hHeld => ?_)
  · exact ⟨XB7.out.cell 0, XB7.out.cell 1, XB7.out.cell 2, XP0.out.cell 0, XP0.out.cell 1, XP0.out.cell 2⟩
  clear hK K
  (try simp only [Act.put, List.getElem_toArray, List.getElem_cons_succ, List.getElem_cons_zero, List.setIfInBounds_toArray, List.set_cons_zero, List.set_cons_succ])
  refine wpAnyH_take (i := 4) (v := ?_) rfl (by kernel_rfl) (by kernel_rfl) (by kernel_rfl) (fun _ _ _ h => h) (Or.inl ⟨by rfl, ?_⟩) (by assumption) ?_; rotate_left; (focus (intro wS hSw; (try dsimp only at hSw); go_simp <;> with_reducible rfl)); (try simp only [Act.put, List.getElem_toArray, List.getElem_cons_succ, List.getElem_cons_zero, List.setIfInBounds_toArray, List.set_cons_zero, List.set_cons_succ])
  refine wpAnyH_done (by kernel_rfl) ?_ _
  (try simp only [Act.put, List.getElem_toArray, List.getElem_cons_succ, List.getElem_cons_zero, List.setIfInBounds_toArray, List.set_cons_zero, List.set_cons_succ])
  clear Ou13
  try clear cP0_0
  have cP0_0 : World.cell? (w22) ⟨w.heap.size, 0, none⟩ = some (.int .i64 aX_W) := XP0.out.cell 0
  try clear cP0_1
  have cP0_1 : World.cell? (w22) ⟨w.heap.size, 1, none⟩ = some (.int .i64 aX_H) := XP0.out.cell 1
  try clear cP0_2
  have cP0_2 : World.cell? (w22) ⟨w.heap.size, 2, none⟩ = some (.slice aX_Cells_a aX_Cells_L.length aX_Cells_cap) := XP0.out.cell 2
  try clear cP1_0
  have cP1_0 : World.cell? (w22) ⟨w.heap.size + 1, 0, none⟩ = some (.int .i64 aR_Most) := XP1.out.cell 0
  try clear cP1_1
  have cP1_1 : World.cell? (w22) ⟨w.heap.size + 1, 1, none⟩ = some (.int .i64 aR_Window) := XP1.out.cell 1
  try clear cP2_0
  have cP2_0 : World.cell? (w22) ⟨w.heap.size + 1 + 1, 0, none⟩ = some (.int .i64 aP_At) := XP2.out.cell 0
  try clear cP2_1
  have cP2_1 : World.cell? (w22) ⟨w.heap.size + 1 + 1, 1, none⟩ = some (.int .i64 aP_Food) := XP2.out.cell 1
  try clear cP2_2
  have cP2_2 : World.cell? (w22) ⟨w.heap.size + 1 + 1, 2, none⟩ = some (.slice aP_Crew_a aP_Crew_L.length aP_Crew_cap) := XP2.out.cell 2
  try clear cP2_3
  have cP2_3 : World.cell? (w22) ⟨w.heap.size + 1 + 1, 3, none⟩ = some (.slice aP_Past_a aP_Past_L.length aP_Past_cap) := XP2.out.cell 3
  try clear cB7_0
  have cB7_0 : World.cell? (w22) ⟨w11.heap.size, 0, none⟩ = some (.int .i64 aX_W) := XB7.out.cell 0
  try clear cB7_1
  have cB7_1 : World.cell? (w22) ⟨w11.heap.size, 1, none⟩ = some (.int .i64 aX_H) := XB7.out.cell 1
  try clear cB7_2
  have cB7_2 : World.cell? (w22) ⟨w11.heap.size, 2, none⟩ = some (.slice u6_a u6_n u6_c) := XB7.out.cell 2
  try clear cB11_0
  have cB11_0 : World.cell? (w22) ⟨w14.heap.size, 0, none⟩ = some (.int .i64 aP_At) := XB11.out.cell 0
  try clear cB11_1
  have cB11_1 : World.cell? (w22) ⟨w14.heap.size, 1, none⟩ = some (.int .i64 aP_Food) := XB11.out.cell 1
  try clear cB11_2
  have cB11_2 : World.cell? (w22) ⟨w14.heap.size, 2, none⟩ = some (.slice u9_a u9_n u9_c) := XB11.out.cell 2
  try clear cB11_3
  have cB11_3 : World.cell? (w22) ⟨w14.heap.size, 3, none⟩ = some (.slice u10_a u10_n u10_c) := XB11.out.cell 3
  go_wp2_with fail
  refine (LawsP.to_any w22 (.slice aL_a aL_L.length aL_cap) aL_L (aL_S.out.below HB24.out) (by have h9 := Saf.safe_len aX_W aX_H aX_Cells_L aBase aR_Most aR_Window aL_L aP_At aP_Food aP_Crew_L aP_Past_L; (try simp only [LawsBo.marksB_len, LawsI.marksI_len, LawsM.marksM_len, LawsP.marksP_len]); omega)).mono ?_
  rintro e w23 ⟨u14, rfl, ho, hg⟩
  have A_u14_u5 := Lib.hid (Rg.apart_lt ho.lt Ou5.out.lt (Nat.le_refl _))
  have A_u14_u6 := Lib.hid (Rg.apart_lt ho.lt Ou6.out.lt (Nat.le_refl _))
  have A_u14_u8 := Lib.hid (Rg.apart_lt ho.lt Ou8.out.lt (Nat.le_refl _))
  have A_u14_u9 := Lib.hid (Rg.apart_lt ho.lt Ou9.out.lt (Nat.le_refl _))
  have A_u14_u10 := Lib.hid (Rg.apart_lt ho.lt Ou10.out.lt (Nat.le_refl _))
  have A_u14_u12 := Lib.hid (Rg.apart_lt ho.lt Ou12.out.lt (Nat.le_refl _))
  have D_u14_P0 := Lib.hid (ho.off XP0.out.lt)
  have D_u14_P1 := Lib.hid (ho.off XP1.out.lt)
  have D_u14_P2 := Lib.hid (ho.off XP2.out.lt)
  have D_u14_B7 := Lib.hid (ho.off XB7.out.lt)
  have D_u14_B11 := Lib.hid (ho.off XB11.out.lt)
  have Ou14 := Lib.hid (ho.lower HB24.out.size)
  have HB25 := Lib.hid (HB24.out.grown hg HB24.out.size (fun _ h => by cases h)); clear HB24
  have Ou5 := Lib.hid (Ou5.out.grown hg)
  have Ou6 := Lib.hid (Ou6.out.grown hg)
  have Ou8 := Lib.hid (Ou8.out.grown hg)
  have Ou9 := Lib.hid (Ou9.out.grown hg)
  have Ou10 := Lib.hid (Ou10.out.grown hg)
  have Ou12 := Lib.hid (Ou12.out.grown hg)
  have XP0 := Lib.hid (XP0.out.grown hg)
  have XP1 := Lib.hid (XP1.out.grown hg)
  have XP2 := Lib.hid (XP2.out.grown hg)
  have XB7 := Lib.hid (XB7.out.grown hg)
  have XB11 := Lib.hid (XB11.out.grown hg)
  clear ho hg
  try clear cP0_0
  have cP0_0 : World.cell? (w23) ⟨w.heap.size, 0, none⟩ = some (.int .i64 aX_W) := XP0.out.cell 0
  try clear cP0_1
  have cP0_1 : World.cell? (w23) ⟨w.heap.size, 1, none⟩ = some (.int .i64 aX_H) := XP0.out.cell 1
  try clear cP0_2
  have cP0_2 : World.cell? (w23) ⟨w.heap.size, 2, none⟩ = some (.slice aX_Cells_a aX_Cells_L.length aX_Cells_cap) := XP0.out.cell 2
  try clear cP1_0
  have cP1_0 : World.cell? (w23) ⟨w.heap.size + 1, 0, none⟩ = some (.int .i64 aR_Most) := XP1.out.cell 0
  try clear cP1_1
  have cP1_1 : World.cell? (w23) ⟨w.heap.size + 1, 1, none⟩ = some (.int .i64 aR_Window) := XP1.out.cell 1
  try clear cP2_0
  have cP2_0 : World.cell? (w23) ⟨w.heap.size + 1 + 1, 0, none⟩ = some (.int .i64 aP_At) := XP2.out.cell 0
  try clear cP2_1
  have cP2_1 : World.cell? (w23) ⟨w.heap.size + 1 + 1, 1, none⟩ = some (.int .i64 aP_Food) := XP2.out.cell 1
  try clear cP2_2
  have cP2_2 : World.cell? (w23) ⟨w.heap.size + 1 + 1, 2, none⟩ = some (.slice aP_Crew_a aP_Crew_L.length aP_Crew_cap) := XP2.out.cell 2
  try clear cP2_3
  have cP2_3 : World.cell? (w23) ⟨w.heap.size + 1 + 1, 3, none⟩ = some (.slice aP_Past_a aP_Past_L.length aP_Past_cap) := XP2.out.cell 3
  try clear cB7_0
  have cB7_0 : World.cell? (w23) ⟨w11.heap.size, 0, none⟩ = some (.int .i64 aX_W) := XB7.out.cell 0
  try clear cB7_1
  have cB7_1 : World.cell? (w23) ⟨w11.heap.size, 1, none⟩ = some (.int .i64 aX_H) := XB7.out.cell 1
  try clear cB7_2
  have cB7_2 : World.cell? (w23) ⟨w11.heap.size, 2, none⟩ = some (.slice u6_a u6_n u6_c) := XB7.out.cell 2
  try clear cB11_0
  have cB11_0 : World.cell? (w23) ⟨w14.heap.size, 0, none⟩ = some (.int .i64 aP_At) := XB11.out.cell 0
  try clear cB11_1
  have cB11_1 : World.cell? (w23) ⟨w14.heap.size, 1, none⟩ = some (.int .i64 aP_Food) := XB11.out.cell 1
  try clear cB11_2
  have cB11_2 : World.cell? (w23) ⟨w14.heap.size, 2, none⟩ = some (.slice u9_a u9_n u9_c) := XB11.out.cell 2
  try clear cB11_3
  have cB11_3 : World.cell? (w23) ⟨w14.heap.size, 3, none⟩ = some (.slice u10_a u10_n u10_c) := XB11.out.cell 3
  go_wp2_with fail
  refine (LawsP.eq_same w23 (u8) (u14) aL_L (Ou8.out.sees) (Ou14.out.sees)).mono ?_
  rintro e w24 ⟨rfl, hg⟩
  have HB26 := Lib.hid (HB25.out.grown hg HB25.out.size (fun _ h => by cases h)); clear HB25
  have Ou5 := Lib.hid (Ou5.out.grown hg)
  have Ou6 := Lib.hid (Ou6.out.grown hg)
  have Ou8 := Lib.hid (Ou8.out.grown hg)
  have Ou9 := Lib.hid (Ou9.out.grown hg)
  have Ou10 := Lib.hid (Ou10.out.grown hg)
  have Ou12 := Lib.hid (Ou12.out.grown hg)
  have Ou14 := Lib.hid (Ou14.out.grown hg)
  have XP0 := Lib.hid (XP0.out.grown hg)
  have XP1 := Lib.hid (XP1.out.grown hg)
  have XP2 := Lib.hid (XP2.out.grown hg)
  have XB7 := Lib.hid (XB7.out.grown hg)
  have XB11 := Lib.hid (XB11.out.grown hg)
  clear hg
  clear Ou14
  try clear cP0_0
  have cP0_0 : World.cell? (w24) ⟨w.heap.size, 0, none⟩ = some (.int .i64 aX_W) := XP0.out.cell 0
  try clear cP0_1
  have cP0_1 : World.cell? (w24) ⟨w.heap.size, 1, none⟩ = some (.int .i64 aX_H) := XP0.out.cell 1
  try clear cP0_2
  have cP0_2 : World.cell? (w24) ⟨w.heap.size, 2, none⟩ = some (.slice aX_Cells_a aX_Cells_L.length aX_Cells_cap) := XP0.out.cell 2
  try clear cP1_0
  have cP1_0 : World.cell? (w24) ⟨w.heap.size + 1, 0, none⟩ = some (.int .i64 aR_Most) := XP1.out.cell 0
  try clear cP1_1
  have cP1_1 : World.cell? (w24) ⟨w.heap.size + 1, 1, none⟩ = some (.int .i64 aR_Window) := XP1.out.cell 1
  try clear cP2_0
  have cP2_0 : World.cell? (w24) ⟨w.heap.size + 1 + 1, 0, none⟩ = some (.int .i64 aP_At) := XP2.out.cell 0
  try clear cP2_1
  have cP2_1 : World.cell? (w24) ⟨w.heap.size + 1 + 1, 1, none⟩ = some (.int .i64 aP_Food) := XP2.out.cell 1
  try clear cP2_2
  have cP2_2 : World.cell? (w24) ⟨w.heap.size + 1 + 1, 2, none⟩ = some (.slice aP_Crew_a aP_Crew_L.length aP_Crew_cap) := XP2.out.cell 2
  try clear cP2_3
  have cP2_3 : World.cell? (w24) ⟨w.heap.size + 1 + 1, 3, none⟩ = some (.slice aP_Past_a aP_Past_L.length aP_Past_cap) := XP2.out.cell 3
  try clear cB7_0
  have cB7_0 : World.cell? (w24) ⟨w11.heap.size, 0, none⟩ = some (.int .i64 aX_W) := XB7.out.cell 0
  try clear cB7_1
  have cB7_1 : World.cell? (w24) ⟨w11.heap.size, 1, none⟩ = some (.int .i64 aX_H) := XB7.out.cell 1
  try clear cB7_2
  have cB7_2 : World.cell? (w24) ⟨w11.heap.size, 2, none⟩ = some (.slice u6_a u6_n u6_c) := XB7.out.cell 2
  try clear cB11_0
  have cB11_0 : World.cell? (w24) ⟨w14.heap.size, 0, none⟩ = some (.int .i64 aP_At) := XB11.out.cell 0
  try clear cB11_1
  have cB11_1 : World.cell? (w24) ⟨w14.heap.size, 1, none⟩ = some (.int .i64 aP_Food) := XB11.out.cell 1
  try clear cB11_2
  have cB11_2 : World.cell? (w24) ⟨w14.heap.size, 2, none⟩ = some (.slice u9_a u9_n u9_c) := XB11.out.cell 2
  try clear cB11_3
  have cB11_3 : World.cell? (w24) ⟨w14.heap.size, 3, none⟩ = some (.slice u10_a u10_n u10_c) := XB11.out.cell 3
  go_wp2_with fail
  have hgd := grown_drew (World.grownBy.refl w24 none)
  have HB27 := Lib.hid (HB26.out.grown hgd HB26.out.size (fun _ h => by cases h)); clear HB26
  have Ou5 := Lib.hid (Ou5.out.grown hgd)
  have Ou6 := Lib.hid (Ou6.out.grown hgd)
  have Ou8 := Lib.hid (Ou8.out.grown hgd)
  have Ou9 := Lib.hid (Ou9.out.grown hgd)
  have Ou10 := Lib.hid (Ou10.out.grown hgd)
  have Ou12 := Lib.hid (Ou12.out.grown hgd)
  have XP0 := Lib.hid (XP0.out.grown hgd)
  have XP1 := Lib.hid (XP1.out.grown hgd)
  have XP2 := Lib.hid (XP2.out.grown hgd)
  have XB7 := Lib.hid (XB7.out.grown hgd)
  have XB11 := Lib.hid (XB11.out.grown hgd)
  clear hgd
  try clear cB11_0
  have cB11_0 : World.cell? ((World.drew w24)) ⟨w14.heap.size, 0, none⟩ = some (.int .i64 aP_At) := XB11.out.cell 0
  try clear cB11_1
  have cB11_1 : World.cell? ((World.drew w24)) ⟨w14.heap.size, 1, none⟩ = some (.int .i64 aP_Food) := XB11.out.cell 1
  try clear cB11_2
  have cB11_2 : World.cell? ((World.drew w24)) ⟨w14.heap.size, 2, none⟩ = some (.slice u9_a u9_n u9_c) := XB11.out.cell 2
  try clear cB11_3
  have cB11_3 : World.cell? ((World.drew w24)) ⟨w14.heap.size, 3, none⟩ = some (.slice u10_a u10_n u10_c) := XB11.out.cell 3
  try clear cP2_0
  have cP2_0 : World.cell? ((World.drew w24)) ⟨w.heap.size + 1 + 1, 0, none⟩ = some (.int .i64 aP_At) := XP2.out.cell 0
  try clear cP2_1
  have cP2_1 : World.cell? ((World.drew w24)) ⟨w.heap.size + 1 + 1, 1, none⟩ = some (.int .i64 aP_Food) := XP2.out.cell 1
  try clear cP2_2
  have cP2_2 : World.cell? ((World.drew w24)) ⟨w.heap.size + 1 + 1, 2, none⟩ = some (.slice aP_Crew_a aP_Crew_L.length aP_Crew_cap) := XP2.out.cell 2
  try clear cP2_3
  have cP2_3 : World.cell? ((World.drew w24)) ⟨w.heap.size + 1 + 1, 3, none⟩ = some (.slice aP_Past_a aP_Past_L.length aP_Past_cap) := XP2.out.cell 3
  refine wp_region_held_drew (S := fun w' => w'.cell? ⟨w14.heap.size, 0, none⟩ = some (.int .i64 aP_At) ∧ w'.cell? ⟨w14.heap.size, 1, none⟩ = some (.int .i64 aP_Food) ∧ w'.cell? ⟨w14.heap.size, 2, none⟩ = some (.slice u9_a u9_n u9_c) ∧ w'.cell? ⟨w14.heap.size, 3, none⟩ = some (.slice u10_a u10_n u10_c) ∧ w'.cell? ⟨w.heap.size + 1 + 1, 0, none⟩ = some (.int .i64 aP_At) ∧ w'.cell? ⟨w.heap.size + 1 + 1, 1, none⟩ = some (.int .i64 aP_Food) ∧ w'.cell? ⟨w.heap.size + 1 + 1, 2, none⟩ = some (.slice aP_Crew_a aP_Crew_L.length aP_Crew_cap) ∧ w'.cell? ⟨w.heap.size + 1 + 1, 3, none⟩ = some (.slice aP_Past_a aP_Past_L.length aP_Past_cap)) (by kernel_rfl) ⟨cB11_0, cB11_1, cB11_2, cB11_3, cP2_0, cP2_1, cP2_2, cP2_3⟩ (fun hHeld => ?_)
  refine wpAnyH_take (i := 0) (v := ?_) rfl (by kernel_rfl) (by kernel_rfl) (by kernel_rfl) (fun _ _ _ h => h) (Or.inl ⟨by rfl, ?_⟩) (by assumption) ?_; rotate_left; (focus (intro wS hSw; (try dsimp only at hSw); go_simp <;> with_reducible rfl)); (try simp only [Act.put, List.getElem_toArray, List.getElem_cons_succ, List.getElem_cons_zero, List.setIfInBounds_toArray, List.set_cons_zero, List.set_cons_succ])
  refine wpAnyH_take (i := 1) (v := ?_) rfl (by kernel_rfl) (by kernel_rfl) (by kernel_rfl) (fun _ _ _ h => h) (Or.inl ⟨by rfl, ?_⟩) (by assumption) ?_; rotate_left; (focus (intro wS hSw; (try dsimp only at hSw); go_simp <;> with_reducible rfl)); (try simp only [Act.put, List.getElem_toArray, List.getElem_cons_succ, List.getElem_cons_zero, List.setIfInBounds_toArray, List.set_cons_zero, List.set_cons_succ])
  refine wpAnyH_ready (rs := [2]) (by kernel_rfl) (by simp) ?_; refine AllReadyH.cons rfl (fun K hK => ?_) AllReadyH.nil; go_simp; (go_at_call 27; refine (PartyL.toParty_any (World.drew w24) aP_At aP_Food _ _ _ _ (aP_Crew_S.out.below HB27.out) (aP_Past_S.out.below HB27.out) (by omega) (by omega)).mono ?_; rintro e w26 ⟨u15, u16, rfl, ho1, ho2, hap, hg⟩; have A_u15_u5 := Lib.hid (Rg.apart_lt ho1.lt Ou5.out.lt (Nat.le_refl _)); have A_u15_u6 := Lib.hid (Rg.apart_lt ho1.lt Ou6.out.lt (Nat.le_refl _)); have A_u15_u8 := Lib.hid (Rg.apart_lt ho1.lt Ou8.out.lt (Nat.le_refl _)); have A_u15_u9 := Lib.hid (Rg.apart_lt ho1.lt Ou9.out.lt (Nat.le_refl _)); have A_u15_u10 := Lib.hid (Rg.apart_lt ho1.lt Ou10.out.lt (Nat.le_refl _)); have A_u15_u12 := Lib.hid (Rg.apart_lt ho1.lt Ou12.out.lt (Nat.le_refl _)); have D_u15_P0 := Lib.hid (ho1.off XP0.out.lt); have D_u15_P1 := Lib.hid (ho1.off XP1.out.lt); have D_u15_P2 := Lib.hid (ho1.off XP2.out.lt); have D_u15_B7 := Lib.hid (ho1.off XB7.out.lt); have D_u15_B11 := Lib.hid (ho1.off XB11.out.lt); have Ou15 := Lib.hid (ho1.lower HB27.out.size); have A_u16_u5 := Lib.hid (Rg.apart_lt ho2.lt Ou5.out.lt (Nat.le_refl _)); have A_u16_u6 := Lib.hid (Rg.apart_lt ho2.lt Ou6.out.lt (Nat.le_refl _)); have A_u16_u8 := Lib.hid (Rg.apart_lt ho2.lt Ou8.out.lt (Nat.le_refl _)); have A_u16_u9 := Lib.hid (Rg.apart_lt ho2.lt Ou9.out.lt (Nat.le_refl _)); have A_u16_u10 := Lib.hid (Rg.apart_lt ho2.lt Ou10.out.lt (Nat.le_refl _)); have A_u16_u12 := Lib.hid (Rg.apart_lt ho2.lt Ou12.out.lt (Nat.le_refl _)); have D_u16_P0 := Lib.hid (ho2.off XP0.out.lt); have D_u16_P1 := Lib.hid (ho2.off XP1.out.lt); have D_u16_P2 := Lib.hid (ho2.off XP2.out.lt); have D_u16_B7 := Lib.hid (ho2.off XB7.out.lt); have D_u16_B11 := Lib.hid (ho2.off XB11.out.lt); have Ou16 := Lib.hid (ho2.lower HB27.out.size); have A_u16_u15 := Lib.hid hap; have HB28 := Lib.hid (HB27.out.grown hg HB27.out.size (fun _ h => by cases h)); clear HB27; have Ou5 := Lib.hid (Ou5.out.grown hg); have Ou6 := Lib.hid (Ou6.out.grown hg); have Ou8 := Lib.hid (Ou8.out.grown hg); have Ou9 := Lib.hid (Ou9.out.grown hg); have Ou10 := Lib.hid (Ou10.out.grown hg); have Ou12 := Lib.hid (Ou12.out.grown hg); have XP0 := Lib.hid (XP0.out.grown hg); have XP1 := Lib.hid (XP1.out.grown hg); have XP2 := Lib.hid (XP2.out.grown hg); have XB7 := Lib.hid (XB7.out.grown hg); have XB11 := Lib.hid (XB11.out.grown hg); clear ho1 ho2 hap hg)
  refine hK.out _ _ ?_ (fun hHeld => ?_)
  · exact ⟨XB11.out.cell 0, XB11.out.cell 1, XB11.out.cell 2, XB11.out.cell 3, XP2.out.cell 0, XP2.out.cell 1, XP2.out.cell 2, XP2.out.cell 3⟩
  clear hK K
  (try simp only [Act.put, List.getElem_toArray, List.getElem_cons_succ, List.getElem_cons_zero, List.setIfInBounds_toArray, List.set_cons_zero, List.set_cons_succ])
  refine wpAnyH_ready (rs := [3]) (by kernel_rfl) (by simp) ?_; refine AllReadyH.cons rfl (fun K hK => ?_) AllReadyH.nil; go_simp; (go_at_call 31; refine (PartyL.eqParty_same w26 aP_At aP_Food _ _ _ _ _ _ (Ou9.out.sees) (Ou10.out.sees) (Ou15.out.sees) (Ou16.out.sees)).mono ?_; rintro e w27 ⟨rfl, hg⟩; have HB29 := Lib.hid (HB28.out.grown hg HB28.out.size (fun _ h => by cases h)); clear HB28; have Ou5 := Lib.hid (Ou5.out.grown hg); have Ou6 := Lib.hid (Ou6.out.grown hg); have Ou8 := Lib.hid (Ou8.out.grown hg); have Ou9 := Lib.hid (Ou9.out.grown hg); have Ou10 := Lib.hid (Ou10.out.grown hg); have Ou12 := Lib.hid (Ou12.out.grown hg); have Ou15 := Lib.hid (Ou15.out.grown hg); have Ou16 := Lib.hid (Ou16.out.grown hg); have XP0 := Lib.hid (XP0.out.grown hg); have XP1 := Lib.hid (XP1.out.grown hg); have XP2 := Lib.hid (XP2.out.grown hg); have XB7 := Lib.hid (XB7.out.grown hg); have XB11 := Lib.hid (XB11.out.grown hg); clear hg)
  refine hK.out _ _ ?_ (fun hHeld => ?_)
  · exact ⟨XB11.out.cell 0, XB11.out.cell 1, XB11.out.cell 2, XB11.out.cell 3, XP2.out.cell 0, XP2.out.cell 1, XP2.out.cell 2, XP2.out.cell 3⟩
  clear hK K
  (try simp only [Act.put, List.getElem_toArray, List.getElem_cons_succ, List.getElem_cons_zero, List.setIfInBounds_toArray, List.set_cons_zero, List.set_cons_succ])
  refine wpAnyH_take (i := 4) (v := ?_) rfl (by kernel_rfl) (by kernel_rfl) (by kernel_rfl) (fun _ _ _ h => h) (Or.inl ⟨by rfl, ?_⟩) (by assumption) ?_; rotate_left; (focus (intro wS hSw; (try dsimp only at hSw); go_simp <;> with_reducible rfl)); (try simp only [Act.put, List.getElem_toArray, List.getElem_cons_succ, List.getElem_cons_zero, List.setIfInBounds_toArray, List.set_cons_zero, List.set_cons_succ])
  refine wpAnyH_done (by kernel_rfl) ?_ _
  (try simp only [Act.put, List.getElem_toArray, List.getElem_cons_succ, List.getElem_cons_zero, List.setIfInBounds_toArray, List.set_cons_zero, List.set_cons_succ])
  clear Ou15
  clear Ou16
  try clear cP0_0
  have cP0_0 : World.cell? (w27) ⟨w.heap.size, 0, none⟩ = some (.int .i64 aX_W) := XP0.out.cell 0
  try clear cP0_1
  have cP0_1 : World.cell? (w27) ⟨w.heap.size, 1, none⟩ = some (.int .i64 aX_H) := XP0.out.cell 1
  try clear cP0_2
  have cP0_2 : World.cell? (w27) ⟨w.heap.size, 2, none⟩ = some (.slice aX_Cells_a aX_Cells_L.length aX_Cells_cap) := XP0.out.cell 2
  try clear cP1_0
  have cP1_0 : World.cell? (w27) ⟨w.heap.size + 1, 0, none⟩ = some (.int .i64 aR_Most) := XP1.out.cell 0
  try clear cP1_1
  have cP1_1 : World.cell? (w27) ⟨w.heap.size + 1, 1, none⟩ = some (.int .i64 aR_Window) := XP1.out.cell 1
  try clear cP2_0
  have cP2_0 : World.cell? (w27) ⟨w.heap.size + 1 + 1, 0, none⟩ = some (.int .i64 aP_At) := XP2.out.cell 0
  try clear cP2_1
  have cP2_1 : World.cell? (w27) ⟨w.heap.size + 1 + 1, 1, none⟩ = some (.int .i64 aP_Food) := XP2.out.cell 1
  try clear cP2_2
  have cP2_2 : World.cell? (w27) ⟨w.heap.size + 1 + 1, 2, none⟩ = some (.slice aP_Crew_a aP_Crew_L.length aP_Crew_cap) := XP2.out.cell 2
  try clear cP2_3
  have cP2_3 : World.cell? (w27) ⟨w.heap.size + 1 + 1, 3, none⟩ = some (.slice aP_Past_a aP_Past_L.length aP_Past_cap) := XP2.out.cell 3
  try clear cB7_0
  have cB7_0 : World.cell? (w27) ⟨w11.heap.size, 0, none⟩ = some (.int .i64 aX_W) := XB7.out.cell 0
  try clear cB7_1
  have cB7_1 : World.cell? (w27) ⟨w11.heap.size, 1, none⟩ = some (.int .i64 aX_H) := XB7.out.cell 1
  try clear cB7_2
  have cB7_2 : World.cell? (w27) ⟨w11.heap.size, 2, none⟩ = some (.slice u6_a u6_n u6_c) := XB7.out.cell 2
  try clear cB11_0
  have cB11_0 : World.cell? (w27) ⟨w14.heap.size, 0, none⟩ = some (.int .i64 aP_At) := XB11.out.cell 0
  try clear cB11_1
  have cB11_1 : World.cell? (w27) ⟨w14.heap.size, 1, none⟩ = some (.int .i64 aP_Food) := XB11.out.cell 1
  try clear cB11_2
  have cB11_2 : World.cell? (w27) ⟨w14.heap.size, 2, none⟩ = some (.slice u9_a u9_n u9_c) := XB11.out.cell 2
  try clear cB11_3
  have cB11_3 : World.cell? (w27) ⟨w14.heap.size, 3, none⟩ = some (.slice u10_a u10_n u10_c) := XB11.out.cell 3
  go_wp2_with fail
  refine (LandL.markLand_any w27 w.heap.size aX_W aX_H _ aX_Cells_L (1) Ou6.out (by have h9 := Saf.safe_len aX_W aX_H aX_Cells_L aBase aR_Most aR_Window aL_L aP_At aP_Food aP_Crew_L aP_Past_L; (try simp only [LawsBo.marksB_len, LawsI.marksI_len, LawsM.marksM_len, LawsP.marksP_len]); omega)).mono ?_
  rintro e w28 ⟨rfl, ho, hg⟩
  have HB30 := Lib.hid (HB29.out.grown hg HB29.out.size (fun c hc => (Ou6.out.lt c hc).1)); clear HB29
  have Ou5 := Lib.hid (Ou5.out.kept hg (A_u6_u5.out.2))
  have Ou8 := Lib.hid (Ou8.out.kept hg (A_u8_u6.out.1))
  have Ou9 := Lib.hid (Ou9.out.kept hg (A_u9_u6.out.1))
  have Ou10 := Lib.hid (Ou10.out.kept hg (A_u10_u6.out.1))
  have Ou12 := Lib.hid (Ou12.out.kept hg (A_u12_u6.out.1))
  have XP0 := Lib.hid (XP0.out.kept hg D_u6_P0.out)
  have XP1 := Lib.hid (XP1.out.kept hg D_u6_P1.out)
  have XP2 := Lib.hid (XP2.out.kept hg D_u6_P2.out)
  have XB7 := Lib.hid (XB7.out.kept hg D_u6_B7.out)
  have XB11 := Lib.hid (XB11.out.kept hg D_u6_B11.out)
  have Ou6 := Lib.hid ho
  clear ho hg
  try clear cP0_0
  have cP0_0 : World.cell? (w28) ⟨w.heap.size, 0, none⟩ = some (.int .i64 aX_W) := XP0.out.cell 0
  try clear cP0_1
  have cP0_1 : World.cell? (w28) ⟨w.heap.size, 1, none⟩ = some (.int .i64 aX_H) := XP0.out.cell 1
  try clear cP0_2
  have cP0_2 : World.cell? (w28) ⟨w.heap.size, 2, none⟩ = some (.slice aX_Cells_a aX_Cells_L.length aX_Cells_cap) := XP0.out.cell 2
  try clear cP1_0
  have cP1_0 : World.cell? (w28) ⟨w.heap.size + 1, 0, none⟩ = some (.int .i64 aR_Most) := XP1.out.cell 0
  try clear cP1_1
  have cP1_1 : World.cell? (w28) ⟨w.heap.size + 1, 1, none⟩ = some (.int .i64 aR_Window) := XP1.out.cell 1
  try clear cP2_0
  have cP2_0 : World.cell? (w28) ⟨w.heap.size + 1 + 1, 0, none⟩ = some (.int .i64 aP_At) := XP2.out.cell 0
  try clear cP2_1
  have cP2_1 : World.cell? (w28) ⟨w.heap.size + 1 + 1, 1, none⟩ = some (.int .i64 aP_Food) := XP2.out.cell 1
  try clear cP2_2
  have cP2_2 : World.cell? (w28) ⟨w.heap.size + 1 + 1, 2, none⟩ = some (.slice aP_Crew_a aP_Crew_L.length aP_Crew_cap) := XP2.out.cell 2
  try clear cP2_3
  have cP2_3 : World.cell? (w28) ⟨w.heap.size + 1 + 1, 3, none⟩ = some (.slice aP_Past_a aP_Past_L.length aP_Past_cap) := XP2.out.cell 3
  try clear cB7_0
  have cB7_0 : World.cell? (w28) ⟨w11.heap.size, 0, none⟩ = some (.int .i64 aX_W) := XB7.out.cell 0
  try clear cB7_1
  have cB7_1 : World.cell? (w28) ⟨w11.heap.size, 1, none⟩ = some (.int .i64 aX_H) := XB7.out.cell 1
  try clear cB7_2
  have cB7_2 : World.cell? (w28) ⟨w11.heap.size, 2, none⟩ = some (.slice u6_a u6_n u6_c) := XB7.out.cell 2
  try clear cB11_0
  have cB11_0 : World.cell? (w28) ⟨w14.heap.size, 0, none⟩ = some (.int .i64 aP_At) := XB11.out.cell 0
  try clear cB11_1
  have cB11_1 : World.cell? (w28) ⟨w14.heap.size, 1, none⟩ = some (.int .i64 aP_Food) := XB11.out.cell 1
  try clear cB11_2
  have cB11_2 : World.cell? (w28) ⟨w14.heap.size, 2, none⟩ = some (.slice u9_a u9_n u9_c) := XB11.out.cell 2
  try clear cB11_3
  have cB11_3 : World.cell? (w28) ⟨w14.heap.size, 3, none⟩ = some (.slice u10_a u10_n u10_c) := XB11.out.cell 3
  go_wp2_with fail
  refine (LawsP.mark_any w28 w.heap.size (u8) aL_L (1 + (aX_Cells_L).length) Ou8.out (by have h9 := Saf.safe_len aX_W aX_H aX_Cells_L aBase aR_Most aR_Window aL_L aP_At aP_Food aP_Crew_L aP_Past_L; (try simp only [LawsBo.marksB_len, LawsI.marksI_len, LawsM.marksM_len, LawsP.marksP_len]); omega)).mono ?_
  rintro e w29 ⟨rfl, ho, hg⟩
  have HB31 := Lib.hid (HB30.out.grown hg HB30.out.size (fun c hc => (Ou8.out.lt c hc).1)); clear HB30
  have Ou5 := Lib.hid (Ou5.out.kept hg (A_u8_u5.out.2))
  have Ou6 := Lib.hid (Ou6.out.kept hg (A_u8_u6.out.2))
  have Ou9 := Lib.hid (Ou9.out.kept hg (A_u9_u8.out.1))
  have Ou10 := Lib.hid (Ou10.out.kept hg (A_u10_u8.out.1))
  have Ou12 := Lib.hid (Ou12.out.kept hg (A_u12_u8.out.1))
  have XP0 := Lib.hid (XP0.out.kept hg D_u8_P0.out)
  have XP1 := Lib.hid (XP1.out.kept hg D_u8_P1.out)
  have XP2 := Lib.hid (XP2.out.kept hg D_u8_P2.out)
  have XB7 := Lib.hid (XB7.out.kept hg D_u8_B7.out)
  have XB11 := Lib.hid (XB11.out.kept hg D_u8_B11.out)
  have Ou8 := Lib.hid ho
  clear ho hg
  try clear cP0_0
  have cP0_0 : World.cell? (w29) ⟨w.heap.size, 0, none⟩ = some (.int .i64 aX_W) := XP0.out.cell 0
  try clear cP0_1
  have cP0_1 : World.cell? (w29) ⟨w.heap.size, 1, none⟩ = some (.int .i64 aX_H) := XP0.out.cell 1
  try clear cP0_2
  have cP0_2 : World.cell? (w29) ⟨w.heap.size, 2, none⟩ = some (.slice aX_Cells_a aX_Cells_L.length aX_Cells_cap) := XP0.out.cell 2
  try clear cP1_0
  have cP1_0 : World.cell? (w29) ⟨w.heap.size + 1, 0, none⟩ = some (.int .i64 aR_Most) := XP1.out.cell 0
  try clear cP1_1
  have cP1_1 : World.cell? (w29) ⟨w.heap.size + 1, 1, none⟩ = some (.int .i64 aR_Window) := XP1.out.cell 1
  try clear cP2_0
  have cP2_0 : World.cell? (w29) ⟨w.heap.size + 1 + 1, 0, none⟩ = some (.int .i64 aP_At) := XP2.out.cell 0
  try clear cP2_1
  have cP2_1 : World.cell? (w29) ⟨w.heap.size + 1 + 1, 1, none⟩ = some (.int .i64 aP_Food) := XP2.out.cell 1
  try clear cP2_2
  have cP2_2 : World.cell? (w29) ⟨w.heap.size + 1 + 1, 2, none⟩ = some (.slice aP_Crew_a aP_Crew_L.length aP_Crew_cap) := XP2.out.cell 2
  try clear cP2_3
  have cP2_3 : World.cell? (w29) ⟨w.heap.size + 1 + 1, 3, none⟩ = some (.slice aP_Past_a aP_Past_L.length aP_Past_cap) := XP2.out.cell 3
  try clear cB7_0
  have cB7_0 : World.cell? (w29) ⟨w11.heap.size, 0, none⟩ = some (.int .i64 aX_W) := XB7.out.cell 0
  try clear cB7_1
  have cB7_1 : World.cell? (w29) ⟨w11.heap.size, 1, none⟩ = some (.int .i64 aX_H) := XB7.out.cell 1
  try clear cB7_2
  have cB7_2 : World.cell? (w29) ⟨w11.heap.size, 2, none⟩ = some (.slice u6_a u6_n u6_c) := XB7.out.cell 2
  try clear cB11_0
  have cB11_0 : World.cell? (w29) ⟨w14.heap.size, 0, none⟩ = some (.int .i64 aP_At) := XB11.out.cell 0
  try clear cB11_1
  have cB11_1 : World.cell? (w29) ⟨w14.heap.size, 1, none⟩ = some (.int .i64 aP_Food) := XB11.out.cell 1
  try clear cB11_2
  have cB11_2 : World.cell? (w29) ⟨w14.heap.size, 2, none⟩ = some (.slice u9_a u9_n u9_c) := XB11.out.cell 2
  try clear cB11_3
  have cB11_3 : World.cell? (w29) ⟨w14.heap.size, 3, none⟩ = some (.slice u10_a u10_n u10_c) := XB11.out.cell 3
  go_wp2_with fail
  refine (PartyL.markParty_any w29 w.heap.size aP_At aP_Food _ _ aP_Crew_L aP_Past_L (1 + (aX_Cells_L).length + 2 * (aL_L).length) Ou9.out Ou10.out A_u10_u9.out (by have h9 := Saf.safe_len aX_W aX_H aX_Cells_L aBase aR_Most aR_Window aL_L aP_At aP_Food aP_Crew_L aP_Past_L; (try simp only [LawsBo.marksB_len, LawsI.marksI_len, LawsM.marksM_len, LawsP.marksP_len]); omega)).mono ?_
  rintro e w30 ⟨rfl, ho1, ho2, wm1, hg1, hg2⟩
  have HB32 := Lib.hid (HB31.out.grown hg1 HB31.out.size (fun c hc => (Ou9.out.lt c hc).1)); clear HB31
  have Ou5 := Lib.hid (Ou5.out.kept hg1 (A_u9_u5.out.2))
  have Ou6 := Lib.hid (Ou6.out.kept hg1 (A_u9_u6.out.2))
  have Ou8 := Lib.hid (Ou8.out.kept hg1 (A_u9_u8.out.2))
  have Ou12 := Lib.hid (Ou12.out.kept hg1 (A_u12_u9.out.1))
  have XP0 := Lib.hid (XP0.out.kept hg1 D_u9_P0.out)
  have XP1 := Lib.hid (XP1.out.kept hg1 D_u9_P1.out)
  have XP2 := Lib.hid (XP2.out.kept hg1 D_u9_P2.out)
  have XB7 := Lib.hid (XB7.out.kept hg1 D_u9_B7.out)
  have XB11 := Lib.hid (XB11.out.kept hg1 D_u9_B11.out)
  have HB33 := Lib.hid (HB32.out.grown hg2 HB32.out.size (fun c hc => (Ou10.out.lt c hc).1)); clear HB32
  have Ou5 := Lib.hid (Ou5.out.kept hg2 (A_u10_u5.out.2))
  have Ou6 := Lib.hid (Ou6.out.kept hg2 (A_u10_u6.out.2))
  have Ou8 := Lib.hid (Ou8.out.kept hg2 (A_u10_u8.out.2))
  have Ou12 := Lib.hid (Ou12.out.kept hg2 (A_u12_u10.out.1))
  have XP0 := Lib.hid (XP0.out.kept hg2 D_u10_P0.out)
  have XP1 := Lib.hid (XP1.out.kept hg2 D_u10_P1.out)
  have XP2 := Lib.hid (XP2.out.kept hg2 D_u10_P2.out)
  have XB7 := Lib.hid (XB7.out.kept hg2 D_u10_B7.out)
  have XB11 := Lib.hid (XB11.out.kept hg2 D_u10_B11.out)
  have Ou9 := Lib.hid ho1
  have Ou10 := Lib.hid ho2
  clear ho1 ho2 hg1 hg2
  try clear cP0_0
  have cP0_0 : World.cell? (w30) ⟨w.heap.size, 0, none⟩ = some (.int .i64 aX_W) := XP0.out.cell 0
  try clear cP0_1
  have cP0_1 : World.cell? (w30) ⟨w.heap.size, 1, none⟩ = some (.int .i64 aX_H) := XP0.out.cell 1
  try clear cP0_2
  have cP0_2 : World.cell? (w30) ⟨w.heap.size, 2, none⟩ = some (.slice aX_Cells_a aX_Cells_L.length aX_Cells_cap) := XP0.out.cell 2
  try clear cP1_0
  have cP1_0 : World.cell? (w30) ⟨w.heap.size + 1, 0, none⟩ = some (.int .i64 aR_Most) := XP1.out.cell 0
  try clear cP1_1
  have cP1_1 : World.cell? (w30) ⟨w.heap.size + 1, 1, none⟩ = some (.int .i64 aR_Window) := XP1.out.cell 1
  try clear cP2_0
  have cP2_0 : World.cell? (w30) ⟨w.heap.size + 1 + 1, 0, none⟩ = some (.int .i64 aP_At) := XP2.out.cell 0
  try clear cP2_1
  have cP2_1 : World.cell? (w30) ⟨w.heap.size + 1 + 1, 1, none⟩ = some (.int .i64 aP_Food) := XP2.out.cell 1
  try clear cP2_2
  have cP2_2 : World.cell? (w30) ⟨w.heap.size + 1 + 1, 2, none⟩ = some (.slice aP_Crew_a aP_Crew_L.length aP_Crew_cap) := XP2.out.cell 2
  try clear cP2_3
  have cP2_3 : World.cell? (w30) ⟨w.heap.size + 1 + 1, 3, none⟩ = some (.slice aP_Past_a aP_Past_L.length aP_Past_cap) := XP2.out.cell 3
  try clear cB7_0
  have cB7_0 : World.cell? (w30) ⟨w11.heap.size, 0, none⟩ = some (.int .i64 aX_W) := XB7.out.cell 0
  try clear cB7_1
  have cB7_1 : World.cell? (w30) ⟨w11.heap.size, 1, none⟩ = some (.int .i64 aX_H) := XB7.out.cell 1
  try clear cB7_2
  have cB7_2 : World.cell? (w30) ⟨w11.heap.size, 2, none⟩ = some (.slice u6_a u6_n u6_c) := XB7.out.cell 2
  try clear cB11_0
  have cB11_0 : World.cell? (w30) ⟨w14.heap.size, 0, none⟩ = some (.int .i64 aP_At) := XB11.out.cell 0
  try clear cB11_1
  have cB11_1 : World.cell? (w30) ⟨w14.heap.size, 1, none⟩ = some (.int .i64 aP_Food) := XB11.out.cell 1
  try clear cB11_2
  have cB11_2 : World.cell? (w30) ⟨w14.heap.size, 2, none⟩ = some (.slice u9_a u9_n u9_c) := XB11.out.cell 2
  try clear cB11_3
  have cB11_3 : World.cell? (w30) ⟨w14.heap.size, 3, none⟩ = some (.slice u10_a u10_n u10_c) := XB11.out.cell 3
  go_wp2_with fail
  refine (LawsI.eq_same w30 (u12) (u5) (Saf.safe aX_W aX_H aX_Cells_L aBase aR_Most aR_Window aL_L aP_At aP_Food aP_Crew_L aP_Past_L) (Ou12.out.sees) (Ou5.out.sees)).mono ?_
  rintro e w31 ⟨rfl, hg⟩
  have HB34 := Lib.hid (HB33.out.grown hg HB33.out.size (fun _ h => by cases h)); clear HB33
  have Ou5 := Lib.hid (Ou5.out.grown hg)
  have Ou6 := Lib.hid (Ou6.out.grown hg)
  have Ou8 := Lib.hid (Ou8.out.grown hg)
  have Ou9 := Lib.hid (Ou9.out.grown hg)
  have Ou10 := Lib.hid (Ou10.out.grown hg)
  have Ou12 := Lib.hid (Ou12.out.grown hg)
  have XP0 := Lib.hid (XP0.out.grown hg)
  have XP1 := Lib.hid (XP1.out.grown hg)
  have XP2 := Lib.hid (XP2.out.grown hg)
  have XB7 := Lib.hid (XB7.out.grown hg)
  have XB11 := Lib.hid (XB11.out.grown hg)
  clear hg
  clear Ou6
  clear Ou8
  clear Ou9
  clear Ou10
  try clear cP0_0
  have cP0_0 : World.cell? (w31) ⟨w.heap.size, 0, none⟩ = some (.int .i64 aX_W) := XP0.out.cell 0
  try clear cP0_1
  have cP0_1 : World.cell? (w31) ⟨w.heap.size, 1, none⟩ = some (.int .i64 aX_H) := XP0.out.cell 1
  try clear cP0_2
  have cP0_2 : World.cell? (w31) ⟨w.heap.size, 2, none⟩ = some (.slice aX_Cells_a aX_Cells_L.length aX_Cells_cap) := XP0.out.cell 2
  try clear cP1_0
  have cP1_0 : World.cell? (w31) ⟨w.heap.size + 1, 0, none⟩ = some (.int .i64 aR_Most) := XP1.out.cell 0
  try clear cP1_1
  have cP1_1 : World.cell? (w31) ⟨w.heap.size + 1, 1, none⟩ = some (.int .i64 aR_Window) := XP1.out.cell 1
  try clear cP2_0
  have cP2_0 : World.cell? (w31) ⟨w.heap.size + 1 + 1, 0, none⟩ = some (.int .i64 aP_At) := XP2.out.cell 0
  try clear cP2_1
  have cP2_1 : World.cell? (w31) ⟨w.heap.size + 1 + 1, 1, none⟩ = some (.int .i64 aP_Food) := XP2.out.cell 1
  try clear cP2_2
  have cP2_2 : World.cell? (w31) ⟨w.heap.size + 1 + 1, 2, none⟩ = some (.slice aP_Crew_a aP_Crew_L.length aP_Crew_cap) := XP2.out.cell 2
  try clear cP2_3
  have cP2_3 : World.cell? (w31) ⟨w.heap.size + 1 + 1, 3, none⟩ = some (.slice aP_Past_a aP_Past_L.length aP_Past_cap) := XP2.out.cell 3
  try clear cB7_0
  have cB7_0 : World.cell? (w31) ⟨w11.heap.size, 0, none⟩ = some (.int .i64 aX_W) := XB7.out.cell 0
  try clear cB7_1
  have cB7_1 : World.cell? (w31) ⟨w11.heap.size, 1, none⟩ = some (.int .i64 aX_H) := XB7.out.cell 1
  try clear cB7_2
  have cB7_2 : World.cell? (w31) ⟨w11.heap.size, 2, none⟩ = some (.slice u6_a u6_n u6_c) := XB7.out.cell 2
  try clear cB11_0
  have cB11_0 : World.cell? (w31) ⟨w14.heap.size, 0, none⟩ = some (.int .i64 aP_At) := XB11.out.cell 0
  try clear cB11_1
  have cB11_1 : World.cell? (w31) ⟨w14.heap.size, 1, none⟩ = some (.int .i64 aP_Food) := XB11.out.cell 1
  try clear cB11_2
  have cB11_2 : World.cell? (w31) ⟨w14.heap.size, 2, none⟩ = some (.slice u9_a u9_n u9_c) := XB11.out.cell 2
  try clear cB11_3
  have cB11_3 : World.cell? (w31) ⟨w14.heap.size, 3, none⟩ = some (.slice u10_a u10_n u10_c) := XB11.out.cell 3
  go_wp2_with fail
  refine (LawsI.mark_any w31 w.heap.size (u12) (Saf.safe aX_W aX_H aX_Cells_L aBase aR_Most aR_Window aL_L aP_At aP_Food aP_Crew_L aP_Past_L) (1) Ou12.out (by have h9 := Saf.safe_len aX_W aX_H aX_Cells_L aBase aR_Most aR_Window aL_L aP_At aP_Food aP_Crew_L aP_Past_L; (try simp only [LawsBo.marksB_len, LawsI.marksI_len, LawsM.marksM_len, LawsP.marksP_len]); omega)).mono ?_
  rintro e w32 ⟨rfl, ho, hg⟩
  have HB35 := Lib.hid (HB34.out.grown hg HB34.out.size (fun c hc => (Ou12.out.lt c hc).1)); clear HB34
  have Ou5 := Lib.hid (Ou5.out.kept hg (A_u12_u5.out.2))
  have XP0 := Lib.hid (XP0.out.kept hg D_u12_P0.out)
  have XP1 := Lib.hid (XP1.out.kept hg D_u12_P1.out)
  have XP2 := Lib.hid (XP2.out.kept hg D_u12_P2.out)
  have XB7 := Lib.hid (XB7.out.kept hg D_u12_B7.out)
  have XB11 := Lib.hid (XB11.out.kept hg D_u12_B11.out)
  have Ou12 := Lib.hid ho
  clear ho hg
  try clear cP0_0
  have cP0_0 : World.cell? (w32) ⟨w.heap.size, 0, none⟩ = some (.int .i64 aX_W) := XP0.out.cell 0
  try clear cP0_1
  have cP0_1 : World.cell? (w32) ⟨w.heap.size, 1, none⟩ = some (.int .i64 aX_H) := XP0.out.cell 1
  try clear cP0_2
  have cP0_2 : World.cell? (w32) ⟨w.heap.size, 2, none⟩ = some (.slice aX_Cells_a aX_Cells_L.length aX_Cells_cap) := XP0.out.cell 2
  try clear cP1_0
  have cP1_0 : World.cell? (w32) ⟨w.heap.size + 1, 0, none⟩ = some (.int .i64 aR_Most) := XP1.out.cell 0
  try clear cP1_1
  have cP1_1 : World.cell? (w32) ⟨w.heap.size + 1, 1, none⟩ = some (.int .i64 aR_Window) := XP1.out.cell 1
  try clear cP2_0
  have cP2_0 : World.cell? (w32) ⟨w.heap.size + 1 + 1, 0, none⟩ = some (.int .i64 aP_At) := XP2.out.cell 0
  try clear cP2_1
  have cP2_1 : World.cell? (w32) ⟨w.heap.size + 1 + 1, 1, none⟩ = some (.int .i64 aP_Food) := XP2.out.cell 1
  try clear cP2_2
  have cP2_2 : World.cell? (w32) ⟨w.heap.size + 1 + 1, 2, none⟩ = some (.slice aP_Crew_a aP_Crew_L.length aP_Crew_cap) := XP2.out.cell 2
  try clear cP2_3
  have cP2_3 : World.cell? (w32) ⟨w.heap.size + 1 + 1, 3, none⟩ = some (.slice aP_Past_a aP_Past_L.length aP_Past_cap) := XP2.out.cell 3
  try clear cB7_0
  have cB7_0 : World.cell? (w32) ⟨w11.heap.size, 0, none⟩ = some (.int .i64 aX_W) := XB7.out.cell 0
  try clear cB7_1
  have cB7_1 : World.cell? (w32) ⟨w11.heap.size, 1, none⟩ = some (.int .i64 aX_H) := XB7.out.cell 1
  try clear cB7_2
  have cB7_2 : World.cell? (w32) ⟨w11.heap.size, 2, none⟩ = some (.slice u6_a u6_n u6_c) := XB7.out.cell 2
  try clear cB11_0
  have cB11_0 : World.cell? (w32) ⟨w14.heap.size, 0, none⟩ = some (.int .i64 aP_At) := XB11.out.cell 0
  try clear cB11_1
  have cB11_1 : World.cell? (w32) ⟨w14.heap.size, 1, none⟩ = some (.int .i64 aP_Food) := XB11.out.cell 1
  try clear cB11_2
  have cB11_2 : World.cell? (w32) ⟨w14.heap.size, 2, none⟩ = some (.slice u9_a u9_n u9_c) := XB11.out.cell 2
  try clear cB11_3
  have cB11_3 : World.cell? (w32) ⟨w14.heap.size, 3, none⟩ = some (.slice u10_a u10_n u10_c) := XB11.out.cell 3
  go_wp2_with fail
  refine (LawsI.held_any w32 (u12) (1) ((Saf.safe aX_W aX_H aX_Cells_L aBase aR_Most aR_Window aL_L aP_At aP_Food aP_Crew_L aP_Past_L)).length (Ou12.out.sees) (by have h9 := Saf.safe_len aX_W aX_H aX_Cells_L aBase aR_Most aR_Window aL_L aP_At aP_Food aP_Crew_L aP_Past_L; (try simp only [LawsBo.marksB_len, LawsI.marksI_len, LawsM.marksM_len, LawsP.marksP_len]); omega)).mono ?_
  rintro e w33 ⟨rfl, hg⟩
  have HB36 := Lib.hid (HB35.out.grown hg HB35.out.size (fun _ h => by cases h)); clear HB35
  have Ou5 := Lib.hid (Ou5.out.grown hg)
  have Ou12 := Lib.hid (Ou12.out.grown hg)
  have XP0 := Lib.hid (XP0.out.grown hg)
  have XP1 := Lib.hid (XP1.out.grown hg)
  have XP2 := Lib.hid (XP2.out.grown hg)
  have XB7 := Lib.hid (XB7.out.grown hg)
  have XB11 := Lib.hid (XB11.out.grown hg)
  clear hg
  try clear cP0_0
  have cP0_0 : World.cell? (w33) ⟨w.heap.size, 0, none⟩ = some (.int .i64 aX_W) := XP0.out.cell 0
  try clear cP0_1
  have cP0_1 : World.cell? (w33) ⟨w.heap.size, 1, none⟩ = some (.int .i64 aX_H) := XP0.out.cell 1
  try clear cP0_2
  have cP0_2 : World.cell? (w33) ⟨w.heap.size, 2, none⟩ = some (.slice aX_Cells_a aX_Cells_L.length aX_Cells_cap) := XP0.out.cell 2
  try clear cP1_0
  have cP1_0 : World.cell? (w33) ⟨w.heap.size + 1, 0, none⟩ = some (.int .i64 aR_Most) := XP1.out.cell 0
  try clear cP1_1
  have cP1_1 : World.cell? (w33) ⟨w.heap.size + 1, 1, none⟩ = some (.int .i64 aR_Window) := XP1.out.cell 1
  try clear cP2_0
  have cP2_0 : World.cell? (w33) ⟨w.heap.size + 1 + 1, 0, none⟩ = some (.int .i64 aP_At) := XP2.out.cell 0
  try clear cP2_1
  have cP2_1 : World.cell? (w33) ⟨w.heap.size + 1 + 1, 1, none⟩ = some (.int .i64 aP_Food) := XP2.out.cell 1
  try clear cP2_2
  have cP2_2 : World.cell? (w33) ⟨w.heap.size + 1 + 1, 2, none⟩ = some (.slice aP_Crew_a aP_Crew_L.length aP_Crew_cap) := XP2.out.cell 2
  try clear cP2_3
  have cP2_3 : World.cell? (w33) ⟨w.heap.size + 1 + 1, 3, none⟩ = some (.slice aP_Past_a aP_Past_L.length aP_Past_cap) := XP2.out.cell 3
  try clear cB7_0
  have cB7_0 : World.cell? (w33) ⟨w11.heap.size, 0, none⟩ = some (.int .i64 aX_W) := XB7.out.cell 0
  try clear cB7_1
  have cB7_1 : World.cell? (w33) ⟨w11.heap.size, 1, none⟩ = some (.int .i64 aX_H) := XB7.out.cell 1
  try clear cB7_2
  have cB7_2 : World.cell? (w33) ⟨w11.heap.size, 2, none⟩ = some (.slice u6_a u6_n u6_c) := XB7.out.cell 2
  try clear cB11_0
  have cB11_0 : World.cell? (w33) ⟨w14.heap.size, 0, none⟩ = some (.int .i64 aP_At) := XB11.out.cell 0
  try clear cB11_1
  have cB11_1 : World.cell? (w33) ⟨w14.heap.size, 1, none⟩ = some (.int .i64 aP_Food) := XB11.out.cell 1
  try clear cB11_2
  have cB11_2 : World.cell? (w33) ⟨w14.heap.size, 2, none⟩ = some (.slice u9_a u9_n u9_c) := XB11.out.cell 2
  try clear cB11_3
  have cB11_3 : World.cell? (w33) ⟨w14.heap.size, 3, none⟩ = some (.slice u10_a u10_n u10_c) := XB11.out.cell 3
  go_wp2_with fail
  have hgd := grown_drew (World.grownBy.refl w33 none)
  have HB37 := Lib.hid (HB36.out.grown hgd HB36.out.size (fun _ h => by cases h)); clear HB36
  have Ou5 := Lib.hid (Ou5.out.grown hgd)
  have Ou12 := Lib.hid (Ou12.out.grown hgd)
  have XP0 := Lib.hid (XP0.out.grown hgd)
  have XP1 := Lib.hid (XP1.out.grown hgd)
  have XP2 := Lib.hid (XP2.out.grown hgd)
  have XB7 := Lib.hid (XB7.out.grown hgd)
  have XB11 := Lib.hid (XB11.out.grown hgd)
  clear hgd
  try clear cP0_0
  have cP0_0 : World.cell? ((World.drew w33)) ⟨w.heap.size, 0, none⟩ = some (.int .i64 aX_W) := XP0.out.cell 0
  try clear cP0_1
  have cP0_1 : World.cell? ((World.drew w33)) ⟨w.heap.size, 1, none⟩ = some (.int .i64 aX_H) := XP0.out.cell 1
  try clear cP0_2
  have cP0_2 : World.cell? ((World.drew w33)) ⟨w.heap.size, 2, none⟩ = some (.slice aX_Cells_a aX_Cells_L.length aX_Cells_cap) := XP0.out.cell 2
  try clear cP1_0
  have cP1_0 : World.cell? ((World.drew w33)) ⟨w.heap.size + 1, 0, none⟩ = some (.int .i64 aR_Most) := XP1.out.cell 0
  try clear cP1_1
  have cP1_1 : World.cell? ((World.drew w33)) ⟨w.heap.size + 1, 1, none⟩ = some (.int .i64 aR_Window) := XP1.out.cell 1
  try clear cP2_0
  have cP2_0 : World.cell? ((World.drew w33)) ⟨w.heap.size + 1 + 1, 0, none⟩ = some (.int .i64 aP_At) := XP2.out.cell 0
  try clear cP2_1
  have cP2_1 : World.cell? ((World.drew w33)) ⟨w.heap.size + 1 + 1, 1, none⟩ = some (.int .i64 aP_Food) := XP2.out.cell 1
  try clear cP2_2
  have cP2_2 : World.cell? ((World.drew w33)) ⟨w.heap.size + 1 + 1, 2, none⟩ = some (.slice aP_Crew_a aP_Crew_L.length aP_Crew_cap) := XP2.out.cell 2
  try clear cP2_3
  have cP2_3 : World.cell? ((World.drew w33)) ⟨w.heap.size + 1 + 1, 3, none⟩ = some (.slice aP_Past_a aP_Past_L.length aP_Past_cap) := XP2.out.cell 3
  refine wp_region_held_drew (S := fun w' => w'.cell? ⟨w.heap.size, 0, none⟩ = some (.int .i64 aX_W) ∧ w'.cell? ⟨w.heap.size, 1, none⟩ = some (.int .i64 aX_H) ∧ w'.cell? ⟨w.heap.size, 2, none⟩ = some (.slice aX_Cells_a aX_Cells_L.length aX_Cells_cap) ∧ w'.cell? ⟨w.heap.size + 1, 0, none⟩ = some (.int .i64 aR_Most) ∧ w'.cell? ⟨w.heap.size + 1, 1, none⟩ = some (.int .i64 aR_Window) ∧ w'.cell? ⟨w.heap.size + 1 + 1, 0, none⟩ = some (.int .i64 aP_At) ∧ w'.cell? ⟨w.heap.size + 1 + 1, 1, none⟩ = some (.int .i64 aP_Food) ∧ w'.cell? ⟨w.heap.size + 1 + 1, 2, none⟩ = some (.slice aP_Crew_a aP_Crew_L.length aP_Crew_cap) ∧ w'.cell? ⟨w.heap.size + 1 + 1, 3, none⟩ = some (.slice aP_Past_a aP_Past_L.length aP_Past_cap)) (by kernel_rfl) ⟨cP0_0, cP0_1, cP0_2, cP1_0, cP1_1, cP2_0, cP2_1, cP2_2, cP2_3⟩ (fun hHeld => ?_)
  refine wpAnyH_take (i := 0) (v := ?_) rfl (by kernel_rfl) (by kernel_rfl) (by kernel_rfl) (fun _ _ _ h => h) (Or.inl ⟨by rfl, ?_⟩) (by assumption) ?_; rotate_left; (focus (intro wS hSw; (try dsimp only at hSw); go_simp <;> with_reducible rfl)); (try simp only [Act.put, List.getElem_toArray, List.getElem_cons_succ, List.getElem_cons_zero, List.setIfInBounds_toArray, List.set_cons_zero, List.set_cons_succ])
  refine wpAnyH_take (i := 2) (v := ?_) rfl (by kernel_rfl) (by kernel_rfl) (by kernel_rfl) (fun _ _ _ h => h) (Or.inl ⟨by rfl, ?_⟩) (by assumption) ?_; rotate_left; (focus (intro wS hSw; (try dsimp only at hSw); go_simp <;> with_reducible rfl)); (try simp only [Act.put, List.getElem_toArray, List.getElem_cons_succ, List.getElem_cons_zero, List.setIfInBounds_toArray, List.set_cons_zero, List.set_cons_succ])
  refine wpAnyH_take (i := 3) (v := ?_) rfl (by kernel_rfl) (by kernel_rfl) (by kernel_rfl) (fun _ _ _ h => h) (Or.inl ⟨by rfl, ?_⟩) (by assumption) ?_; rotate_left; (focus (intro wS hSw; (try dsimp only at hSw); go_simp <;> with_reducible rfl)); (try simp only [Act.put, List.getElem_toArray, List.getElem_cons_succ, List.getElem_cons_zero, List.setIfInBounds_toArray, List.set_cons_zero, List.set_cons_succ])
  refine wpAnyH_take (i := 5) (v := ?_) rfl (by kernel_rfl) (by kernel_rfl) (by kernel_rfl) (fun _ _ _ h => h) (Or.inl ⟨by rfl, ?_⟩) (by assumption) ?_; rotate_left; (focus (intro wS hSw; (try dsimp only at hSw); go_simp <;> with_reducible rfl)); (try simp only [Act.put, List.getElem_toArray, List.getElem_cons_succ, List.getElem_cons_zero, List.setIfInBounds_toArray, List.set_cons_zero, List.set_cons_succ])
  refine wpAnyH_take (i := 7) (v := ?_) rfl (by kernel_rfl) (by kernel_rfl) (by kernel_rfl) (fun _ _ _ h => h) (Or.inl ⟨by rfl, ?_⟩) (by assumption) ?_; rotate_left; (focus (intro wS hSw; (try dsimp only at hSw); go_simp <;> with_reducible rfl)); (try simp only [Act.put, List.getElem_toArray, List.getElem_cons_succ, List.getElem_cons_zero, List.setIfInBounds_toArray, List.set_cons_zero, List.set_cons_succ])
  refine wpAnyH_ready (rs := [1]) (by kernel_rfl) (by simp) ?_; refine AllReadyH.cons rfl (fun K hK => ?_) AllReadyH.nil; go_simp; (go_at_call 24; refine (LandL.toLand_any (World.drew w33) aX_W aX_H _ _ (aX_Cells_S.out.below HB37.out) (by omega)).mono ?_; rintro e w35 ⟨u17, rfl, ho, hg⟩; have A_u17_u5 := Lib.hid (Rg.apart_lt ho.lt Ou5.out.lt (Nat.le_refl _)); have A_u17_u12 := Lib.hid (Rg.apart_lt ho.lt Ou12.out.lt (Nat.le_refl _)); have D_u17_P0 := Lib.hid (ho.off XP0.out.lt); have D_u17_P1 := Lib.hid (ho.off XP1.out.lt); have D_u17_P2 := Lib.hid (ho.off XP2.out.lt); have D_u17_B7 := Lib.hid (ho.off XB7.out.lt); have D_u17_B11 := Lib.hid (ho.off XB11.out.lt); have Ou17 := Lib.hid (ho.lower HB37.out.size); have HB38 := Lib.hid (HB37.out.grown hg HB37.out.size (fun _ h => by cases h)); clear HB37; have Ou5 := Lib.hid (Ou5.out.grown hg); have Ou12 := Lib.hid (Ou12.out.grown hg); have XP0 := Lib.hid (XP0.out.grown hg); have XP1 := Lib.hid (XP1.out.grown hg); have XP2 := Lib.hid (XP2.out.grown hg); have XB7 := Lib.hid (XB7.out.grown hg); have XB11 := Lib.hid (XB11.out.grown hg); clear ho hg)
  refine hK.out _ _ ?_ (fun hHeld => ?_)
  · exact ⟨XP0.out.cell 0, XP0.out.cell 1, XP0.out.cell 2, XP1.out.cell 0, XP1.out.cell 1, XP2.out.cell 0, XP2.out.cell 1, XP2.out.cell 2, XP2.out.cell 3⟩
  clear hK K
  (try simp only [Act.put, List.getElem_toArray, List.getElem_cons_succ, List.getElem_cons_zero, List.setIfInBounds_toArray, List.set_cons_zero, List.set_cons_succ])
  refine wpAnyH_ready (rs := [4]) (by kernel_rfl) (by simp) ?_; refine AllReadyH.cons rfl (fun K hK => ?_) AllReadyH.nil; go_simp; (go_at_call 25; refine (RuleL.toRule_any w35 aR_Most aR_Window).mono ?_; rintro e w36 ⟨rfl, hg⟩; have HB39 := Lib.hid (HB38.out.grown hg HB38.out.size (fun _ h => by cases h)); clear HB38; have Ou5 := Lib.hid (Ou5.out.grown hg); have Ou12 := Lib.hid (Ou12.out.grown hg); have Ou17 := Lib.hid (Ou17.out.grown hg); have XP0 := Lib.hid (XP0.out.grown hg); have XP1 := Lib.hid (XP1.out.grown hg); have XP2 := Lib.hid (XP2.out.grown hg); have XB7 := Lib.hid (XB7.out.grown hg); have XB11 := Lib.hid (XB11.out.grown hg); clear hg)
  refine hK.out _ _ ?_ (fun hHeld => ?_)
  · exact ⟨XP0.out.cell 0, XP0.out.cell 1, XP0.out.cell 2, XP1.out.cell 0, XP1.out.cell 1, XP2.out.cell 0, XP2.out.cell 1, XP2.out.cell 2, XP2.out.cell 3⟩
  clear hK K
  (try simp only [Act.put, List.getElem_toArray, List.getElem_cons_succ, List.getElem_cons_zero, List.setIfInBounds_toArray, List.set_cons_zero, List.set_cons_succ])
  refine wpAnyH_ready (rs := [6]) (by kernel_rfl) (by simp) ?_; refine AllReadyH.cons rfl (fun K hK => ?_) AllReadyH.nil; go_simp; (go_at_call 26; refine (LawsP.to_any w36 (.slice aL_a aL_L.length aL_cap) aL_L (aL_S.out.below HB39.out) (by have h9 := Saf.safe_len aX_W aX_H aX_Cells_L aBase aR_Most aR_Window aL_L aP_At aP_Food aP_Crew_L aP_Past_L; (try simp only [LawsBo.marksB_len, LawsI.marksI_len, LawsM.marksM_len, LawsP.marksP_len]); omega)).mono ?_; rintro e w37 ⟨u18, rfl, ho, hg⟩; have A_u18_u5 := Lib.hid (Rg.apart_lt ho.lt Ou5.out.lt (Nat.le_refl _)); have A_u18_u12 := Lib.hid (Rg.apart_lt ho.lt Ou12.out.lt (Nat.le_refl _)); have A_u18_u17 := Lib.hid (Rg.apart_lt ho.lt Ou17.out.lt (Nat.le_refl _)); have D_u18_P0 := Lib.hid (ho.off XP0.out.lt); have D_u18_P1 := Lib.hid (ho.off XP1.out.lt); have D_u18_P2 := Lib.hid (ho.off XP2.out.lt); have D_u18_B7 := Lib.hid (ho.off XB7.out.lt); have D_u18_B11 := Lib.hid (ho.off XB11.out.lt); have Ou18 := Lib.hid (ho.lower HB39.out.size); have HB40 := Lib.hid (HB39.out.grown hg HB39.out.size (fun _ h => by cases h)); clear HB39; have Ou5 := Lib.hid (Ou5.out.grown hg); have Ou12 := Lib.hid (Ou12.out.grown hg); have Ou17 := Lib.hid (Ou17.out.grown hg); have XP0 := Lib.hid (XP0.out.grown hg); have XP1 := Lib.hid (XP1.out.grown hg); have XP2 := Lib.hid (XP2.out.grown hg); have XB7 := Lib.hid (XB7.out.grown hg); have XB11 := Lib.hid (XB11.out.grown hg); clear ho hg)
  refine hK.out _ _ ?_ (fun hHeld => ?_)
  · exact ⟨XP0.out.cell 0, XP0.out.cell 1, XP0.out.cell 2, XP1.out.cell 0, XP1.out.cell 1, XP2.out.cell 0, XP2.out.cell 1, XP2.out.cell 2, XP2.out.cell 3⟩
  clear hK K
  (try simp only [Act.put, List.getElem_toArray, List.getElem_cons_succ, List.getElem_cons_zero, List.setIfInBounds_toArray, List.set_cons_zero, List.set_cons_succ])
  refine wpAnyH_ready (rs := [8]) (by kernel_rfl) (by simp) ?_; refine AllReadyH.cons rfl (fun K hK => ?_) AllReadyH.nil; go_simp; (go_at_call 27; refine (PartyL.toParty_any w37 aP_At aP_Food _ _ _ _ (aP_Crew_S.out.below HB40.out) (aP_Past_S.out.below HB40.out) (by omega) (by omega)).mono ?_; rintro e w38 ⟨u19, u20, rfl, ho1, ho2, hap, hg⟩; have A_u19_u5 := Lib.hid (Rg.apart_lt ho1.lt Ou5.out.lt (Nat.le_refl _)); have A_u19_u12 := Lib.hid (Rg.apart_lt ho1.lt Ou12.out.lt (Nat.le_refl _)); have A_u19_u17 := Lib.hid (Rg.apart_lt ho1.lt Ou17.out.lt (Nat.le_refl _)); have A_u19_u18 := Lib.hid (Rg.apart_lt ho1.lt Ou18.out.lt (Nat.le_refl _)); have D_u19_P0 := Lib.hid (ho1.off XP0.out.lt); have D_u19_P1 := Lib.hid (ho1.off XP1.out.lt); have D_u19_P2 := Lib.hid (ho1.off XP2.out.lt); have D_u19_B7 := Lib.hid (ho1.off XB7.out.lt); have D_u19_B11 := Lib.hid (ho1.off XB11.out.lt); have Ou19 := Lib.hid (ho1.lower HB40.out.size); have A_u20_u5 := Lib.hid (Rg.apart_lt ho2.lt Ou5.out.lt (Nat.le_refl _)); have A_u20_u12 := Lib.hid (Rg.apart_lt ho2.lt Ou12.out.lt (Nat.le_refl _)); have A_u20_u17 := Lib.hid (Rg.apart_lt ho2.lt Ou17.out.lt (Nat.le_refl _)); have A_u20_u18 := Lib.hid (Rg.apart_lt ho2.lt Ou18.out.lt (Nat.le_refl _)); have D_u20_P0 := Lib.hid (ho2.off XP0.out.lt); have D_u20_P1 := Lib.hid (ho2.off XP1.out.lt); have D_u20_P2 := Lib.hid (ho2.off XP2.out.lt); have D_u20_B7 := Lib.hid (ho2.off XB7.out.lt); have D_u20_B11 := Lib.hid (ho2.off XB11.out.lt); have Ou20 := Lib.hid (ho2.lower HB40.out.size); have A_u20_u19 := Lib.hid hap; have HB41 := Lib.hid (HB40.out.grown hg HB40.out.size (fun _ h => by cases h)); clear HB40; have Ou5 := Lib.hid (Ou5.out.grown hg); have Ou12 := Lib.hid (Ou12.out.grown hg); have Ou17 := Lib.hid (Ou17.out.grown hg); have Ou18 := Lib.hid (Ou18.out.grown hg); have XP0 := Lib.hid (XP0.out.grown hg); have XP1 := Lib.hid (XP1.out.grown hg); have XP2 := Lib.hid (XP2.out.grown hg); have XB7 := Lib.hid (XB7.out.grown hg); have XB11 := Lib.hid (XB11.out.grown hg); clear ho1 ho2 hap hg)
  refine hK.out _ _ ?_ (fun hHeld => ?_)
  · exact ⟨XP0.out.cell 0, XP0.out.cell 1, XP0.out.cell 2, XP1.out.cell 0, XP1.out.cell 1, XP2.out.cell 0, XP2.out.cell 1, XP2.out.cell 2, XP2.out.cell 3⟩
  clear hK K
  (try simp only [Act.put, List.getElem_toArray, List.getElem_cons_succ, List.getElem_cons_zero, List.setIfInBounds_toArray, List.set_cons_zero, List.set_cons_succ])
  refine wpAnyH_ready (rs := [9]) (by kernel_rfl) (by simp) ?_; refine AllReadyH.cons rfl (fun K hK => ?_) AllReadyH.nil; go_simp; (go_at_call 33; refine (Saf.iSafe_any w38 aX_W aX_H aBase aR_Most aR_Window aP_At aP_Food _ _ _ _ aX_Cells_L aL_L aP_Crew_L aP_Past_L aR_Most_H.out aR_Window_H.out aP_Food_H.out (Ou17.out.sees) (Ou18.out.sees) (Ou19.out.sees) (Ou20.out.sees) (by have h9 := Saf.safe_len aX_W aX_H aX_Cells_L aBase aR_Most aR_Window aL_L aP_At aP_Food aP_Crew_L aP_Past_L; (try simp only [LawsBo.marksB_len, LawsI.marksI_len, LawsM.marksM_len, LawsP.marksP_len]); omega) (by have h9 := Saf.safe_len aX_W aX_H aX_Cells_L aBase aR_Most aR_Window aL_L aP_At aP_Food aP_Crew_L aP_Past_L; (try simp only [LawsBo.marksB_len, LawsI.marksI_len, LawsM.marksM_len, LawsP.marksP_len]); omega) (by have h9 := Saf.safe_len aX_W aX_H aX_Cells_L aBase aR_Most aR_Window aL_L aP_At aP_Food aP_Crew_L aP_Past_L; (try simp only [LawsBo.marksB_len, LawsI.marksI_len, LawsM.marksM_len, LawsP.marksP_len]); omega)).mono ?_; rintro e w39 ⟨u21, rfl, ho, hg⟩; have A_u21_u5 := Lib.hid (Rg.apart_lt ho.lt Ou5.out.lt (Nat.le_refl _)); have A_u21_u12 := Lib.hid (Rg.apart_lt ho.lt Ou12.out.lt (Nat.le_refl _)); have A_u21_u17 := Lib.hid (Rg.apart_lt ho.lt Ou17.out.lt (Nat.le_refl _)); have A_u21_u18 := Lib.hid (Rg.apart_lt ho.lt Ou18.out.lt (Nat.le_refl _)); have A_u21_u19 := Lib.hid (Rg.apart_lt ho.lt Ou19.out.lt (Nat.le_refl _)); have A_u21_u20 := Lib.hid (Rg.apart_lt ho.lt Ou20.out.lt (Nat.le_refl _)); have D_u21_P0 := Lib.hid (ho.off XP0.out.lt); have D_u21_P1 := Lib.hid (ho.off XP1.out.lt); have D_u21_P2 := Lib.hid (ho.off XP2.out.lt); have D_u21_B7 := Lib.hid (ho.off XB7.out.lt); have D_u21_B11 := Lib.hid (ho.off XB11.out.lt); have Ou21 := Lib.hid (ho.lower HB41.out.size); have HB42 := Lib.hid (HB41.out.grown hg HB41.out.size (fun _ h => by cases h)); clear HB41; have Ou5 := Lib.hid (Ou5.out.grown hg); have Ou12 := Lib.hid (Ou12.out.grown hg); have Ou17 := Lib.hid (Ou17.out.grown hg); have Ou18 := Lib.hid (Ou18.out.grown hg); have Ou19 := Lib.hid (Ou19.out.grown hg); have Ou20 := Lib.hid (Ou20.out.grown hg); have XP0 := Lib.hid (XP0.out.grown hg); have XP1 := Lib.hid (XP1.out.grown hg); have XP2 := Lib.hid (XP2.out.grown hg); have XB7 := Lib.hid (XB7.out.grown hg); have XB11 := Lib.hid (XB11.out.grown hg); clear ho hg)
  refine hK.out _ _ ?_ (fun hHeld => ?_)
  · exact ⟨XP0.out.cell 0, XP0.out.cell 1, XP0.out.cell 2, XP1.out.cell 0, XP1.out.cell 1, XP2.out.cell 0, XP2.out.cell 1, XP2.out.cell 2, XP2.out.cell 3⟩
  clear hK K
  (try simp only [Act.put, List.getElem_toArray, List.getElem_cons_succ, List.getElem_cons_zero, List.setIfInBounds_toArray, List.set_cons_zero, List.set_cons_succ])
  refine wpAnyH_take (i := 10) (v := ?_) rfl (by kernel_rfl) (by kernel_rfl) (by kernel_rfl) (fun _ _ _ h => h) (Or.inl ⟨by rfl, ?_⟩) (by assumption) ?_; rotate_left; (focus (intro wS hSw; (try dsimp only at hSw); go_simp <;> with_reducible rfl)); (try simp only [Act.put, List.getElem_toArray, List.getElem_cons_succ, List.getElem_cons_zero, List.setIfInBounds_toArray, List.set_cons_zero, List.set_cons_succ])
  refine wpAnyH_done (by kernel_rfl) ?_ _
  (try simp only [Act.put, List.getElem_toArray, List.getElem_cons_succ, List.getElem_cons_zero, List.setIfInBounds_toArray, List.set_cons_zero, List.set_cons_succ])
  clear Ou17
  clear Ou18
  clear Ou19
  clear Ou20
  try clear cP0_0
  have cP0_0 : World.cell? (w39) ⟨w.heap.size, 0, none⟩ = some (.int .i64 aX_W) := XP0.out.cell 0
  try clear cP0_1
  have cP0_1 : World.cell? (w39) ⟨w.heap.size, 1, none⟩ = some (.int .i64 aX_H) := XP0.out.cell 1
  try clear cP0_2
  have cP0_2 : World.cell? (w39) ⟨w.heap.size, 2, none⟩ = some (.slice aX_Cells_a aX_Cells_L.length aX_Cells_cap) := XP0.out.cell 2
  try clear cP1_0
  have cP1_0 : World.cell? (w39) ⟨w.heap.size + 1, 0, none⟩ = some (.int .i64 aR_Most) := XP1.out.cell 0
  try clear cP1_1
  have cP1_1 : World.cell? (w39) ⟨w.heap.size + 1, 1, none⟩ = some (.int .i64 aR_Window) := XP1.out.cell 1
  try clear cP2_0
  have cP2_0 : World.cell? (w39) ⟨w.heap.size + 1 + 1, 0, none⟩ = some (.int .i64 aP_At) := XP2.out.cell 0
  try clear cP2_1
  have cP2_1 : World.cell? (w39) ⟨w.heap.size + 1 + 1, 1, none⟩ = some (.int .i64 aP_Food) := XP2.out.cell 1
  try clear cP2_2
  have cP2_2 : World.cell? (w39) ⟨w.heap.size + 1 + 1, 2, none⟩ = some (.slice aP_Crew_a aP_Crew_L.length aP_Crew_cap) := XP2.out.cell 2
  try clear cP2_3
  have cP2_3 : World.cell? (w39) ⟨w.heap.size + 1 + 1, 3, none⟩ = some (.slice aP_Past_a aP_Past_L.length aP_Past_cap) := XP2.out.cell 3
  try clear cB7_0
  have cB7_0 : World.cell? (w39) ⟨w11.heap.size, 0, none⟩ = some (.int .i64 aX_W) := XB7.out.cell 0
  try clear cB7_1
  have cB7_1 : World.cell? (w39) ⟨w11.heap.size, 1, none⟩ = some (.int .i64 aX_H) := XB7.out.cell 1
  try clear cB7_2
  have cB7_2 : World.cell? (w39) ⟨w11.heap.size, 2, none⟩ = some (.slice u6_a u6_n u6_c) := XB7.out.cell 2
  try clear cB11_0
  have cB11_0 : World.cell? (w39) ⟨w14.heap.size, 0, none⟩ = some (.int .i64 aP_At) := XB11.out.cell 0
  try clear cB11_1
  have cB11_1 : World.cell? (w39) ⟨w14.heap.size, 1, none⟩ = some (.int .i64 aP_Food) := XB11.out.cell 1
  try clear cB11_2
  have cB11_2 : World.cell? (w39) ⟨w14.heap.size, 2, none⟩ = some (.slice u9_a u9_n u9_c) := XB11.out.cell 2
  try clear cB11_3
  have cB11_3 : World.cell? (w39) ⟨w14.heap.size, 3, none⟩ = some (.slice u10_a u10_n u10_c) := XB11.out.cell 3
  go_wp2_with fail
  refine (LawsI.eq_same w39 (u21) (u5) (Saf.safe aX_W aX_H aX_Cells_L aBase aR_Most aR_Window aL_L aP_At aP_Food aP_Crew_L aP_Past_L) (Ou21.out.sees) (Ou5.out.sees)).mono ?_
  rintro e w40 ⟨rfl, hg⟩
  have HB43 := Lib.hid (HB42.out.grown hg HB42.out.size (fun _ h => by cases h)); clear HB42
  have Ou5 := Lib.hid (Ou5.out.grown hg)
  have Ou12 := Lib.hid (Ou12.out.grown hg)
  have Ou21 := Lib.hid (Ou21.out.grown hg)
  have XP0 := Lib.hid (XP0.out.grown hg)
  have XP1 := Lib.hid (XP1.out.grown hg)
  have XP2 := Lib.hid (XP2.out.grown hg)
  have XB7 := Lib.hid (XB7.out.grown hg)
  have XB11 := Lib.hid (XB11.out.grown hg)
  clear hg
  clear Ou5
  clear Ou21
  try clear cP0_0
  have cP0_0 : World.cell? (w40) ⟨w.heap.size, 0, none⟩ = some (.int .i64 aX_W) := XP0.out.cell 0
  try clear cP0_1
  have cP0_1 : World.cell? (w40) ⟨w.heap.size, 1, none⟩ = some (.int .i64 aX_H) := XP0.out.cell 1
  try clear cP0_2
  have cP0_2 : World.cell? (w40) ⟨w.heap.size, 2, none⟩ = some (.slice aX_Cells_a aX_Cells_L.length aX_Cells_cap) := XP0.out.cell 2
  try clear cP1_0
  have cP1_0 : World.cell? (w40) ⟨w.heap.size + 1, 0, none⟩ = some (.int .i64 aR_Most) := XP1.out.cell 0
  try clear cP1_1
  have cP1_1 : World.cell? (w40) ⟨w.heap.size + 1, 1, none⟩ = some (.int .i64 aR_Window) := XP1.out.cell 1
  try clear cP2_0
  have cP2_0 : World.cell? (w40) ⟨w.heap.size + 1 + 1, 0, none⟩ = some (.int .i64 aP_At) := XP2.out.cell 0
  try clear cP2_1
  have cP2_1 : World.cell? (w40) ⟨w.heap.size + 1 + 1, 1, none⟩ = some (.int .i64 aP_Food) := XP2.out.cell 1
  try clear cP2_2
  have cP2_2 : World.cell? (w40) ⟨w.heap.size + 1 + 1, 2, none⟩ = some (.slice aP_Crew_a aP_Crew_L.length aP_Crew_cap) := XP2.out.cell 2
  try clear cP2_3
  have cP2_3 : World.cell? (w40) ⟨w.heap.size + 1 + 1, 3, none⟩ = some (.slice aP_Past_a aP_Past_L.length aP_Past_cap) := XP2.out.cell 3
  try clear cB7_0
  have cB7_0 : World.cell? (w40) ⟨w11.heap.size, 0, none⟩ = some (.int .i64 aX_W) := XB7.out.cell 0
  try clear cB7_1
  have cB7_1 : World.cell? (w40) ⟨w11.heap.size, 1, none⟩ = some (.int .i64 aX_H) := XB7.out.cell 1
  try clear cB7_2
  have cB7_2 : World.cell? (w40) ⟨w11.heap.size, 2, none⟩ = some (.slice u6_a u6_n u6_c) := XB7.out.cell 2
  try clear cB11_0
  have cB11_0 : World.cell? (w40) ⟨w14.heap.size, 0, none⟩ = some (.int .i64 aP_At) := XB11.out.cell 0
  try clear cB11_1
  have cB11_1 : World.cell? (w40) ⟨w14.heap.size, 1, none⟩ = some (.int .i64 aP_Food) := XB11.out.cell 1
  try clear cB11_2
  have cB11_2 : World.cell? (w40) ⟨w14.heap.size, 2, none⟩ = some (.slice u9_a u9_n u9_c) := XB11.out.cell 2
  try clear cB11_3
  have cB11_3 : World.cell? (w40) ⟨w14.heap.size, 3, none⟩ = some (.slice u10_a u10_n u10_c) := XB11.out.cell 3
  go_wp2_with fail
  refine (LawsI.held_any w40 (u12) (1) ((Saf.safe aX_W aX_H aX_Cells_L aBase aR_Most aR_Window aL_L aP_At aP_Food aP_Crew_L aP_Past_L)).length (Ou12.out.sees) (by have h9 := Saf.safe_len aX_W aX_H aX_Cells_L aBase aR_Most aR_Window aL_L aP_At aP_Food aP_Crew_L aP_Past_L; (try simp only [LawsBo.marksB_len, LawsI.marksI_len, LawsM.marksM_len, LawsP.marksP_len]); omega)).mono ?_
  rintro e w41 ⟨rfl, hg⟩
  have HB44 := Lib.hid (HB43.out.grown hg HB43.out.size (fun _ h => by cases h)); clear HB43
  have Ou12 := Lib.hid (Ou12.out.grown hg)
  have XP0 := Lib.hid (XP0.out.grown hg)
  have XP1 := Lib.hid (XP1.out.grown hg)
  have XP2 := Lib.hid (XP2.out.grown hg)
  have XB7 := Lib.hid (XB7.out.grown hg)
  have XB11 := Lib.hid (XB11.out.grown hg)
  clear hg
  clear Ou12
  try clear cP0_0
  have cP0_0 : World.cell? (w41) ⟨w.heap.size, 0, none⟩ = some (.int .i64 aX_W) := XP0.out.cell 0
  try clear cP0_1
  have cP0_1 : World.cell? (w41) ⟨w.heap.size, 1, none⟩ = some (.int .i64 aX_H) := XP0.out.cell 1
  try clear cP0_2
  have cP0_2 : World.cell? (w41) ⟨w.heap.size, 2, none⟩ = some (.slice aX_Cells_a aX_Cells_L.length aX_Cells_cap) := XP0.out.cell 2
  try clear cP1_0
  have cP1_0 : World.cell? (w41) ⟨w.heap.size + 1, 0, none⟩ = some (.int .i64 aR_Most) := XP1.out.cell 0
  try clear cP1_1
  have cP1_1 : World.cell? (w41) ⟨w.heap.size + 1, 1, none⟩ = some (.int .i64 aR_Window) := XP1.out.cell 1
  try clear cP2_0
  have cP2_0 : World.cell? (w41) ⟨w.heap.size + 1 + 1, 0, none⟩ = some (.int .i64 aP_At) := XP2.out.cell 0
  try clear cP2_1
  have cP2_1 : World.cell? (w41) ⟨w.heap.size + 1 + 1, 1, none⟩ = some (.int .i64 aP_Food) := XP2.out.cell 1
  try clear cP2_2
  have cP2_2 : World.cell? (w41) ⟨w.heap.size + 1 + 1, 2, none⟩ = some (.slice aP_Crew_a aP_Crew_L.length aP_Crew_cap) := XP2.out.cell 2
  try clear cP2_3
  have cP2_3 : World.cell? (w41) ⟨w.heap.size + 1 + 1, 3, none⟩ = some (.slice aP_Past_a aP_Past_L.length aP_Past_cap) := XP2.out.cell 3
  try clear cB7_0
  have cB7_0 : World.cell? (w41) ⟨w11.heap.size, 0, none⟩ = some (.int .i64 aX_W) := XB7.out.cell 0
  try clear cB7_1
  have cB7_1 : World.cell? (w41) ⟨w11.heap.size, 1, none⟩ = some (.int .i64 aX_H) := XB7.out.cell 1
  try clear cB7_2
  have cB7_2 : World.cell? (w41) ⟨w11.heap.size, 2, none⟩ = some (.slice u6_a u6_n u6_c) := XB7.out.cell 2
  try clear cB11_0
  have cB11_0 : World.cell? (w41) ⟨w14.heap.size, 0, none⟩ = some (.int .i64 aP_At) := XB11.out.cell 0
  try clear cB11_1
  have cB11_1 : World.cell? (w41) ⟨w14.heap.size, 1, none⟩ = some (.int .i64 aP_Food) := XB11.out.cell 1
  try clear cB11_2
  have cB11_2 : World.cell? (w41) ⟨w14.heap.size, 2, none⟩ = some (.slice u9_a u9_n u9_c) := XB11.out.cell 2
  try clear cB11_3
  have cB11_3 : World.cell? (w41) ⟨w14.heap.size, 3, none⟩ = some (.slice u10_a u10_n u10_c) := XB11.out.cell 3
  go_wp2
  go_ret
  exact ⟨rfl, HB44.out⟩

set_option maxRecDepth 100000 in
/-- What the walk gives, for every argument. -/
theorem contract (H : Type) (enc : TypeId × Value → H) (W : World) (base : Nat) (args : Array Value) (ds gs : List (DataW H)) (before : List MemPlace)
    (hval : ∀ (j : Nat) t v, Tryz.f5.params[j]? = some t → args[j]? = some v → Value.okWide Tryz.prog W .any base t v)
    (hW : DataW.Whole enc Tryz.prog Tryz.f5.params.toList Rows.fnExactSafeTargetsSpec.vars false W args.toList ds gs before) :
    Calls Tryz.prog 5 args W fun e W' => ∃ v, e = .returned v ∧ Rows.fnExactSafeTargetsSpec.post enc Tryz.prog Tryz.f5 false true false false W args v W' := by
  have hW' := hW
  obtain ⟨p, q, hA0, hV, rfl, hfz, hnd⟩ := hW
  have hA : DataW.TrodAll enc Tryz.prog W 0 (fun _ => true) true Tryz.f5.params.toList args.toList ds p := hA0
  rw [Tryz.params5] at hA hval
  obtain ⟨v0, vs0, d0, ds0, p0, q0, hargs, rfl, rfl, h0, r0⟩ := trodAll_cons hA
  obtain ⟨v1, vs1, d1, ds1, p1, q1, rfl, rfl, rfl, h1, r1⟩ := trodAll_cons r0
  obtain ⟨v2, vs2, d2, ds2, p2, q2, rfl, rfl, rfl, h2, r2⟩ := trodAll_cons r1
  obtain ⟨v3, vs3, d3, ds3, p3, q3, rfl, rfl, rfl, h3, r3⟩ := trodAll_cons r2
  obtain ⟨v4, vs4, d4, ds4, p4, q4, rfl, rfl, rfl, h4, r4⟩ := trodAll_cons r3
  obtain ⟨rfl, rfl, rfl⟩ := trodAll_nil r4
  obtain rfl : args = #[v0, v1, v2, v3, v4] := by cases args; simp_all
  obtain ⟨rfl, rfl⟩ := trodVars_none hV
  have k0 := h0
  have lt0 : ∀ x ∈ p0, x.block < W.heap.size := by obtain ⟨m, hm⟩ := k0; exact DataW.trod_lt m _ _ _ hm
  obtain ⟨f0_0, f0_1, f0_2, y0_0, y0_1, y0_2, fn0, rfl, rfl, rfl, g0_0, g0_1, g0_2⟩ := Go.Joins.open_agg3 Tryz.underlying24 (by kernel_rfl) (by kernel_rfl) (hval 0 24 v0 rfl rfl) h0
  obtain ⟨x0_0, rfl, w0_0⟩ := Kit.field_int Tryz.underlying3 g0_0
  obtain ⟨x0_1, rfl, w0_1⟩ := Kit.field_int Tryz.underlying3 g0_1
  obtain ⟨a0_2, l0_2, c0_2, z0_2, rfl, w0_2⟩ := Kit.field_row Tryz.underlying22 Tryz.underlying3 (by kernel_rfl) g0_2
  obtain ⟨a1, rfl, rfl, rfl, w1⟩ := open_int Tryz.underlying3 (hval 1 3 v1 rfl rfl) h1
  have k2 := h2
  have lt2 : ∀ x ∈ p2, x.block < W.heap.size := by obtain ⟨m, hm⟩ := k2; exact DataW.trod_lt m _ _ _ hm
  obtain ⟨f2_0, f2_1, y2_0, y2_1, fn2, rfl, rfl, rfl, g2_0, g2_1⟩ := Go.Joins.open_agg2 Tryz.underlying26 (by kernel_rfl) (by kernel_rfl) (hval 2 26 v2 rfl rfl) h2
  obtain ⟨x2_0, rfl, w2_0⟩ := Kit.field_int Tryz.underlying3 g2_0
  obtain ⟨x2_1, rfl, w2_1⟩ := Kit.field_int Tryz.underlying3 g2_1
  obtain ⟨a3, len3, cap3, rfl⟩ := okWide_slice Tryz.underlying27 (hval 3 27 v3 rfl rfl)
  have k3 := h3
  have lt3 : ∀ x ∈ p3, x.block < W.heap.size := by obtain ⟨m, hm⟩ := k3; exact DataW.trod_lt m _ _ _ hm
  obtain ⟨z3, w3⟩ := Rg.row_openG (e := Rg.encP) Tryz.underlying27 (by kernel_rfl) (Rg.encP_open Tryz.underlying96 (by kernel_rfl) Tryz.underlying3 Tryz.underlying3) h3
  have k4 := h4
  have lt4 : ∀ x ∈ p4, x.block < W.heap.size := by obtain ⟨m, hm⟩ := k4; exact DataW.trod_lt m _ _ _ hm
  obtain ⟨f4_0, f4_1, f4_2, f4_3, y4_0, y4_1, y4_2, y4_3, fn4, rfl, rfl, rfl, g4_0, g4_1, g4_2, g4_3⟩ := Go.Joins.open_agg4 Tryz.underlying31 (by kernel_rfl) (by kernel_rfl) (hval 4 31 v4 rfl rfl) h4
  obtain ⟨x4_0, rfl, w4_0⟩ := Kit.field_int Tryz.underlying3 g4_0
  obtain ⟨x4_1, rfl, w4_1⟩ := Kit.field_int Tryz.underlying3 g4_1
  obtain ⟨a4_2, l4_2, c4_2, z4_2, rfl, w4_2⟩ := Rg.field_rowG (e := Rg.encM) Tryz.underlying28 (by kernel_rfl) (Rg.encM_open Tryz.underlying145 (by kernel_rfl) Tryz.underlying3 Tryz.underlying3 Tryz.underlying3 Tryz.underlying4) g4_2
  obtain ⟨a4_3, l4_3, c4_3, z4_3, rfl, w4_3⟩ := Rg.field_rowG (e := Rg.encB) Tryz.underlying29 (by kernel_rfl) (Rg.encB_open Tryz.underlying4) g4_3
  clear hA0
  refine (walk W x0_0 w0_0 x0_1 w0_1 a0_2 l0_2 c0_2 z0_2 w0_2 a1 w1 x2_0 w2_0 x2_1 w2_1 a3 len3 cap3 z3 w3 x4_0 w4_0 x4_1 w4_1 a4_2 l4_2 c4_2 z4_2 w4_2 a4_3 l4_3 c4_3 z4_3 w4_3).mono fun e W' ⟨he, bel⟩ => ?_
  subst he
  exact ⟨_, rfl, _, _, _, [], _, [], hW', trodAll_mk1 (shut_bool Tryz.underlying4 _), (trodAll_cons_mk (Below.trod laidOut (by kernel_rfl) (of_decide_eq_true (by kernel_rfl)) k0 bel lt0) (trodAll_cons_mk (shut_int Tryz.underlying3 w1) (trodAll_cons_mk (Below.trod laidOut (by kernel_rfl) (of_decide_eq_true (by kernel_rfl)) k2 bel lt2) (trodAll_cons_mk (Below.trod laidOut (by kernel_rfl) (of_decide_eq_true (by kernel_rfl)) k3 bel lt3) (trodAll_cons_mk (Below.trod laidOut (by kernel_rfl) (of_decide_eq_true (by kernel_rfl)) k4 bel lt4) trodAll_mk0))))), rfl, bel.frame _, fun h => by cases h⟩

noncomputable def laidWorld (os : Os) : World := World.holding Tryz.prog os ⟨#[], #[], []⟩
theorem reads (os : Os) {H : Type} (enc : TypeId × Value → H) : ∃ places, DataW.whole enc Tryz.prog ((laidWorld os).forCall (fun _ _ => 0) ⟨#[], #[.agg #[.int .i64 0, .int .i64 0, .slice none 0 0], .int .i64 0, .agg #[.int .i64 0, .int .i64 0], .slice none 0 0, .agg #[.int .i64 0, .int .i64 0, .slice none 0 0, .slice none 0 0]], []⟩).memory Tryz.f5.params.toList Rows.fnExactSafeTargetsSpec.vars false (#[.agg #[.int .i64 0, .int .i64 0, .slice none 0 0], .int .i64 0, .agg #[.int .i64 0, .int .i64 0], .slice none 0 0, .agg #[.int .i64 0, .int .i64 0, .slice none 0 0, .slice none 0 0]] : Array Value).toList 8 = some ([.agg [.lit (.int .i64 0), .lit (.int .i64 0), .nil], .lit (.int .i64 0), .agg [.lit (.int .i64 0), .lit (.int .i64 0)], .nil, .agg [.lit (.int .i64 0), .lit (.int .i64 0), .nil, .nil]], [], places) :=
  ⟨[], by kernel_rfl⟩

set_option maxRecDepth 100000 in
theorem lifted (os : Os) (started : os.Started) (H : Type) (enc : TypeId × Value → H) (F : Stop.Interp) :
    ReturnsInHanded {} Tryz.checked os 5 .any ((OpenSpec.ofChange Rows.fnExactSafeTargetsSpec).preRow enc Tryz.prog Tryz.f5 Rows.fnExactSafeTargetsRow.domain false Rows.fnExactSafeTargetsRow.laid) (((OpenSpec.ofChange Rows.fnExactSafeTargetsSpec).at F).post enc Tryz.prog Tryz.f5 false true false false) := by
  obtain ⟨places, hx⟩ := reads os enc
  refine returnsInHanded_of_row (C := Tryz.checked) (s := (OpenSpec.ofChange Rows.fnExactSafeTargetsSpec)) own started (by kernel_rfl) Tryz.func5
    (witness_row_at (enc := enc) (C := Tryz.checked) false (laidWorld os) #[.agg #[.int .i64 0, .int .i64 0, .slice none 0 0], .int .i64 0, .agg #[.int .i64 0, .int .i64 0], .slice none 0 0, .agg #[.int .i64 0, .int .i64 0, .slice none 0 0, .slice none 0 0]] rfl (by kernel_rfl) (by kernel_rfl) (by kernel_rfl)
      (OpenSpec.preRow_of_cond 8 hx (by kernel_rfl) (fun k hk => by cases hk) (by kernel_rfl) (laidMetH_nil _ _))) ?_
  intro W base args ds gs before hval hW _ _ _ _ _ _
  exact contract H enc W base args ds gs before hval hW

set_option maxRecDepth 100000 in
theorem said : Rows.FnExactSafeTargetsSaid :=
  OpenClaim.holds_of_cond 5 Tryz.f5 rfl rfl rfl rfl rfl rfl rfl ⟨rfl, rfl, rfl, rfl, rfl⟩ rfl rfl rfl rfl rfl (by kernel_rfl) Tryz.func5 closed
    (of_decide_eq_true (by kernel_rfl)) (by unfold Func.isWrapper; first | (rw [if_pos (by decide +kernel)]; kernel_rfl) | (rw [if_neg (by decide +kernel)]; exact ⟨rfl, rfl⟩))
    (fun os started H enc _ F => by rw [OpenClaim.pre_eq_preRow]; exact lifted os started H enc F)

theorem proved : Rows.FnExactSafeTargetsSaid := said
#print axioms proved
end Go.Proofs.YtonalkamfgpokaaGreat.fnExactSafeTargets

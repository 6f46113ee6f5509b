/- The law FnExactNeedHome: the program's NeedHome answers as its model, for every argument; it writes into no argument, and its answer owns its memory. No condition. -/
import Derived.Deep.RegionHeld3
import Derived.Test.YtfcjbkagofccdaaRows
import Derived.Test.YtfcjbkagofccdaaFieldG
import Derived.Test.YtfcjbkagofccdaaLandL
import Derived.Test.YtfcjbkagofccdaaPartyL
import Derived.Test.YtfcjbkagofccdaaRuleL
import Derived.Test.YtfcjbkagofccdaaNeed
import Derived.WalkKit
import Derived.ProofKit
import Derived.OpenShut
import Derived.ShutString
import Derived.ChangeOld
import Derived.Below
import Derived.Deep.DeepHandedRow
import Derived.Deep.DeepWitnessRowRef
import Derived.Lib.LaidTab
namespace Go.Proofs.Ytfcjbkagofccdaa.fnExactNeedHome
open Go.ChangeShapes Go.WideShapes Go.ChangeAt Go.RowKit
open Go.ChangeMaps (open_string shut_string)
set_option linter.unusedVariables false

theorem own : ownKnob Try.prog.godebug = none := by kernel_rfl
theorem laidOut : laidOutB Try.prog = true := by kernel_rfl

open Kit Rw
set_option maxRecDepth 100000 in
set_option maxHeartbeats 4000000 in
theorem walk (w : World) (aX_W : Int) (aX_W_h : (Lit.int .i64 aX_W).wf = true) (aX_H : Int) (aX_H_h : (Lit.int .i64 aX_H).wf = true) (aX_Cells_a : Option Addr) (aX_Cells_len aX_Cells_cap : Nat) (aX_Cells_z : List Int) (aX_Cells_h : Kit.IsRow .i64 w aX_Cells_a aX_Cells_len aX_Cells_cap aX_Cells_z) (aBase : Int) (aBase_h : (Lit.int .i64 aBase).wf = true) (aR_Most : Int) (aR_Most_h : (Lit.int .i64 aR_Most).wf = true) (aR_Window : Int) (aR_Window_h : (Lit.int .i64 aR_Window).wf = true) (aP_At : Int) (aP_At_h : (Lit.int .i64 aP_At).wf = true) (aP_Food : Int) (aP_Food_h : (Lit.int .i64 aP_Food).wf = true) (aP_Crew_a : Option Addr) (aP_Crew_len aP_Crew_cap : Nat) (aP_Crew_L : List Rg.Mem) (aP_Crew_h : aP_Crew_L.length = aP_Crew_len ∧ Rg.SeesG Rg.encM w (.slice aP_Crew_a aP_Crew_len aP_Crew_cap) aP_Crew_L) (aP_Past_a : Option Addr) (aP_Past_len aP_Past_cap : Nat) (aP_Past_L : List Bool) (aP_Past_h : aP_Past_L.length = aP_Past_len ∧ Rg.SeesG Rg.encB w (.slice aP_Past_a aP_Past_len aP_Past_cap) aP_Past_L) :
    Calls Try.prog 8 #[.agg #[.int .i64 aX_W, .int .i64 aX_H, .slice aX_Cells_a aX_Cells_len aX_Cells_cap], .int .i64 aBase, .agg #[.int .i64 aR_Most, .int .i64 aR_Window], .agg #[.int .i64 aP_At, .int .i64 aP_Food, .slice aP_Crew_a aP_Crew_len aP_Crew_cap, .slice aP_Past_a aP_Past_len aP_Past_cap]] w fun e w' => e = .returned (.bool true) ∧ Below w.heap.size w w' := by
  obtain ⟨aP_Crew_e, aP_Crew_s0⟩ := aP_Crew_h; have aP_Crew_S := Lib.hid aP_Crew_s0; have aP_Crew_len0 := aP_Crew_s0.len; subst aP_Crew_e; clear aP_Crew_s0
  obtain ⟨aP_Past_e, aP_Past_s0⟩ := aP_Past_h; have aP_Past_S := Lib.hid aP_Past_s0; have aP_Past_len0 := aP_Past_s0.len; subst aP_Past_e; clear aP_Past_s0
  have aX_Cells_g := Lib.hid aX_Cells_h; clear aX_Cells_h
  obtain ⟨aX_Cells_L, aX_Cells_e, aX_Cells_s0⟩ := IsRow.sees aX_Cells_g.out
  have aX_Cells_S := Lib.hid aX_Cells_s0; have aX_Cells_len0 := aX_Cells_s0.len; subst aX_Cells_e; clear aX_Cells_s0 aX_Cells_g
  have aX_W_H := Lib.hid aX_W_h; have aX_W_b := i64_of aX_W_h; clear aX_W_h
  have aX_H_H := Lib.hid aX_H_h; have aX_H_b := i64_of aX_H_h; clear aX_H_h
  have aBase_H := Lib.hid aBase_h; have aBase_b := i64_of aBase_h; clear aBase_h
  have aR_Most_H := Lib.hid aR_Most_h; have aR_Most_b := i64_of aR_Most_h; clear aR_Most_h
  have aR_Window_H := Lib.hid aR_Window_h; have aR_Window_b := i64_of aR_Window_h; clear aR_Window_h
  have aP_At_H := Lib.hid aP_At_h; have aP_At_b := i64_of aP_At_h; clear aP_At_h
  have aP_Food_H := Lib.hid aP_Food_h; have aP_Food_b := i64_of aP_Food_h; clear aP_Food_h
  by_cases aX_l : (aX_Cells_L.length : Int) ≤ (1048576 : Int)
  rotate_left
  ·
    have HB0 : Hid (Below w.heap.size w w) := Below.refl _ _
    have hgb := World.grownBy_alloc w (.cells #[.int .i64 aX_W, .int .i64 aX_H, .slice aX_Cells_a aX_Cells_L.length aX_Cells_cap] 47 (0, 0)) none
    have HB1 := Lib.hid (HB0.out.grown hgb HB0.out.size (fun _ h => by cases h)); clear HB0
    have XP0 := Lib.hid (box_new w #[.int .i64 aX_W, .int .i64 aX_H, .slice aX_Cells_a aX_Cells_L.length aX_Cells_cap] 47); clear hgb
    have hgb := World.grownBy_alloc (w.alloc (.cells #[.int .i64 aX_W, .int .i64 aX_H, .slice aX_Cells_a aX_Cells_L.length aX_Cells_cap] 47 (0, 0))) (.cells #[.int .i64 aR_Most, .int .i64 aR_Window] 62 (0, 0)) none
    have HB2 := Lib.hid (HB1.out.grown hgb HB1.out.size (fun _ h => by cases h)); clear HB1
    have XP0 := Lib.hid (XP0.out.grown hgb)
    have XP1 := Lib.hid (box_new (w.alloc (.cells #[.int .i64 aX_W, .int .i64 aX_H, .slice aX_Cells_a aX_Cells_L.length aX_Cells_cap] 47 (0, 0))) #[.int .i64 aR_Most, .int .i64 aR_Window] 62); clear hgb
    simp only [World.size_alloc] at XP1
    have hgb := World.grownBy_alloc ((w.alloc (.cells #[.int .i64 aX_W, .int .i64 aX_H, .slice aX_Cells_a aX_Cells_L.length aX_Cells_cap] 47 (0, 0))).alloc (.cells #[.int .i64 aR_Most, .int .i64 aR_Window] 62 (0, 0))) (.cells #[.int .i64 aP_At, .int .i64 aP_Food, .slice aP_Crew_a aP_Crew_L.length aP_Crew_cap, .slice aP_Past_a aP_Past_L.length aP_Past_cap] 32 (0, 0)) none
    have HB3 := Lib.hid (HB2.out.grown hgb HB2.out.size (fun _ h => by cases h)); clear HB2
    have XP0 := Lib.hid (XP0.out.grown hgb)
    have XP1 := Lib.hid (XP1.out.grown hgb)
    have XP2 := Lib.hid (box_new ((w.alloc (.cells #[.int .i64 aX_W, .int .i64 aX_H, .slice aX_Cells_a aX_Cells_L.length aX_Cells_cap] 47 (0, 0))).alloc (.cells #[.int .i64 aR_Most, .int .i64 aR_Window] 62 (0, 0))) #[.int .i64 aP_At, .int .i64 aP_Food, .slice aP_Crew_a aP_Crew_L.length aP_Crew_cap, .slice aP_Past_a aP_Past_L.length aP_Past_cap] 32); clear hgb
    simp only [World.size_alloc] at XP2
    go_enter Try.func8, Try.ntmps8
    try clear cP0_0
    have cP0_0 : World.cell? (((w.alloc (.cells #[.int .i64 aX_W, .int .i64 aX_H, .slice aX_Cells_a aX_Cells_L.length aX_Cells_cap] 47 (0, 0))).alloc (.cells #[.int .i64 aR_Most, .int .i64 aR_Window] 62 (0, 0))).alloc (.cells #[.int .i64 aP_At, .int .i64 aP_Food, .slice aP_Crew_a aP_Crew_L.length aP_Crew_cap, .slice aP_Past_a aP_Past_L.length aP_Past_cap] 32 (0, 0))) ⟨w.heap.size, 0, none⟩ = some (.int .i64 aX_W) := XP0.out.cell 0
    try clear cP0_1
    have cP0_1 : World.cell? (((w.alloc (.cells #[.int .i64 aX_W, .int .i64 aX_H, .slice aX_Cells_a aX_Cells_L.length aX_Cells_cap] 47 (0, 0))).alloc (.cells #[.int .i64 aR_Most, .int .i64 aR_Window] 62 (0, 0))).alloc (.cells #[.int .i64 aP_At, .int .i64 aP_Food, .slice aP_Crew_a aP_Crew_L.length aP_Crew_cap, .slice aP_Past_a aP_Past_L.length aP_Past_cap] 32 (0, 0))) ⟨w.heap.size, 1, none⟩ = some (.int .i64 aX_H) := XP0.out.cell 1
    try clear cP0_2
    have cP0_2 : World.cell? (((w.alloc (.cells #[.int .i64 aX_W, .int .i64 aX_H, .slice aX_Cells_a aX_Cells_L.length aX_Cells_cap] 47 (0, 0))).alloc (.cells #[.int .i64 aR_Most, .int .i64 aR_Window] 62 (0, 0))).alloc (.cells #[.int .i64 aP_At, .int .i64 aP_Food, .slice aP_Crew_a aP_Crew_L.length aP_Crew_cap, .slice aP_Past_a aP_Past_L.length aP_Past_cap] 32 (0, 0))) ⟨w.heap.size, 2, none⟩ = some (.slice aX_Cells_a aX_Cells_L.length aX_Cells_cap) := XP0.out.cell 2
    try clear cP1_0
    have cP1_0 : World.cell? (((w.alloc (.cells #[.int .i64 aX_W, .int .i64 aX_H, .slice aX_Cells_a aX_Cells_L.length aX_Cells_cap] 47 (0, 0))).alloc (.cells #[.int .i64 aR_Most, .int .i64 aR_Window] 62 (0, 0))).alloc (.cells #[.int .i64 aP_At, .int .i64 aP_Food, .slice aP_Crew_a aP_Crew_L.length aP_Crew_cap, .slice aP_Past_a aP_Past_L.length aP_Past_cap] 32 (0, 0))) ⟨w.heap.size + 1, 0, none⟩ = some (.int .i64 aR_Most) := XP1.out.cell 0
    try clear cP1_1
    have cP1_1 : World.cell? (((w.alloc (.cells #[.int .i64 aX_W, .int .i64 aX_H, .slice aX_Cells_a aX_Cells_L.length aX_Cells_cap] 47 (0, 0))).alloc (.cells #[.int .i64 aR_Most, .int .i64 aR_Window] 62 (0, 0))).alloc (.cells #[.int .i64 aP_At, .int .i64 aP_Food, .slice aP_Crew_a aP_Crew_L.length aP_Crew_cap, .slice aP_Past_a aP_Past_L.length aP_Past_cap] 32 (0, 0))) ⟨w.heap.size + 1, 1, none⟩ = some (.int .i64 aR_Window) := XP1.out.cell 1
    try clear cP2_0
    have cP2_0 : World.cell? (((w.alloc (.cells #[.int .i64 aX_W, .int .i64 aX_H, .slice aX_Cells_a aX_Cells_L.length aX_Cells_cap] 47 (0, 0))).alloc (.cells #[.int .i64 aR_Most, .int .i64 aR_Window] 62 (0, 0))).alloc (.cells #[.int .i64 aP_At, .int .i64 aP_Food, .slice aP_Crew_a aP_Crew_L.length aP_Crew_cap, .slice aP_Past_a aP_Past_L.length aP_Past_cap] 32 (0, 0))) ⟨w.heap.size + 1 + 1, 0, none⟩ = some (.int .i64 aP_At) := XP2.out.cell 0
    try clear cP2_1
    have cP2_1 : World.cell? (((w.alloc (.cells #[.int .i64 aX_W, .int .i64 aX_H, .slice aX_Cells_a aX_Cells_L.length aX_Cells_cap] 47 (0, 0))).alloc (.cells #[.int .i64 aR_Most, .int .i64 aR_Window] 62 (0, 0))).alloc (.cells #[.int .i64 aP_At, .int .i64 aP_Food, .slice aP_Crew_a aP_Crew_L.length aP_Crew_cap, .slice aP_Past_a aP_Past_L.length aP_Past_cap] 32 (0, 0))) ⟨w.heap.size + 1 + 1, 1, none⟩ = some (.int .i64 aP_Food) := XP2.out.cell 1
    try clear cP2_2
    have cP2_2 : World.cell? (((w.alloc (.cells #[.int .i64 aX_W, .int .i64 aX_H, .slice aX_Cells_a aX_Cells_L.length aX_Cells_cap] 47 (0, 0))).alloc (.cells #[.int .i64 aR_Most, .int .i64 aR_Window] 62 (0, 0))).alloc (.cells #[.int .i64 aP_At, .int .i64 aP_Food, .slice aP_Crew_a aP_Crew_L.length aP_Crew_cap, .slice aP_Past_a aP_Past_L.length aP_Past_cap] 32 (0, 0))) ⟨w.heap.size + 1 + 1, 2, none⟩ = some (.slice aP_Crew_a aP_Crew_L.length aP_Crew_cap) := XP2.out.cell 2
    try clear cP2_3
    have cP2_3 : World.cell? (((w.alloc (.cells #[.int .i64 aX_W, .int .i64 aX_H, .slice aX_Cells_a aX_Cells_L.length aX_Cells_cap] 47 (0, 0))).alloc (.cells #[.int .i64 aR_Most, .int .i64 aR_Window] 62 (0, 0))).alloc (.cells #[.int .i64 aP_At, .int .i64 aP_Food, .slice aP_Crew_a aP_Crew_L.length aP_Crew_cap, .slice aP_Past_a aP_Past_L.length aP_Past_cap] 32 (0, 0))) ⟨w.heap.size + 1 + 1, 3, none⟩ = some (.slice aP_Past_a aP_Past_L.length aP_Past_cap) := XP2.out.cell 3
    go_wp2_with fail
    generalize ((w.alloc (.cells #[.int .i64 aX_W, .int .i64 aX_H, .slice aX_Cells_a aX_Cells_L.length aX_Cells_cap] 47 (0, 0))).alloc (.cells #[.int .i64 aR_Most, .int .i64 aR_Window] 62 (0, 0))).alloc (.cells #[.int .i64 aP_At, .int .i64 aP_Food, .slice aP_Crew_a aP_Crew_L.length aP_Crew_cap, .slice aP_Past_a aP_Past_L.length aP_Past_cap] 32 (0, 0)) = w1 at *
    refine (LandL.szLand_no w1 aX_W aX_H _ _ (1048576 : Int) (aX_Cells_S.out.below HB3.out) (by omega) (by omega) (by omega)).mono ?_
    rintro e w2 ⟨rfl, hg⟩
    have HB4 := Lib.hid (HB3.out.grown hg HB3.out.size (fun _ h => by cases h)); clear HB3
    have XP0 := Lib.hid (XP0.out.grown hg)
    have XP1 := Lib.hid (XP1.out.grown hg)
    have XP2 := Lib.hid (XP2.out.grown hg)
    clear hg
    try clear cP0_0
    have cP0_0 : World.cell? (w2) ⟨w.heap.size, 0, none⟩ = some (.int .i64 aX_W) := XP0.out.cell 0
    try clear cP0_1
    have cP0_1 : World.cell? (w2) ⟨w.heap.size, 1, none⟩ = some (.int .i64 aX_H) := XP0.out.cell 1
    try clear cP0_2
    have cP0_2 : World.cell? (w2) ⟨w.heap.size, 2, none⟩ = some (.slice aX_Cells_a aX_Cells_L.length aX_Cells_cap) := XP0.out.cell 2
    try clear cP1_0
    have cP1_0 : World.cell? (w2) ⟨w.heap.size + 1, 0, none⟩ = some (.int .i64 aR_Most) := XP1.out.cell 0
    try clear cP1_1
    have cP1_1 : World.cell? (w2) ⟨w.heap.size + 1, 1, none⟩ = some (.int .i64 aR_Window) := XP1.out.cell 1
    try clear cP2_0
    have cP2_0 : World.cell? (w2) ⟨w.heap.size + 1 + 1, 0, none⟩ = some (.int .i64 aP_At) := XP2.out.cell 0
    try clear cP2_1
    have cP2_1 : World.cell? (w2) ⟨w.heap.size + 1 + 1, 1, none⟩ = some (.int .i64 aP_Food) := XP2.out.cell 1
    try clear cP2_2
    have cP2_2 : World.cell? (w2) ⟨w.heap.size + 1 + 1, 2, none⟩ = some (.slice aP_Crew_a aP_Crew_L.length aP_Crew_cap) := XP2.out.cell 2
    try clear cP2_3
    have cP2_3 : World.cell? (w2) ⟨w.heap.size + 1 + 1, 3, none⟩ = some (.slice aP_Past_a aP_Past_L.length aP_Past_cap) := XP2.out.cell 3
    go_wp2
    go_ret
    exact ⟨rfl, HB4.out⟩
  by_cases aP_l : (aP_Crew_L.length : Int) + (aP_Past_L.length : Int) ≤ ((1048576 : Int) - ((aX_Cells_L.length : Int)))
  rotate_left
  ·
    have HB0 : Hid (Below w.heap.size w w) := Below.refl _ _
    have hgb := World.grownBy_alloc w (.cells #[.int .i64 aX_W, .int .i64 aX_H, .slice aX_Cells_a aX_Cells_L.length aX_Cells_cap] 47 (0, 0)) none
    have HB1 := Lib.hid (HB0.out.grown hgb HB0.out.size (fun _ h => by cases h)); clear HB0
    have XP0 := Lib.hid (box_new w #[.int .i64 aX_W, .int .i64 aX_H, .slice aX_Cells_a aX_Cells_L.length aX_Cells_cap] 47); clear hgb
    have hgb := World.grownBy_alloc (w.alloc (.cells #[.int .i64 aX_W, .int .i64 aX_H, .slice aX_Cells_a aX_Cells_L.length aX_Cells_cap] 47 (0, 0))) (.cells #[.int .i64 aR_Most, .int .i64 aR_Window] 62 (0, 0)) none
    have HB2 := Lib.hid (HB1.out.grown hgb HB1.out.size (fun _ h => by cases h)); clear HB1
    have XP0 := Lib.hid (XP0.out.grown hgb)
    have XP1 := Lib.hid (box_new (w.alloc (.cells #[.int .i64 aX_W, .int .i64 aX_H, .slice aX_Cells_a aX_Cells_L.length aX_Cells_cap] 47 (0, 0))) #[.int .i64 aR_Most, .int .i64 aR_Window] 62); clear hgb
    simp only [World.size_alloc] at XP1
    have hgb := World.grownBy_alloc ((w.alloc (.cells #[.int .i64 aX_W, .int .i64 aX_H, .slice aX_Cells_a aX_Cells_L.length aX_Cells_cap] 47 (0, 0))).alloc (.cells #[.int .i64 aR_Most, .int .i64 aR_Window] 62 (0, 0))) (.cells #[.int .i64 aP_At, .int .i64 aP_Food, .slice aP_Crew_a aP_Crew_L.length aP_Crew_cap, .slice aP_Past_a aP_Past_L.length aP_Past_cap] 32 (0, 0)) none
    have HB3 := Lib.hid (HB2.out.grown hgb HB2.out.size (fun _ h => by cases h)); clear HB2
    have XP0 := Lib.hid (XP0.out.grown hgb)
    have XP1 := Lib.hid (XP1.out.grown hgb)
    have XP2 := Lib.hid (box_new ((w.alloc (.cells #[.int .i64 aX_W, .int .i64 aX_H, .slice aX_Cells_a aX_Cells_L.length aX_Cells_cap] 47 (0, 0))).alloc (.cells #[.int .i64 aR_Most, .int .i64 aR_Window] 62 (0, 0))) #[.int .i64 aP_At, .int .i64 aP_Food, .slice aP_Crew_a aP_Crew_L.length aP_Crew_cap, .slice aP_Past_a aP_Past_L.length aP_Past_cap] 32); clear hgb
    simp only [World.size_alloc] at XP2
    go_enter Try.func8, Try.ntmps8
    try clear cP0_0
    have cP0_0 : World.cell? (((w.alloc (.cells #[.int .i64 aX_W, .int .i64 aX_H, .slice aX_Cells_a aX_Cells_L.length aX_Cells_cap] 47 (0, 0))).alloc (.cells #[.int .i64 aR_Most, .int .i64 aR_Window] 62 (0, 0))).alloc (.cells #[.int .i64 aP_At, .int .i64 aP_Food, .slice aP_Crew_a aP_Crew_L.length aP_Crew_cap, .slice aP_Past_a aP_Past_L.length aP_Past_cap] 32 (0, 0))) ⟨w.heap.size, 0, none⟩ = some (.int .i64 aX_W) := XP0.out.cell 0
    try clear cP0_1
    have cP0_1 : World.cell? (((w.alloc (.cells #[.int .i64 aX_W, .int .i64 aX_H, .slice aX_Cells_a aX_Cells_L.length aX_Cells_cap] 47 (0, 0))).alloc (.cells #[.int .i64 aR_Most, .int .i64 aR_Window] 62 (0, 0))).alloc (.cells #[.int .i64 aP_At, .int .i64 aP_Food, .slice aP_Crew_a aP_Crew_L.length aP_Crew_cap, .slice aP_Past_a aP_Past_L.length aP_Past_cap] 32 (0, 0))) ⟨w.heap.size, 1, none⟩ = some (.int .i64 aX_H) := XP0.out.cell 1
    try clear cP0_2
    have cP0_2 : World.cell? (((w.alloc (.cells #[.int .i64 aX_W, .int .i64 aX_H, .slice aX_Cells_a aX_Cells_L.length aX_Cells_cap] 47 (0, 0))).alloc (.cells #[.int .i64 aR_Most, .int .i64 aR_Window] 62 (0, 0))).alloc (.cells #[.int .i64 aP_At, .int .i64 aP_Food, .slice aP_Crew_a aP_Crew_L.length aP_Crew_cap, .slice aP_Past_a aP_Past_L.length aP_Past_cap] 32 (0, 0))) ⟨w.heap.size, 2, none⟩ = some (.slice aX_Cells_a aX_Cells_L.length aX_Cells_cap) := XP0.out.cell 2
    try clear cP1_0
    have cP1_0 : World.cell? (((w.alloc (.cells #[.int .i64 aX_W, .int .i64 aX_H, .slice aX_Cells_a aX_Cells_L.length aX_Cells_cap] 47 (0, 0))).alloc (.cells #[.int .i64 aR_Most, .int .i64 aR_Window] 62 (0, 0))).alloc (.cells #[.int .i64 aP_At, .int .i64 aP_Food, .slice aP_Crew_a aP_Crew_L.length aP_Crew_cap, .slice aP_Past_a aP_Past_L.length aP_Past_cap] 32 (0, 0))) ⟨w.heap.size + 1, 0, none⟩ = some (.int .i64 aR_Most) := XP1.out.cell 0
    try clear cP1_1
    have cP1_1 : World.cell? (((w.alloc (.cells #[.int .i64 aX_W, .int .i64 aX_H, .slice aX_Cells_a aX_Cells_L.length aX_Cells_cap] 47 (0, 0))).alloc (.cells #[.int .i64 aR_Most, .int .i64 aR_Window] 62 (0, 0))).alloc (.cells #[.int .i64 aP_At, .int .i64 aP_Food, .slice aP_Crew_a aP_Crew_L.length aP_Crew_cap, .slice aP_Past_a aP_Past_L.length aP_Past_cap] 32 (0, 0))) ⟨w.heap.size + 1, 1, none⟩ = some (.int .i64 aR_Window) := XP1.out.cell 1
    try clear cP2_0
    have cP2_0 : World.cell? (((w.alloc (.cells #[.int .i64 aX_W, .int .i64 aX_H, .slice aX_Cells_a aX_Cells_L.length aX_Cells_cap] 47 (0, 0))).alloc (.cells #[.int .i64 aR_Most, .int .i64 aR_Window] 62 (0, 0))).alloc (.cells #[.int .i64 aP_At, .int .i64 aP_Food, .slice aP_Crew_a aP_Crew_L.length aP_Crew_cap, .slice aP_Past_a aP_Past_L.length aP_Past_cap] 32 (0, 0))) ⟨w.heap.size + 1 + 1, 0, none⟩ = some (.int .i64 aP_At) := XP2.out.cell 0
    try clear cP2_1
    have cP2_1 : World.cell? (((w.alloc (.cells #[.int .i64 aX_W, .int .i64 aX_H, .slice aX_Cells_a aX_Cells_L.length aX_Cells_cap] 47 (0, 0))).alloc (.cells #[.int .i64 aR_Most, .int .i64 aR_Window] 62 (0, 0))).alloc (.cells #[.int .i64 aP_At, .int .i64 aP_Food, .slice aP_Crew_a aP_Crew_L.length aP_Crew_cap, .slice aP_Past_a aP_Past_L.length aP_Past_cap] 32 (0, 0))) ⟨w.heap.size + 1 + 1, 1, none⟩ = some (.int .i64 aP_Food) := XP2.out.cell 1
    try clear cP2_2
    have cP2_2 : World.cell? (((w.alloc (.cells #[.int .i64 aX_W, .int .i64 aX_H, .slice aX_Cells_a aX_Cells_L.length aX_Cells_cap] 47 (0, 0))).alloc (.cells #[.int .i64 aR_Most, .int .i64 aR_Window] 62 (0, 0))).alloc (.cells #[.int .i64 aP_At, .int .i64 aP_Food, .slice aP_Crew_a aP_Crew_L.length aP_Crew_cap, .slice aP_Past_a aP_Past_L.length aP_Past_cap] 32 (0, 0))) ⟨w.heap.size + 1 + 1, 2, none⟩ = some (.slice aP_Crew_a aP_Crew_L.length aP_Crew_cap) := XP2.out.cell 2
    try clear cP2_3
    have cP2_3 : World.cell? (((w.alloc (.cells #[.int .i64 aX_W, .int .i64 aX_H, .slice aX_Cells_a aX_Cells_L.length aX_Cells_cap] 47 (0, 0))).alloc (.cells #[.int .i64 aR_Most, .int .i64 aR_Window] 62 (0, 0))).alloc (.cells #[.int .i64 aP_At, .int .i64 aP_Food, .slice aP_Crew_a aP_Crew_L.length aP_Crew_cap, .slice aP_Past_a aP_Past_L.length aP_Past_cap] 32 (0, 0))) ⟨w.heap.size + 1 + 1, 3, none⟩ = some (.slice aP_Past_a aP_Past_L.length aP_Past_cap) := XP2.out.cell 3
    go_wp2_with fail
    generalize ((w.alloc (.cells #[.int .i64 aX_W, .int .i64 aX_H, .slice aX_Cells_a aX_Cells_L.length aX_Cells_cap] 47 (0, 0))).alloc (.cells #[.int .i64 aR_Most, .int .i64 aR_Window] 62 (0, 0))).alloc (.cells #[.int .i64 aP_At, .int .i64 aP_Food, .slice aP_Crew_a aP_Crew_L.length aP_Crew_cap, .slice aP_Past_a aP_Past_L.length aP_Past_cap] 32 (0, 0)) = w1 at *
    refine (LandL.szLand_yes w1 aX_W aX_H _ _ (1048576 : Int) (aX_Cells_S.out.below HB3.out) (by omega) (by omega) (by omega)).mono ?_
    rintro e w2 ⟨rfl, hg⟩
    have HB4 := Lib.hid (HB3.out.grown hg HB3.out.size (fun _ h => by cases h)); clear HB3
    have XP0 := Lib.hid (XP0.out.grown hg)
    have XP1 := Lib.hid (XP1.out.grown hg)
    have XP2 := Lib.hid (XP2.out.grown hg)
    clear hg
    try clear cP0_0
    have cP0_0 : World.cell? (w2) ⟨w.heap.size, 0, none⟩ = some (.int .i64 aX_W) := XP0.out.cell 0
    try clear cP0_1
    have cP0_1 : World.cell? (w2) ⟨w.heap.size, 1, none⟩ = some (.int .i64 aX_H) := XP0.out.cell 1
    try clear cP0_2
    have cP0_2 : World.cell? (w2) ⟨w.heap.size, 2, none⟩ = some (.slice aX_Cells_a aX_Cells_L.length aX_Cells_cap) := XP0.out.cell 2
    try clear cP1_0
    have cP1_0 : World.cell? (w2) ⟨w.heap.size + 1, 0, none⟩ = some (.int .i64 aR_Most) := XP1.out.cell 0
    try clear cP1_1
    have cP1_1 : World.cell? (w2) ⟨w.heap.size + 1, 1, none⟩ = some (.int .i64 aR_Window) := XP1.out.cell 1
    try clear cP2_0
    have cP2_0 : World.cell? (w2) ⟨w.heap.size + 1 + 1, 0, none⟩ = some (.int .i64 aP_At) := XP2.out.cell 0
    try clear cP2_1
    have cP2_1 : World.cell? (w2) ⟨w.heap.size + 1 + 1, 1, none⟩ = some (.int .i64 aP_Food) := XP2.out.cell 1
    try clear cP2_2
    have cP2_2 : World.cell? (w2) ⟨w.heap.size + 1 + 1, 2, none⟩ = some (.slice aP_Crew_a aP_Crew_L.length aP_Crew_cap) := XP2.out.cell 2
    try clear cP2_3
    have cP2_3 : World.cell? (w2) ⟨w.heap.size + 1 + 1, 3, none⟩ = some (.slice aP_Past_a aP_Past_L.length aP_Past_cap) := XP2.out.cell 3
    go_wp2_with fail
    refine (PartyL.szParty_no w2 aP_At aP_Food _ _ _ _ ((1048576 : Int) - ((aX_Cells_L.length : Int))) (aP_Crew_S.out.below HB4.out) (aP_Past_S.out.below HB4.out) (by omega) (by omega) (by omega)).mono ?_
    rintro e w3 ⟨rfl, hg⟩
    have HB5 := Lib.hid (HB4.out.grown hg HB4.out.size (fun _ h => by cases h)); clear HB4
    have XP0 := Lib.hid (XP0.out.grown hg)
    have XP1 := Lib.hid (XP1.out.grown hg)
    have XP2 := Lib.hid (XP2.out.grown hg)
    clear hg
    try clear cP0_0
    have cP0_0 : World.cell? (w3) ⟨w.heap.size, 0, none⟩ = some (.int .i64 aX_W) := XP0.out.cell 0
    try clear cP0_1
    have cP0_1 : World.cell? (w3) ⟨w.heap.size, 1, none⟩ = some (.int .i64 aX_H) := XP0.out.cell 1
    try clear cP0_2
    have cP0_2 : World.cell? (w3) ⟨w.heap.size, 2, none⟩ = some (.slice aX_Cells_a aX_Cells_L.length aX_Cells_cap) := XP0.out.cell 2
    try clear cP1_0
    have cP1_0 : World.cell? (w3) ⟨w.heap.size + 1, 0, none⟩ = some (.int .i64 aR_Most) := XP1.out.cell 0
    try clear cP1_1
    have cP1_1 : World.cell? (w3) ⟨w.heap.size + 1, 1, none⟩ = some (.int .i64 aR_Window) := XP1.out.cell 1
    try clear cP2_0
    have cP2_0 : World.cell? (w3) ⟨w.heap.size + 1 + 1, 0, none⟩ = some (.int .i64 aP_At) := XP2.out.cell 0
    try clear cP2_1
    have cP2_1 : World.cell? (w3) ⟨w.heap.size + 1 + 1, 1, none⟩ = some (.int .i64 aP_Food) := XP2.out.cell 1
    try clear cP2_2
    have cP2_2 : World.cell? (w3) ⟨w.heap.size + 1 + 1, 2, none⟩ = some (.slice aP_Crew_a aP_Crew_L.length aP_Crew_cap) := XP2.out.cell 2
    try clear cP2_3
    have cP2_3 : World.cell? (w3) ⟨w.heap.size + 1 + 1, 3, none⟩ = some (.slice aP_Past_a aP_Past_L.length aP_Past_cap) := XP2.out.cell 3
    go_wp2
    go_ret
    exact ⟨rfl, HB5.out⟩
  have HB0 : Hid (Below w.heap.size w w) := Below.refl _ _
  have hgb := World.grownBy_alloc w (.cells #[.int .i64 aX_W, .int .i64 aX_H, .slice aX_Cells_a aX_Cells_L.length aX_Cells_cap] 47 (0, 0)) none
  have HB1 := Lib.hid (HB0.out.grown hgb HB0.out.size (fun _ h => by cases h)); clear HB0
  have XP0 := Lib.hid (box_new w #[.int .i64 aX_W, .int .i64 aX_H, .slice aX_Cells_a aX_Cells_L.length aX_Cells_cap] 47); clear hgb
  have hgb := World.grownBy_alloc (w.alloc (.cells #[.int .i64 aX_W, .int .i64 aX_H, .slice aX_Cells_a aX_Cells_L.length aX_Cells_cap] 47 (0, 0))) (.cells #[.int .i64 aR_Most, .int .i64 aR_Window] 62 (0, 0)) none
  have HB2 := Lib.hid (HB1.out.grown hgb HB1.out.size (fun _ h => by cases h)); clear HB1
  have XP0 := Lib.hid (XP0.out.grown hgb)
  have XP1 := Lib.hid (box_new (w.alloc (.cells #[.int .i64 aX_W, .int .i64 aX_H, .slice aX_Cells_a aX_Cells_L.length aX_Cells_cap] 47 (0, 0))) #[.int .i64 aR_Most, .int .i64 aR_Window] 62); clear hgb
  simp only [World.size_alloc] at XP1
  have hgb := World.grownBy_alloc ((w.alloc (.cells #[.int .i64 aX_W, .int .i64 aX_H, .slice aX_Cells_a aX_Cells_L.length aX_Cells_cap] 47 (0, 0))).alloc (.cells #[.int .i64 aR_Most, .int .i64 aR_Window] 62 (0, 0))) (.cells #[.int .i64 aP_At, .int .i64 aP_Food, .slice aP_Crew_a aP_Crew_L.length aP_Crew_cap, .slice aP_Past_a aP_Past_L.length aP_Past_cap] 32 (0, 0)) none
  have HB3 := Lib.hid (HB2.out.grown hgb HB2.out.size (fun _ h => by cases h)); clear HB2
  have XP0 := Lib.hid (XP0.out.grown hgb)
  have XP1 := Lib.hid (XP1.out.grown hgb)
  have XP2 := Lib.hid (box_new ((w.alloc (.cells #[.int .i64 aX_W, .int .i64 aX_H, .slice aX_Cells_a aX_Cells_L.length aX_Cells_cap] 47 (0, 0))).alloc (.cells #[.int .i64 aR_Most, .int .i64 aR_Window] 62 (0, 0))) #[.int .i64 aP_At, .int .i64 aP_Food, .slice aP_Crew_a aP_Crew_L.length aP_Crew_cap, .slice aP_Past_a aP_Past_L.length aP_Past_cap] 32); clear hgb
  simp only [World.size_alloc] at XP2
  go_enter Try.func8, Try.ntmps8
  try clear cP0_0
  have cP0_0 : World.cell? (((w.alloc (.cells #[.int .i64 aX_W, .int .i64 aX_H, .slice aX_Cells_a aX_Cells_L.length aX_Cells_cap] 47 (0, 0))).alloc (.cells #[.int .i64 aR_Most, .int .i64 aR_Window] 62 (0, 0))).alloc (.cells #[.int .i64 aP_At, .int .i64 aP_Food, .slice aP_Crew_a aP_Crew_L.length aP_Crew_cap, .slice aP_Past_a aP_Past_L.length aP_Past_cap] 32 (0, 0))) ⟨w.heap.size, 0, none⟩ = some (.int .i64 aX_W) := XP0.out.cell 0
  try clear cP0_1
  have cP0_1 : World.cell? (((w.alloc (.cells #[.int .i64 aX_W, .int .i64 aX_H, .slice aX_Cells_a aX_Cells_L.length aX_Cells_cap] 47 (0, 0))).alloc (.cells #[.int .i64 aR_Most, .int .i64 aR_Window] 62 (0, 0))).alloc (.cells #[.int .i64 aP_At, .int .i64 aP_Food, .slice aP_Crew_a aP_Crew_L.length aP_Crew_cap, .slice aP_Past_a aP_Past_L.length aP_Past_cap] 32 (0, 0))) ⟨w.heap.size, 1, none⟩ = some (.int .i64 aX_H) := XP0.out.cell 1
  try clear cP0_2
  have cP0_2 : World.cell? (((w.alloc (.cells #[.int .i64 aX_W, .int .i64 aX_H, .slice aX_Cells_a aX_Cells_L.length aX_Cells_cap] 47 (0, 0))).alloc (.cells #[.int .i64 aR_Most, .int .i64 aR_Window] 62 (0, 0))).alloc (.cells #[.int .i64 aP_At, .int .i64 aP_Food, .slice aP_Crew_a aP_Crew_L.length aP_Crew_cap, .slice aP_Past_a aP_Past_L.length aP_Past_cap] 32 (0, 0))) ⟨w.heap.size, 2, none⟩ = some (.slice aX_Cells_a aX_Cells_L.length aX_Cells_cap) := XP0.out.cell 2
  try clear cP1_0
  have cP1_0 : World.cell? (((w.alloc (.cells #[.int .i64 aX_W, .int .i64 aX_H, .slice aX_Cells_a aX_Cells_L.length aX_Cells_cap] 47 (0, 0))).alloc (.cells #[.int .i64 aR_Most, .int .i64 aR_Window] 62 (0, 0))).alloc (.cells #[.int .i64 aP_At, .int .i64 aP_Food, .slice aP_Crew_a aP_Crew_L.length aP_Crew_cap, .slice aP_Past_a aP_Past_L.length aP_Past_cap] 32 (0, 0))) ⟨w.heap.size + 1, 0, none⟩ = some (.int .i64 aR_Most) := XP1.out.cell 0
  try clear cP1_1
  have cP1_1 : World.cell? (((w.alloc (.cells #[.int .i64 aX_W, .int .i64 aX_H, .slice aX_Cells_a aX_Cells_L.length aX_Cells_cap] 47 (0, 0))).alloc (.cells #[.int .i64 aR_Most, .int .i64 aR_Window] 62 (0, 0))).alloc (.cells #[.int .i64 aP_At, .int .i64 aP_Food, .slice aP_Crew_a aP_Crew_L.length aP_Crew_cap, .slice aP_Past_a aP_Past_L.length aP_Past_cap] 32 (0, 0))) ⟨w.heap.size + 1, 1, none⟩ = some (.int .i64 aR_Window) := XP1.out.cell 1
  try clear cP2_0
  have cP2_0 : World.cell? (((w.alloc (.cells #[.int .i64 aX_W, .int .i64 aX_H, .slice aX_Cells_a aX_Cells_L.length aX_Cells_cap] 47 (0, 0))).alloc (.cells #[.int .i64 aR_Most, .int .i64 aR_Window] 62 (0, 0))).alloc (.cells #[.int .i64 aP_At, .int .i64 aP_Food, .slice aP_Crew_a aP_Crew_L.length aP_Crew_cap, .slice aP_Past_a aP_Past_L.length aP_Past_cap] 32 (0, 0))) ⟨w.heap.size + 1 + 1, 0, none⟩ = some (.int .i64 aP_At) := XP2.out.cell 0
  try clear cP2_1
  have cP2_1 : World.cell? (((w.alloc (.cells #[.int .i64 aX_W, .int .i64 aX_H, .slice aX_Cells_a aX_Cells_L.length aX_Cells_cap] 47 (0, 0))).alloc (.cells #[.int .i64 aR_Most, .int .i64 aR_Window] 62 (0, 0))).alloc (.cells #[.int .i64 aP_At, .int .i64 aP_Food, .slice aP_Crew_a aP_Crew_L.length aP_Crew_cap, .slice aP_Past_a aP_Past_L.length aP_Past_cap] 32 (0, 0))) ⟨w.heap.size + 1 + 1, 1, none⟩ = some (.int .i64 aP_Food) := XP2.out.cell 1
  try clear cP2_2
  have cP2_2 : World.cell? (((w.alloc (.cells #[.int .i64 aX_W, .int .i64 aX_H, .slice aX_Cells_a aX_Cells_L.length aX_Cells_cap] 47 (0, 0))).alloc (.cells #[.int .i64 aR_Most, .int .i64 aR_Window] 62 (0, 0))).alloc (.cells #[.int .i64 aP_At, .int .i64 aP_Food, .slice aP_Crew_a aP_Crew_L.length aP_Crew_cap, .slice aP_Past_a aP_Past_L.length aP_Past_cap] 32 (0, 0))) ⟨w.heap.size + 1 + 1, 2, none⟩ = some (.slice aP_Crew_a aP_Crew_L.length aP_Crew_cap) := XP2.out.cell 2
  try clear cP2_3
  have cP2_3 : World.cell? (((w.alloc (.cells #[.int .i64 aX_W, .int .i64 aX_H, .slice aX_Cells_a aX_Cells_L.length aX_Cells_cap] 47 (0, 0))).alloc (.cells #[.int .i64 aR_Most, .int .i64 aR_Window] 62 (0, 0))).alloc (.cells #[.int .i64 aP_At, .int .i64 aP_Food, .slice aP_Crew_a aP_Crew_L.length aP_Crew_cap, .slice aP_Past_a aP_Past_L.length aP_Past_cap] 32 (0, 0))) ⟨w.heap.size + 1 + 1, 3, none⟩ = some (.slice aP_Past_a aP_Past_L.length aP_Past_cap) := XP2.out.cell 3
  go_wp2_with fail
  generalize ((w.alloc (.cells #[.int .i64 aX_W, .int .i64 aX_H, .slice aX_Cells_a aX_Cells_L.length aX_Cells_cap] 47 (0, 0))).alloc (.cells #[.int .i64 aR_Most, .int .i64 aR_Window] 62 (0, 0))).alloc (.cells #[.int .i64 aP_At, .int .i64 aP_Food, .slice aP_Crew_a aP_Crew_L.length aP_Crew_cap, .slice aP_Past_a aP_Past_L.length aP_Past_cap] 32 (0, 0)) = w1 at *
  refine (LandL.szLand_yes w1 aX_W aX_H _ _ (1048576 : Int) (aX_Cells_S.out.below HB3.out) (by omega) (by omega) (by omega)).mono ?_
  rintro e w2 ⟨rfl, hg⟩
  have HB4 := Lib.hid (HB3.out.grown hg HB3.out.size (fun _ h => by cases h)); clear HB3
  have XP0 := Lib.hid (XP0.out.grown hg)
  have XP1 := Lib.hid (XP1.out.grown hg)
  have XP2 := Lib.hid (XP2.out.grown hg)
  clear hg
  try clear cP0_0
  have cP0_0 : World.cell? (w2) ⟨w.heap.size, 0, none⟩ = some (.int .i64 aX_W) := XP0.out.cell 0
  try clear cP0_1
  have cP0_1 : World.cell? (w2) ⟨w.heap.size, 1, none⟩ = some (.int .i64 aX_H) := XP0.out.cell 1
  try clear cP0_2
  have cP0_2 : World.cell? (w2) ⟨w.heap.size, 2, none⟩ = some (.slice aX_Cells_a aX_Cells_L.length aX_Cells_cap) := XP0.out.cell 2
  try clear cP1_0
  have cP1_0 : World.cell? (w2) ⟨w.heap.size + 1, 0, none⟩ = some (.int .i64 aR_Most) := XP1.out.cell 0
  try clear cP1_1
  have cP1_1 : World.cell? (w2) ⟨w.heap.size + 1, 1, none⟩ = some (.int .i64 aR_Window) := XP1.out.cell 1
  try clear cP2_0
  have cP2_0 : World.cell? (w2) ⟨w.heap.size + 1 + 1, 0, none⟩ = some (.int .i64 aP_At) := XP2.out.cell 0
  try clear cP2_1
  have cP2_1 : World.cell? (w2) ⟨w.heap.size + 1 + 1, 1, none⟩ = some (.int .i64 aP_Food) := XP2.out.cell 1
  try clear cP2_2
  have cP2_2 : World.cell? (w2) ⟨w.heap.size + 1 + 1, 2, none⟩ = some (.slice aP_Crew_a aP_Crew_L.length aP_Crew_cap) := XP2.out.cell 2
  try clear cP2_3
  have cP2_3 : World.cell? (w2) ⟨w.heap.size + 1 + 1, 3, none⟩ = some (.slice aP_Past_a aP_Past_L.length aP_Past_cap) := XP2.out.cell 3
  go_wp2_with fail
  refine (PartyL.szParty_yes w2 aP_At aP_Food _ _ _ _ ((1048576 : Int) - ((aX_Cells_L.length : Int))) (aP_Crew_S.out.below HB4.out) (aP_Past_S.out.below HB4.out) (by omega) (by omega) (by omega)).mono ?_
  rintro e w3 ⟨rfl, hg⟩
  have HB5 := Lib.hid (HB4.out.grown hg HB4.out.size (fun _ h => by cases h)); clear HB4
  have XP0 := Lib.hid (XP0.out.grown hg)
  have XP1 := Lib.hid (XP1.out.grown hg)
  have XP2 := Lib.hid (XP2.out.grown hg)
  clear hg
  try clear cP0_0
  have cP0_0 : World.cell? (w3) ⟨w.heap.size, 0, none⟩ = some (.int .i64 aX_W) := XP0.out.cell 0
  try clear cP0_1
  have cP0_1 : World.cell? (w3) ⟨w.heap.size, 1, none⟩ = some (.int .i64 aX_H) := XP0.out.cell 1
  try clear cP0_2
  have cP0_2 : World.cell? (w3) ⟨w.heap.size, 2, none⟩ = some (.slice aX_Cells_a aX_Cells_L.length aX_Cells_cap) := XP0.out.cell 2
  try clear cP1_0
  have cP1_0 : World.cell? (w3) ⟨w.heap.size + 1, 0, none⟩ = some (.int .i64 aR_Most) := XP1.out.cell 0
  try clear cP1_1
  have cP1_1 : World.cell? (w3) ⟨w.heap.size + 1, 1, none⟩ = some (.int .i64 aR_Window) := XP1.out.cell 1
  try clear cP2_0
  have cP2_0 : World.cell? (w3) ⟨w.heap.size + 1 + 1, 0, none⟩ = some (.int .i64 aP_At) := XP2.out.cell 0
  try clear cP2_1
  have cP2_1 : World.cell? (w3) ⟨w.heap.size + 1 + 1, 1, none⟩ = some (.int .i64 aP_Food) := XP2.out.cell 1
  try clear cP2_2
  have cP2_2 : World.cell? (w3) ⟨w.heap.size + 1 + 1, 2, none⟩ = some (.slice aP_Crew_a aP_Crew_L.length aP_Crew_cap) := XP2.out.cell 2
  try clear cP2_3
  have cP2_3 : World.cell? (w3) ⟨w.heap.size + 1 + 1, 3, none⟩ = some (.slice aP_Past_a aP_Past_L.length aP_Past_cap) := XP2.out.cell 3
  go_wp2_with fail
  have hgd := grown_drew (World.grownBy.refl w3 none)
  have HB6 := Lib.hid (HB5.out.grown hgd HB5.out.size (fun _ h => by cases h)); clear HB5
  have XP0 := Lib.hid (XP0.out.grown hgd)
  have XP1 := Lib.hid (XP1.out.grown hgd)
  have XP2 := Lib.hid (XP2.out.grown hgd)
  clear hgd
  try clear cP0_0
  have cP0_0 : World.cell? ((World.drew w3)) ⟨w.heap.size, 0, none⟩ = some (.int .i64 aX_W) := XP0.out.cell 0
  try clear cP0_1
  have cP0_1 : World.cell? ((World.drew w3)) ⟨w.heap.size, 1, none⟩ = some (.int .i64 aX_H) := XP0.out.cell 1
  try clear cP0_2
  have cP0_2 : World.cell? ((World.drew w3)) ⟨w.heap.size, 2, none⟩ = some (.slice aX_Cells_a aX_Cells_L.length aX_Cells_cap) := XP0.out.cell 2
  try clear cP1_0
  have cP1_0 : World.cell? ((World.drew w3)) ⟨w.heap.size + 1, 0, none⟩ = some (.int .i64 aR_Most) := XP1.out.cell 0
  try clear cP1_1
  have cP1_1 : World.cell? ((World.drew w3)) ⟨w.heap.size + 1, 1, none⟩ = some (.int .i64 aR_Window) := XP1.out.cell 1
  try clear cP2_0
  have cP2_0 : World.cell? ((World.drew w3)) ⟨w.heap.size + 1 + 1, 0, none⟩ = some (.int .i64 aP_At) := XP2.out.cell 0
  try clear cP2_1
  have cP2_1 : World.cell? ((World.drew w3)) ⟨w.heap.size + 1 + 1, 1, none⟩ = some (.int .i64 aP_Food) := XP2.out.cell 1
  try clear cP2_2
  have cP2_2 : World.cell? ((World.drew w3)) ⟨w.heap.size + 1 + 1, 2, none⟩ = some (.slice aP_Crew_a aP_Crew_L.length aP_Crew_cap) := XP2.out.cell 2
  try clear cP2_3
  have cP2_3 : World.cell? ((World.drew w3)) ⟨w.heap.size + 1 + 1, 3, none⟩ = some (.slice aP_Past_a aP_Past_L.length aP_Past_cap) := XP2.out.cell 3
  refine wp_region_held_drew (S := fun w' => w'.cell? ⟨w.heap.size, 0, none⟩ = some (.int .i64 aX_W) ∧ w'.cell? ⟨w.heap.size, 1, none⟩ = some (.int .i64 aX_H) ∧ w'.cell? ⟨w.heap.size, 2, none⟩ = some (.slice aX_Cells_a aX_Cells_L.length aX_Cells_cap) ∧ w'.cell? ⟨w.heap.size + 1, 0, none⟩ = some (.int .i64 aR_Most) ∧ w'.cell? ⟨w.heap.size + 1, 1, none⟩ = some (.int .i64 aR_Window) ∧ w'.cell? ⟨w.heap.size + 1 + 1, 0, none⟩ = some (.int .i64 aP_At) ∧ w'.cell? ⟨w.heap.size + 1 + 1, 1, none⟩ = some (.int .i64 aP_Food) ∧ w'.cell? ⟨w.heap.size + 1 + 1, 2, none⟩ = some (.slice aP_Crew_a aP_Crew_L.length aP_Crew_cap) ∧ w'.cell? ⟨w.heap.size + 1 + 1, 3, none⟩ = some (.slice aP_Past_a aP_Past_L.length aP_Past_cap)) (by kernel_rfl) ⟨cP0_0, cP0_1, cP0_2, cP1_0, cP1_1, cP2_0, cP2_1, cP2_2, cP2_3⟩ (fun hHeld => ?_)
  refine wpAnyH_take (i := 0) (v := ?_) rfl (by kernel_rfl) (by kernel_rfl) (by kernel_rfl) (fun _ _ _ h => h) (Or.inl ⟨by rfl, ?_⟩) (by assumption) ?_; rotate_left; (focus (intro wS hSw; (try dsimp only at hSw); go_simp <;> with_reducible rfl)); (try simp only [Act.put, List.getElem_toArray, List.getElem_cons_succ, List.getElem_cons_zero, List.setIfInBounds_toArray, List.set_cons_zero, List.set_cons_succ])
  refine wpAnyH_take (i := 2) (v := ?_) rfl (by kernel_rfl) (by kernel_rfl) (by kernel_rfl) (fun _ _ _ h => h) (Or.inl ⟨by rfl, ?_⟩) (by assumption) ?_; rotate_left; (focus (intro wS hSw; (try dsimp only at hSw); go_simp <;> with_reducible rfl)); (try simp only [Act.put, List.getElem_toArray, List.getElem_cons_succ, List.getElem_cons_zero, List.setIfInBounds_toArray, List.set_cons_zero, List.set_cons_succ])
  refine wpAnyH_take (i := 3) (v := ?_) rfl (by kernel_rfl) (by kernel_rfl) (by kernel_rfl) (fun _ _ _ h => h) (Or.inl ⟨by rfl, ?_⟩) (by assumption) ?_; rotate_left; (focus (intro wS hSw; (try dsimp only at hSw); go_simp <;> with_reducible rfl)); (try simp only [Act.put, List.getElem_toArray, List.getElem_cons_succ, List.getElem_cons_zero, List.setIfInBounds_toArray, List.set_cons_zero, List.set_cons_succ])
  refine wpAnyH_take (i := 5) (v := ?_) rfl (by kernel_rfl) (by kernel_rfl) (by kernel_rfl) (fun _ _ _ h => h) (Or.inl ⟨by rfl, ?_⟩) (by assumption) ?_; rotate_left; (focus (intro wS hSw; (try dsimp only at hSw); go_simp <;> with_reducible rfl)); (try simp only [Act.put, List.getElem_toArray, List.getElem_cons_succ, List.getElem_cons_zero, List.setIfInBounds_toArray, List.set_cons_zero, List.set_cons_succ])
  refine wpAnyH_ready (rs := [1]) (by kernel_rfl) (by simp) ?_; refine AllReadyH.cons rfl (fun K hK => ?_) AllReadyH.nil; go_simp; (go_at_call 27; refine (LandL.toLand_any (World.drew w3) aX_W aX_H _ _ (aX_Cells_S.out.below HB6.out) (by omega)).mono ?_; rintro e w5 ⟨u1, rfl, ho, hg⟩; have D_u1_P0 := Lib.hid (ho.off XP0.out.lt); have D_u1_P1 := Lib.hid (ho.off XP1.out.lt); have D_u1_P2 := Lib.hid (ho.off XP2.out.lt); have Ou1 := Lib.hid (ho.lower HB6.out.size); have HB7 := Lib.hid (HB6.out.grown hg HB6.out.size (fun _ h => by cases h)); clear HB6; have XP0 := Lib.hid (XP0.out.grown hg); have XP1 := Lib.hid (XP1.out.grown hg); have XP2 := Lib.hid (XP2.out.grown hg); clear ho hg)
  refine hK.out _ _ ?_ (fun hHeld => ?_)
  · exact ⟨XP0.out.cell 0, XP0.out.cell 1, XP0.out.cell 2, XP1.out.cell 0, XP1.out.cell 1, XP2.out.cell 0, XP2.out.cell 1, XP2.out.cell 2, XP2.out.cell 3⟩
  clear hK K
  (try simp only [Act.put, List.getElem_toArray, List.getElem_cons_succ, List.getElem_cons_zero, List.setIfInBounds_toArray, List.set_cons_zero, List.set_cons_succ])
  refine wpAnyH_ready (rs := [4]) (by kernel_rfl) (by simp) ?_; refine AllReadyH.cons rfl (fun K hK => ?_) AllReadyH.nil; go_simp; (go_at_call 38; refine (RuleL.toRule_any w5 aR_Most aR_Window).mono ?_; rintro e w6 ⟨rfl, hg⟩; have HB8 := Lib.hid (HB7.out.grown hg HB7.out.size (fun _ h => by cases h)); clear HB7; have Ou1 := Lib.hid (Ou1.out.grown hg); have XP0 := Lib.hid (XP0.out.grown hg); have XP1 := Lib.hid (XP1.out.grown hg); have XP2 := Lib.hid (XP2.out.grown hg); clear hg)
  refine hK.out _ _ ?_ (fun hHeld => ?_)
  · exact ⟨XP0.out.cell 0, XP0.out.cell 1, XP0.out.cell 2, XP1.out.cell 0, XP1.out.cell 1, XP2.out.cell 0, XP2.out.cell 1, XP2.out.cell 2, XP2.out.cell 3⟩
  clear hK K
  (try simp only [Act.put, List.getElem_toArray, List.getElem_cons_succ, List.getElem_cons_zero, List.setIfInBounds_toArray, List.set_cons_zero, List.set_cons_succ])
  refine wpAnyH_ready (rs := [6]) (by kernel_rfl) (by simp) ?_; refine AllReadyH.cons rfl (fun K hK => ?_) AllReadyH.nil; go_simp; (go_at_call 18; refine (PartyL.toParty_any w6 aP_At aP_Food _ _ _ _ (aP_Crew_S.out.below HB8.out) (aP_Past_S.out.below HB8.out) (by omega) (by omega)).mono ?_; rintro e w7 ⟨u2, u3, rfl, ho1, ho2, hap, hg⟩; have A_u2_u1 := Lib.hid (Rg.apart_lt ho1.lt Ou1.out.lt (Nat.le_refl _)); have D_u2_P0 := Lib.hid (ho1.off XP0.out.lt); have D_u2_P1 := Lib.hid (ho1.off XP1.out.lt); have D_u2_P2 := Lib.hid (ho1.off XP2.out.lt); have Ou2 := Lib.hid (ho1.lower HB8.out.size); have A_u3_u1 := Lib.hid (Rg.apart_lt ho2.lt Ou1.out.lt (Nat.le_refl _)); have D_u3_P0 := Lib.hid (ho2.off XP0.out.lt); have D_u3_P1 := Lib.hid (ho2.off XP1.out.lt); have D_u3_P2 := Lib.hid (ho2.off XP2.out.lt); have Ou3 := Lib.hid (ho2.lower HB8.out.size); have A_u3_u2 := Lib.hid hap; have HB9 := Lib.hid (HB8.out.grown hg HB8.out.size (fun _ h => by cases h)); clear HB8; have Ou1 := Lib.hid (Ou1.out.grown hg); have XP0 := Lib.hid (XP0.out.grown hg); have XP1 := Lib.hid (XP1.out.grown hg); have XP2 := Lib.hid (XP2.out.grown hg); clear ho1 ho2 hap hg)
  refine hK.out _ _ ?_ (fun hHeld => ?_)
  · exact ⟨XP0.out.cell 0, XP0.out.cell 1, XP0.out.cell 2, XP1.out.cell 0, XP1.out.cell 1, XP2.out.cell 0, XP2.out.cell 1, XP2.out.cell 2, XP2.out.cell 3⟩
  clear hK K
  (try simp only [Act.put, List.getElem_toArray, List.getElem_cons_succ, List.getElem_cons_zero, List.setIfInBounds_toArray, List.set_cons_zero, List.set_cons_succ])
  refine wpAnyH_ready (rs := [7]) (by kernel_rfl) (by simp) ?_; refine AllReadyH.cons rfl (fun K hK => ?_) AllReadyH.nil; go_simp; (go_at_call 37; refine (Need.sNeed_any w7 aX_W aX_H aBase aR_Most aR_Window aP_At aP_Food _ _ _ aX_Cells_L aP_Crew_L aP_Past_L aR_Most_H.out aR_Window_H.out (Ou1.out.sees) (Ou2.out.sees) (Ou3.out.sees)).mono ?_; rintro e w8 ⟨rfl, hg⟩; have HB10 := Lib.hid (HB9.out.grown hg HB9.out.size (fun _ h => by cases h)); clear HB9; have Ou1 := Lib.hid (Ou1.out.grown hg); have Ou2 := Lib.hid (Ou2.out.grown hg); have Ou3 := Lib.hid (Ou3.out.grown hg); have XP0 := Lib.hid (XP0.out.grown hg); have XP1 := Lib.hid (XP1.out.grown hg); have XP2 := Lib.hid (XP2.out.grown hg); clear hg)
  refine hK.out _ _ ?_ (fun hHeld => ?_)
  · exact ⟨XP0.out.cell 0, XP0.out.cell 1, XP0.out.cell 2, XP1.out.cell 0, XP1.out.cell 1, XP2.out.cell 0, XP2.out.cell 1, XP2.out.cell 2, XP2.out.cell 3⟩
  clear hK K
  (try simp only [Act.put, List.getElem_toArray, List.getElem_cons_succ, List.getElem_cons_zero, List.setIfInBounds_toArray, List.set_cons_zero, List.set_cons_succ])
  refine wpAnyH_take (i := 8) (v := ?_) rfl (by kernel_rfl) (by kernel_rfl) (by kernel_rfl) (fun _ _ _ h => h) (Or.inl ⟨by rfl, ?_⟩) (by assumption) ?_; rotate_left; (focus (intro wS hSw; (try dsimp only at hSw); go_simp <;> with_reducible rfl)); (try simp only [Act.put, List.getElem_toArray, List.getElem_cons_succ, List.getElem_cons_zero, List.setIfInBounds_toArray, List.set_cons_zero, List.set_cons_succ])
  refine wpAnyH_done (by kernel_rfl) ?_ _
  (try simp only [Act.put, List.getElem_toArray, List.getElem_cons_succ, List.getElem_cons_zero, List.setIfInBounds_toArray, List.set_cons_zero, List.set_cons_succ])
  clear Ou1
  clear Ou2
  clear Ou3
  try clear cP0_0
  have cP0_0 : World.cell? (w8) ⟨w.heap.size, 0, none⟩ = some (.int .i64 aX_W) := XP0.out.cell 0
  try clear cP0_1
  have cP0_1 : World.cell? (w8) ⟨w.heap.size, 1, none⟩ = some (.int .i64 aX_H) := XP0.out.cell 1
  try clear cP0_2
  have cP0_2 : World.cell? (w8) ⟨w.heap.size, 2, none⟩ = some (.slice aX_Cells_a aX_Cells_L.length aX_Cells_cap) := XP0.out.cell 2
  try clear cP1_0
  have cP1_0 : World.cell? (w8) ⟨w.heap.size + 1, 0, none⟩ = some (.int .i64 aR_Most) := XP1.out.cell 0
  try clear cP1_1
  have cP1_1 : World.cell? (w8) ⟨w.heap.size + 1, 1, none⟩ = some (.int .i64 aR_Window) := XP1.out.cell 1
  try clear cP2_0
  have cP2_0 : World.cell? (w8) ⟨w.heap.size + 1 + 1, 0, none⟩ = some (.int .i64 aP_At) := XP2.out.cell 0
  try clear cP2_1
  have cP2_1 : World.cell? (w8) ⟨w.heap.size + 1 + 1, 1, none⟩ = some (.int .i64 aP_Food) := XP2.out.cell 1
  try clear cP2_2
  have cP2_2 : World.cell? (w8) ⟨w.heap.size + 1 + 1, 2, none⟩ = some (.slice aP_Crew_a aP_Crew_L.length aP_Crew_cap) := XP2.out.cell 2
  try clear cP2_3
  have cP2_3 : World.cell? (w8) ⟨w.heap.size + 1 + 1, 3, none⟩ = some (.slice aP_Past_a aP_Past_L.length aP_Past_cap) := XP2.out.cell 3
  go_wp2_with fail
  refine (LandL.toLand_any w8 aX_W aX_H _ _ (aX_Cells_S.out.below HB10.out) (by omega)).mono ?_
  rintro e w9 ⟨u4, rfl, ho, hg⟩
  have D_u4_P0 := Lib.hid (ho.off XP0.out.lt)
  have D_u4_P1 := Lib.hid (ho.off XP1.out.lt)
  have D_u4_P2 := Lib.hid (ho.off XP2.out.lt)
  have Ou4 := Lib.hid (ho.lower HB10.out.size)
  have HB11 := Lib.hid (HB10.out.grown hg HB10.out.size (fun _ h => by cases h)); clear HB10
  have XP0 := Lib.hid (XP0.out.grown hg)
  have XP1 := Lib.hid (XP1.out.grown hg)
  have XP2 := Lib.hid (XP2.out.grown hg)
  clear ho hg
  obtain ⟨u4_a, u4_n, u4_c, hu4, Nu4⟩ := Ou4.out.sees.shape; subst hu4
  have hgb := World.grownBy_alloc w9 (.cells #[.int .i64 aX_W, .int .i64 aX_H, .slice u4_a u4_n u4_c] 50 (0, 0)) none
  have D_u4_B5 := Lib.hid (Ou4.out.off' (Nat.le_refl _))
  have HB12 := Lib.hid (HB11.out.grown hgb HB11.out.size (fun _ h => by cases h)); clear HB11
  have Ou4 := Lib.hid (Ou4.out.grown hgb)
  have XP0 := Lib.hid (XP0.out.grown hgb)
  have XP1 := Lib.hid (XP1.out.grown hgb)
  have XP2 := Lib.hid (XP2.out.grown hgb)
  have XB5 := Lib.hid (box_new w9 #[.int .i64 aX_W, .int .i64 aX_H, .slice u4_a u4_n u4_c] 50); clear hgb
  try clear cP0_0
  have cP0_0 : World.cell? (w9.alloc (.cells #[.int .i64 aX_W, .int .i64 aX_H, .slice u4_a u4_n u4_c] 50 (0, 0))) ⟨w.heap.size, 0, none⟩ = some (.int .i64 aX_W) := XP0.out.cell 0
  try clear cP0_1
  have cP0_1 : World.cell? (w9.alloc (.cells #[.int .i64 aX_W, .int .i64 aX_H, .slice u4_a u4_n u4_c] 50 (0, 0))) ⟨w.heap.size, 1, none⟩ = some (.int .i64 aX_H) := XP0.out.cell 1
  try clear cP0_2
  have cP0_2 : World.cell? (w9.alloc (.cells #[.int .i64 aX_W, .int .i64 aX_H, .slice u4_a u4_n u4_c] 50 (0, 0))) ⟨w.heap.size, 2, none⟩ = some (.slice aX_Cells_a aX_Cells_L.length aX_Cells_cap) := XP0.out.cell 2
  try clear cP1_0
  have cP1_0 : World.cell? (w9.alloc (.cells #[.int .i64 aX_W, .int .i64 aX_H, .slice u4_a u4_n u4_c] 50 (0, 0))) ⟨w.heap.size + 1, 0, none⟩ = some (.int .i64 aR_Most) := XP1.out.cell 0
  try clear cP1_1
  have cP1_1 : World.cell? (w9.alloc (.cells #[.int .i64 aX_W, .int .i64 aX_H, .slice u4_a u4_n u4_c] 50 (0, 0))) ⟨w.heap.size + 1, 1, none⟩ = some (.int .i64 aR_Window) := XP1.out.cell 1
  try clear cP2_0
  have cP2_0 : World.cell? (w9.alloc (.cells #[.int .i64 aX_W, .int .i64 aX_H, .slice u4_a u4_n u4_c] 50 (0, 0))) ⟨w.heap.size + 1 + 1, 0, none⟩ = some (.int .i64 aP_At) := XP2.out.cell 0
  try clear cP2_1
  have cP2_1 : World.cell? (w9.alloc (.cells #[.int .i64 aX_W, .int .i64 aX_H, .slice u4_a u4_n u4_c] 50 (0, 0))) ⟨w.heap.size + 1 + 1, 1, none⟩ = some (.int .i64 aP_Food) := XP2.out.cell 1
  try clear cP2_2
  have cP2_2 : World.cell? (w9.alloc (.cells #[.int .i64 aX_W, .int .i64 aX_H, .slice u4_a u4_n u4_c] 50 (0, 0))) ⟨w.heap.size + 1 + 1, 2, none⟩ = some (.slice aP_Crew_a aP_Crew_L.length aP_Crew_cap) := XP2.out.cell 2
  try clear cP2_3
  have cP2_3 : World.cell? (w9.alloc (.cells #[.int .i64 aX_W, .int .i64 aX_H, .slice u4_a u4_n u4_c] 50 (0, 0))) ⟨w.heap.size + 1 + 1, 3, none⟩ = some (.slice aP_Past_a aP_Past_L.length aP_Past_cap) := XP2.out.cell 3
  try clear cB5_0
  have cB5_0 : World.cell? (w9.alloc (.cells #[.int .i64 aX_W, .int .i64 aX_H, .slice u4_a u4_n u4_c] 50 (0, 0))) ⟨w9.heap.size, 0, none⟩ = some (.int .i64 aX_W) := XB5.out.cell 0
  try clear cB5_1
  have cB5_1 : World.cell? (w9.alloc (.cells #[.int .i64 aX_W, .int .i64 aX_H, .slice u4_a u4_n u4_c] 50 (0, 0))) ⟨w9.heap.size, 1, none⟩ = some (.int .i64 aX_H) := XB5.out.cell 1
  try clear cB5_2
  have cB5_2 : World.cell? (w9.alloc (.cells #[.int .i64 aX_W, .int .i64 aX_H, .slice u4_a u4_n u4_c] 50 (0, 0))) ⟨w9.heap.size, 2, none⟩ = some (.slice u4_a u4_n u4_c) := XB5.out.cell 2
  go_wp2_with fail
  generalize w9.alloc (.cells #[.int .i64 aX_W, .int .i64 aX_H, .slice u4_a u4_n u4_c] 50 (0, 0)) = w10 at *
  refine (PartyL.toParty_any w10 aP_At aP_Food _ _ _ _ (aP_Crew_S.out.below HB12.out) (aP_Past_S.out.below HB12.out) (by omega) (by omega)).mono ?_
  rintro e w11 ⟨u6, u7, rfl, ho1, ho2, hap, hg⟩
  have A_u6_u4 := Lib.hid (Rg.apart_lt ho1.lt Ou4.out.lt (Nat.le_refl _))
  have D_u6_P0 := Lib.hid (ho1.off XP0.out.lt)
  have D_u6_P1 := Lib.hid (ho1.off XP1.out.lt)
  have D_u6_P2 := Lib.hid (ho1.off XP2.out.lt)
  have D_u6_B5 := Lib.hid (ho1.off XB5.out.lt)
  have Ou6 := Lib.hid (ho1.lower HB12.out.size)
  have A_u7_u4 := Lib.hid (Rg.apart_lt ho2.lt Ou4.out.lt (Nat.le_refl _))
  have D_u7_P0 := Lib.hid (ho2.off XP0.out.lt)
  have D_u7_P1 := Lib.hid (ho2.off XP1.out.lt)
  have D_u7_P2 := Lib.hid (ho2.off XP2.out.lt)
  have D_u7_B5 := Lib.hid (ho2.off XB5.out.lt)
  have Ou7 := Lib.hid (ho2.lower HB12.out.size)
  have A_u7_u6 := Lib.hid hap
  have HB13 := Lib.hid (HB12.out.grown hg HB12.out.size (fun _ h => by cases h)); clear HB12
  have Ou4 := Lib.hid (Ou4.out.grown hg)
  have XP0 := Lib.hid (XP0.out.grown hg)
  have XP1 := Lib.hid (XP1.out.grown hg)
  have XP2 := Lib.hid (XP2.out.grown hg)
  have XB5 := Lib.hid (XB5.out.grown hg)
  clear ho1 ho2 hap hg
  obtain ⟨u6_a, u6_n, u6_c, hu6, Nu6⟩ := Ou6.out.sees.shape; subst hu6
  obtain ⟨u7_a, u7_n, u7_c, hu7, Nu7⟩ := Ou7.out.sees.shape; subst hu7
  have hgb := World.grownBy_alloc w11 (.cells #[.int .i64 aP_At, .int .i64 aP_Food, .slice u6_a u6_n u6_c, .slice u7_a u7_n u7_c] 37 (0, 0)) none
  have D_u4_B8 := Lib.hid (Ou4.out.off' (Nat.le_refl _))
  have D_u6_B8 := Lib.hid (Ou6.out.off' (Nat.le_refl _))
  have D_u7_B8 := Lib.hid (Ou7.out.off' (Nat.le_refl _))
  have HB14 := Lib.hid (HB13.out.grown hgb HB13.out.size (fun _ h => by cases h)); clear HB13
  have Ou4 := Lib.hid (Ou4.out.grown hgb)
  have Ou6 := Lib.hid (Ou6.out.grown hgb)
  have Ou7 := Lib.hid (Ou7.out.grown hgb)
  have XP0 := Lib.hid (XP0.out.grown hgb)
  have XP1 := Lib.hid (XP1.out.grown hgb)
  have XP2 := Lib.hid (XP2.out.grown hgb)
  have XB5 := Lib.hid (XB5.out.grown hgb)
  have XB8 := Lib.hid (box_new w11 #[.int .i64 aP_At, .int .i64 aP_Food, .slice u6_a u6_n u6_c, .slice u7_a u7_n u7_c] 37); clear hgb
  try clear cP0_0
  have cP0_0 : World.cell? (w11.alloc (.cells #[.int .i64 aP_At, .int .i64 aP_Food, .slice u6_a u6_n u6_c, .slice u7_a u7_n u7_c] 37 (0, 0))) ⟨w.heap.size, 0, none⟩ = some (.int .i64 aX_W) := XP0.out.cell 0
  try clear cP0_1
  have cP0_1 : World.cell? (w11.alloc (.cells #[.int .i64 aP_At, .int .i64 aP_Food, .slice u6_a u6_n u6_c, .slice u7_a u7_n u7_c] 37 (0, 0))) ⟨w.heap.size, 1, none⟩ = some (.int .i64 aX_H) := XP0.out.cell 1
  try clear cP0_2
  have cP0_2 : World.cell? (w11.alloc (.cells #[.int .i64 aP_At, .int .i64 aP_Food, .slice u6_a u6_n u6_c, .slice u7_a u7_n u7_c] 37 (0, 0))) ⟨w.heap.size, 2, none⟩ = some (.slice aX_Cells_a aX_Cells_L.length aX_Cells_cap) := XP0.out.cell 2
  try clear cP1_0
  have cP1_0 : World.cell? (w11.alloc (.cells #[.int .i64 aP_At, .int .i64 aP_Food, .slice u6_a u6_n u6_c, .slice u7_a u7_n u7_c] 37 (0, 0))) ⟨w.heap.size + 1, 0, none⟩ = some (.int .i64 aR_Most) := XP1.out.cell 0
  try clear cP1_1
  have cP1_1 : World.cell? (w11.alloc (.cells #[.int .i64 aP_At, .int .i64 aP_Food, .slice u6_a u6_n u6_c, .slice u7_a u7_n u7_c] 37 (0, 0))) ⟨w.heap.size + 1, 1, none⟩ = some (.int .i64 aR_Window) := XP1.out.cell 1
  try clear cP2_0
  have cP2_0 : World.cell? (w11.alloc (.cells #[.int .i64 aP_At, .int .i64 aP_Food, .slice u6_a u6_n u6_c, .slice u7_a u7_n u7_c] 37 (0, 0))) ⟨w.heap.size + 1 + 1, 0, none⟩ = some (.int .i64 aP_At) := XP2.out.cell 0
  try clear cP2_1
  have cP2_1 : World.cell? (w11.alloc (.cells #[.int .i64 aP_At, .int .i64 aP_Food, .slice u6_a u6_n u6_c, .slice u7_a u7_n u7_c] 37 (0, 0))) ⟨w.heap.size + 1 + 1, 1, none⟩ = some (.int .i64 aP_Food) := XP2.out.cell 1
  try clear cP2_2
  have cP2_2 : World.cell? (w11.alloc (.cells #[.int .i64 aP_At, .int .i64 aP_Food, .slice u6_a u6_n u6_c, .slice u7_a u7_n u7_c] 37 (0, 0))) ⟨w.heap.size + 1 + 1, 2, none⟩ = some (.slice aP_Crew_a aP_Crew_L.length aP_Crew_cap) := XP2.out.cell 2
  try clear cP2_3
  have cP2_3 : World.cell? (w11.alloc (.cells #[.int .i64 aP_At, .int .i64 aP_Food, .slice u6_a u6_n u6_c, .slice u7_a u7_n u7_c] 37 (0, 0))) ⟨w.heap.size + 1 + 1, 3, none⟩ = some (.slice aP_Past_a aP_Past_L.length aP_Past_cap) := XP2.out.cell 3
  try clear cB5_0
  have cB5_0 : World.cell? (w11.alloc (.cells #[.int .i64 aP_At, .int .i64 aP_Food, .slice u6_a u6_n u6_c, .slice u7_a u7_n u7_c] 37 (0, 0))) ⟨w9.heap.size, 0, none⟩ = some (.int .i64 aX_W) := XB5.out.cell 0
  try clear cB5_1
  have cB5_1 : World.cell? (w11.alloc (.cells #[.int .i64 aP_At, .int .i64 aP_Food, .slice u6_a u6_n u6_c, .slice u7_a u7_n u7_c] 37 (0, 0))) ⟨w9.heap.size, 1, none⟩ = some (.int .i64 aX_H) := XB5.out.cell 1
  try clear cB5_2
  have cB5_2 : World.cell? (w11.alloc (.cells #[.int .i64 aP_At, .int .i64 aP_Food, .slice u6_a u6_n u6_c, .slice u7_a u7_n u7_c] 37 (0, 0))) ⟨w9.heap.size, 2, none⟩ = some (.slice u4_a u4_n u4_c) := XB5.out.cell 2
  try clear cB8_0
  have cB8_0 : World.cell? (w11.alloc (.cells #[.int .i64 aP_At, .int .i64 aP_Food, .slice u6_a u6_n u6_c, .slice u7_a u7_n u7_c] 37 (0, 0))) ⟨w11.heap.size, 0, none⟩ = some (.int .i64 aP_At) := XB8.out.cell 0
  try clear cB8_1
  have cB8_1 : World.cell? (w11.alloc (.cells #[.int .i64 aP_At, .int .i64 aP_Food, .slice u6_a u6_n u6_c, .slice u7_a u7_n u7_c] 37 (0, 0))) ⟨w11.heap.size, 1, none⟩ = some (.int .i64 aP_Food) := XB8.out.cell 1
  try clear cB8_2
  have cB8_2 : World.cell? (w11.alloc (.cells #[.int .i64 aP_At, .int .i64 aP_Food, .slice u6_a u6_n u6_c, .slice u7_a u7_n u7_c] 37 (0, 0))) ⟨w11.heap.size, 2, none⟩ = some (.slice u6_a u6_n u6_c) := XB8.out.cell 2
  try clear cB8_3
  have cB8_3 : World.cell? (w11.alloc (.cells #[.int .i64 aP_At, .int .i64 aP_Food, .slice u6_a u6_n u6_c, .slice u7_a u7_n u7_c] 37 (0, 0))) ⟨w11.heap.size, 3, none⟩ = some (.slice u7_a u7_n u7_c) := XB8.out.cell 3
  go_wp2_with fail
  generalize w11.alloc (.cells #[.int .i64 aP_At, .int .i64 aP_Food, .slice u6_a u6_n u6_c, .slice u7_a u7_n u7_c] 37 (0, 0)) = w12 at *
  have hgd := grown_drew (World.grownBy.refl w12 none)
  have HB15 := Lib.hid (HB14.out.grown hgd HB14.out.size (fun _ h => by cases h)); clear HB14
  have Ou4 := Lib.hid (Ou4.out.grown hgd)
  have Ou6 := Lib.hid (Ou6.out.grown hgd)
  have Ou7 := Lib.hid (Ou7.out.grown hgd)
  have XP0 := Lib.hid (XP0.out.grown hgd)
  have XP1 := Lib.hid (XP1.out.grown hgd)
  have XP2 := Lib.hid (XP2.out.grown hgd)
  have XB5 := Lib.hid (XB5.out.grown hgd)
  have XB8 := Lib.hid (XB8.out.grown hgd)
  clear hgd
  try clear cB5_0
  have cB5_0 : World.cell? ((World.drew w12)) ⟨w9.heap.size, 0, none⟩ = some (.int .i64 aX_W) := XB5.out.cell 0
  try clear cB5_1
  have cB5_1 : World.cell? ((World.drew w12)) ⟨w9.heap.size, 1, none⟩ = some (.int .i64 aX_H) := XB5.out.cell 1
  try clear cB5_2
  have cB5_2 : World.cell? ((World.drew w12)) ⟨w9.heap.size, 2, none⟩ = some (.slice u4_a u4_n u4_c) := XB5.out.cell 2
  try clear cP1_0
  have cP1_0 : World.cell? ((World.drew w12)) ⟨w.heap.size + 1, 0, none⟩ = some (.int .i64 aR_Most) := XP1.out.cell 0
  try clear cP1_1
  have cP1_1 : World.cell? ((World.drew w12)) ⟨w.heap.size + 1, 1, none⟩ = some (.int .i64 aR_Window) := XP1.out.cell 1
  try clear cB8_0
  have cB8_0 : World.cell? ((World.drew w12)) ⟨w11.heap.size, 0, none⟩ = some (.int .i64 aP_At) := XB8.out.cell 0
  try clear cB8_1
  have cB8_1 : World.cell? ((World.drew w12)) ⟨w11.heap.size, 1, none⟩ = some (.int .i64 aP_Food) := XB8.out.cell 1
  try clear cB8_2
  have cB8_2 : World.cell? ((World.drew w12)) ⟨w11.heap.size, 2, none⟩ = some (.slice u6_a u6_n u6_c) := XB8.out.cell 2
  try clear cB8_3
  have cB8_3 : World.cell? ((World.drew w12)) ⟨w11.heap.size, 3, none⟩ = some (.slice u7_a u7_n u7_c) := XB8.out.cell 3
  refine wp_region_held_drew (S := fun w' => w'.cell? ⟨w9.heap.size, 0, none⟩ = some (.int .i64 aX_W) ∧ w'.cell? ⟨w9.heap.size, 1, none⟩ = some (.int .i64 aX_H) ∧ w'.cell? ⟨w9.heap.size, 2, none⟩ = some (.slice u4_a u4_n u4_c) ∧ w'.cell? ⟨w.heap.size + 1, 0, none⟩ = some (.int .i64 aR_Most) ∧ w'.cell? ⟨w.heap.size + 1, 1, none⟩ = some (.int .i64 aR_Window) ∧ w'.cell? ⟨w11.heap.size, 0, none⟩ = some (.int .i64 aP_At) ∧ w'.cell? ⟨w11.heap.size, 1, none⟩ = some (.int .i64 aP_Food) ∧ w'.cell? ⟨w11.heap.size, 2, none⟩ = some (.slice u6_a u6_n u6_c) ∧ w'.cell? ⟨w11.heap.size, 3, none⟩ = some (.slice u7_a u7_n u7_c)) (by kernel_rfl) ⟨cB5_0, cB5_1, cB5_2, cP1_0, cP1_1, cB8_0, cB8_1, cB8_2, cB8_3⟩ (fun hHeld => ?_)
  refine wpAnyH_take (i := 0) (v := ?_) rfl (by kernel_rfl) (by kernel_rfl) (by kernel_rfl) (fun _ _ _ h => h) (Or.inl ⟨by rfl, ?_⟩) (by assumption) ?_; rotate_left; (focus (intro wS hSw; (try dsimp only at hSw); go_simp <;> with_reducible rfl)); (try simp only [Act.put, List.getElem_toArray, List.getElem_cons_succ, List.getElem_cons_zero, List.setIfInBounds_toArray, List.set_cons_zero, List.set_cons_succ])
  refine wpAnyH_take (i := 1) (v := ?_) rfl (by kernel_rfl) (by kernel_rfl) (by kernel_rfl) (fun _ _ _ h => h) (Or.inl ⟨by rfl, ?_⟩) (by assumption) ?_; rotate_left; (focus (intro wS hSw; (try dsimp only at hSw); go_simp <;> with_reducible rfl)); (try simp only [Act.put, List.getElem_toArray, List.getElem_cons_succ, List.getElem_cons_zero, List.setIfInBounds_toArray, List.set_cons_zero, List.set_cons_succ])
  refine wpAnyH_take (i := 2) (v := ?_) rfl (by kernel_rfl) (by kernel_rfl) (by kernel_rfl) (fun _ _ _ h => h) (Or.inl ⟨by rfl, ?_⟩) (by assumption) ?_; rotate_left; (focus (intro wS hSw; (try dsimp only at hSw); go_simp <;> with_reducible rfl)); (try simp only [Act.put, List.getElem_toArray, List.getElem_cons_succ, List.getElem_cons_zero, List.setIfInBounds_toArray, List.set_cons_zero, List.set_cons_succ])
  refine wpAnyH_take (i := 4) (v := ?_) rfl (by kernel_rfl) (by kernel_rfl) (by kernel_rfl) (fun _ _ _ h => h) (Or.inl ⟨by rfl, ?_⟩) (by assumption) ?_; rotate_left; (focus (intro wS hSw; (try dsimp only at hSw); go_simp <;> with_reducible rfl)); (try simp only [Act.put, List.getElem_toArray, List.getElem_cons_succ, List.getElem_cons_zero, List.setIfInBounds_toArray, List.set_cons_zero, List.set_cons_succ])
  refine wpAnyH_ready (rs := [3]) (by kernel_rfl) (by simp) ?_; refine AllReadyH.cons rfl (fun K hK => ?_) AllReadyH.nil; go_simp; (go_at_call 38; refine (RuleL.toRule_any (World.drew w12) aR_Most aR_Window).mono ?_; rintro e w14 ⟨rfl, hg⟩; have HB16 := Lib.hid (HB15.out.grown hg HB15.out.size (fun _ h => by cases h)); clear HB15; have Ou4 := Lib.hid (Ou4.out.grown hg); have Ou6 := Lib.hid (Ou6.out.grown hg); have Ou7 := Lib.hid (Ou7.out.grown hg); have XP0 := Lib.hid (XP0.out.grown hg); have XP1 := Lib.hid (XP1.out.grown hg); have XP2 := Lib.hid (XP2.out.grown hg); have XB5 := Lib.hid (XB5.out.grown hg); have XB8 := Lib.hid (XB8.out.grown hg); clear hg)
  refine hK.out _ _ ?_ (fun hHeld => ?_)
  · exact ⟨XB5.out.cell 0, XB5.out.cell 1, XB5.out.cell 2, XP1.out.cell 0, XP1.out.cell 1, XB8.out.cell 0, XB8.out.cell 1, XB8.out.cell 2, XB8.out.cell 3⟩
  clear hK K
  (try simp only [Act.put, List.getElem_toArray, List.getElem_cons_succ, List.getElem_cons_zero, List.setIfInBounds_toArray, List.set_cons_zero, List.set_cons_succ])
  refine wpAnyH_ready (rs := [5]) (by kernel_rfl) (by simp) ?_; refine AllReadyH.cons rfl (fun K hK => ?_) AllReadyH.nil; go_simp; (go_at_call 39; refine (Need.iNeed_any w14 aX_W aX_H aBase aR_Most aR_Window aP_At aP_Food _ _ _ aX_Cells_L aP_Crew_L aP_Past_L aR_Most_H.out aR_Window_H.out (Ou4.out.sees) (Ou6.out.sees) (Ou7.out.sees)).mono ?_; rintro e w15 ⟨rfl, hg⟩; have HB17 := Lib.hid (HB16.out.grown hg HB16.out.size (fun _ h => by cases h)); clear HB16; have Ou4 := Lib.hid (Ou4.out.grown hg); have Ou6 := Lib.hid (Ou6.out.grown hg); have Ou7 := Lib.hid (Ou7.out.grown hg); have XP0 := Lib.hid (XP0.out.grown hg); have XP1 := Lib.hid (XP1.out.grown hg); have XP2 := Lib.hid (XP2.out.grown hg); have XB5 := Lib.hid (XB5.out.grown hg); have XB8 := Lib.hid (XB8.out.grown hg); clear hg)
  refine hK.out _ _ ?_ (fun hHeld => ?_)
  · exact ⟨XB5.out.cell 0, XB5.out.cell 1, XB5.out.cell 2, XP1.out.cell 0, XP1.out.cell 1, XB8.out.cell 0, XB8.out.cell 1, XB8.out.cell 2, XB8.out.cell 3⟩
  clear hK K
  (try simp only [Act.put, List.getElem_toArray, List.getElem_cons_succ, List.getElem_cons_zero, List.setIfInBounds_toArray, List.set_cons_zero, List.set_cons_succ])
  refine wpAnyH_take (i := 6) (v := ?_) rfl (by kernel_rfl) (by kernel_rfl) (by kernel_rfl) (fun _ _ _ h => h) (Or.inl ⟨by rfl, ?_⟩) (by assumption) ?_; rotate_left; (focus (intro wS hSw; (try dsimp only at hSw); go_simp <;> with_reducible rfl)); (try simp only [Act.put, List.getElem_toArray, List.getElem_cons_succ, List.getElem_cons_zero, List.setIfInBounds_toArray, List.set_cons_zero, List.set_cons_succ])
  refine wpAnyH_done (by kernel_rfl) ?_ _
  (try simp only [Act.put, List.getElem_toArray, List.getElem_cons_succ, List.getElem_cons_zero, List.setIfInBounds_toArray, List.set_cons_zero, List.set_cons_succ])
  try clear cP0_0
  have cP0_0 : World.cell? (w15) ⟨w.heap.size, 0, none⟩ = some (.int .i64 aX_W) := XP0.out.cell 0
  try clear cP0_1
  have cP0_1 : World.cell? (w15) ⟨w.heap.size, 1, none⟩ = some (.int .i64 aX_H) := XP0.out.cell 1
  try clear cP0_2
  have cP0_2 : World.cell? (w15) ⟨w.heap.size, 2, none⟩ = some (.slice aX_Cells_a aX_Cells_L.length aX_Cells_cap) := XP0.out.cell 2
  try clear cP1_0
  have cP1_0 : World.cell? (w15) ⟨w.heap.size + 1, 0, none⟩ = some (.int .i64 aR_Most) := XP1.out.cell 0
  try clear cP1_1
  have cP1_1 : World.cell? (w15) ⟨w.heap.size + 1, 1, none⟩ = some (.int .i64 aR_Window) := XP1.out.cell 1
  try clear cP2_0
  have cP2_0 : World.cell? (w15) ⟨w.heap.size + 1 + 1, 0, none⟩ = some (.int .i64 aP_At) := XP2.out.cell 0
  try clear cP2_1
  have cP2_1 : World.cell? (w15) ⟨w.heap.size + 1 + 1, 1, none⟩ = some (.int .i64 aP_Food) := XP2.out.cell 1
  try clear cP2_2
  have cP2_2 : World.cell? (w15) ⟨w.heap.size + 1 + 1, 2, none⟩ = some (.slice aP_Crew_a aP_Crew_L.length aP_Crew_cap) := XP2.out.cell 2
  try clear cP2_3
  have cP2_3 : World.cell? (w15) ⟨w.heap.size + 1 + 1, 3, none⟩ = some (.slice aP_Past_a aP_Past_L.length aP_Past_cap) := XP2.out.cell 3
  try clear cB5_0
  have cB5_0 : World.cell? (w15) ⟨w9.heap.size, 0, none⟩ = some (.int .i64 aX_W) := XB5.out.cell 0
  try clear cB5_1
  have cB5_1 : World.cell? (w15) ⟨w9.heap.size, 1, none⟩ = some (.int .i64 aX_H) := XB5.out.cell 1
  try clear cB5_2
  have cB5_2 : World.cell? (w15) ⟨w9.heap.size, 2, none⟩ = some (.slice u4_a u4_n u4_c) := XB5.out.cell 2
  try clear cB8_0
  have cB8_0 : World.cell? (w15) ⟨w11.heap.size, 0, none⟩ = some (.int .i64 aP_At) := XB8.out.cell 0
  try clear cB8_1
  have cB8_1 : World.cell? (w15) ⟨w11.heap.size, 1, none⟩ = some (.int .i64 aP_Food) := XB8.out.cell 1
  try clear cB8_2
  have cB8_2 : World.cell? (w15) ⟨w11.heap.size, 2, none⟩ = some (.slice u6_a u6_n u6_c) := XB8.out.cell 2
  try clear cB8_3
  have cB8_3 : World.cell? (w15) ⟨w11.heap.size, 3, none⟩ = some (.slice u7_a u7_n u7_c) := XB8.out.cell 3
  go_wp2_with fail
  have hgd := grown_drew (World.grownBy.refl w15 none)
  have HB18 := Lib.hid (HB17.out.grown hgd HB17.out.size (fun _ h => by cases h)); clear HB17
  have Ou4 := Lib.hid (Ou4.out.grown hgd)
  have Ou6 := Lib.hid (Ou6.out.grown hgd)
  have Ou7 := Lib.hid (Ou7.out.grown hgd)
  have XP0 := Lib.hid (XP0.out.grown hgd)
  have XP1 := Lib.hid (XP1.out.grown hgd)
  have XP2 := Lib.hid (XP2.out.grown hgd)
  have XB5 := Lib.hid (XB5.out.grown hgd)
  have XB8 := Lib.hid (XB8.out.grown hgd)
  clear hgd
  try clear cB5_0
  have cB5_0 : World.cell? ((World.drew w15)) ⟨w9.heap.size, 0, none⟩ = some (.int .i64 aX_W) := XB5.out.cell 0
  try clear cB5_1
  have cB5_1 : World.cell? ((World.drew w15)) ⟨w9.heap.size, 1, none⟩ = some (.int .i64 aX_H) := XB5.out.cell 1
  try clear cB5_2
  have cB5_2 : World.cell? ((World.drew w15)) ⟨w9.heap.size, 2, none⟩ = some (.slice u4_a u4_n u4_c) := XB5.out.cell 2
  try clear cP0_0
  have cP0_0 : World.cell? ((World.drew w15)) ⟨w.heap.size, 0, none⟩ = some (.int .i64 aX_W) := XP0.out.cell 0
  try clear cP0_1
  have cP0_1 : World.cell? ((World.drew w15)) ⟨w.heap.size, 1, none⟩ = some (.int .i64 aX_H) := XP0.out.cell 1
  try clear cP0_2
  have cP0_2 : World.cell? ((World.drew w15)) ⟨w.heap.size, 2, none⟩ = some (.slice aX_Cells_a aX_Cells_L.length aX_Cells_cap) := XP0.out.cell 2
  refine wp_region_held_drew (S := fun w' => w'.cell? ⟨w9.heap.size, 0, none⟩ = some (.int .i64 aX_W) ∧ w'.cell? ⟨w9.heap.size, 1, none⟩ = some (.int .i64 aX_H) ∧ w'.cell? ⟨w9.heap.size, 2, none⟩ = some (.slice u4_a u4_n u4_c) ∧ w'.cell? ⟨w.heap.size, 0, none⟩ = some (.int .i64 aX_W) ∧ w'.cell? ⟨w.heap.size, 1, none⟩ = some (.int .i64 aX_H) ∧ w'.cell? ⟨w.heap.size, 2, none⟩ = some (.slice aX_Cells_a aX_Cells_L.length aX_Cells_cap)) (by kernel_rfl) ⟨cB5_0, cB5_1, cB5_2, cP0_0, cP0_1, cP0_2⟩ (fun hHeld => ?_)
  refine wpAnyH_take (i := 0) (v := ?_) rfl (by kernel_rfl) (by kernel_rfl) (by kernel_rfl) (fun _ _ _ h => h) (Or.inl ⟨by rfl, ?_⟩) (by assumption) ?_; rotate_left; (focus (intro wS hSw; (try dsimp only at hSw); go_simp <;> with_reducible rfl)); (try simp only [Act.put, List.getElem_toArray, List.getElem_cons_succ, List.getElem_cons_zero, List.setIfInBounds_toArray, List.set_cons_zero, List.set_cons_succ])
  refine wpAnyH_take (i := 1) (v := ?_) rfl (by kernel_rfl) (by kernel_rfl) (by kernel_rfl) (fun _ _ _ h => h) (Or.inl ⟨by rfl, ?_⟩) (by assumption) ?_; rotate_left; (focus (intro wS hSw; (try dsimp only at hSw); go_simp <;> with_reducible rfl)); (try simp only [Act.put, List.getElem_toArray, List.getElem_cons_succ, List.getElem_cons_zero, List.setIfInBounds_toArray, List.set_cons_zero, List.set_cons_succ])
  refine wpAnyH_ready (rs := [2]) (by kernel_rfl) (by simp) ?_; refine AllReadyH.cons rfl (fun K hK => ?_) AllReadyH.nil; go_simp; (go_at_call 27; refine (LandL.toLand_any (World.drew w15) aX_W aX_H _ _ (aX_Cells_S.out.below HB18.out) (by omega)).mono ?_; rintro e w17 ⟨u9, rfl, ho, hg⟩; have A_u9_u4 := Lib.hid (Rg.apart_lt ho.lt Ou4.out.lt (Nat.le_refl _)); have A_u9_u6 := Lib.hid (Rg.apart_lt ho.lt Ou6.out.lt (Nat.le_refl _)); have A_u9_u7 := Lib.hid (Rg.apart_lt ho.lt Ou7.out.lt (Nat.le_refl _)); have D_u9_P0 := Lib.hid (ho.off XP0.out.lt); have D_u9_P1 := Lib.hid (ho.off XP1.out.lt); have D_u9_P2 := Lib.hid (ho.off XP2.out.lt); have D_u9_B5 := Lib.hid (ho.off XB5.out.lt); have D_u9_B8 := Lib.hid (ho.off XB8.out.lt); have Ou9 := Lib.hid (ho.lower HB18.out.size); have HB19 := Lib.hid (HB18.out.grown hg HB18.out.size (fun _ h => by cases h)); clear HB18; have Ou4 := Lib.hid (Ou4.out.grown hg); have Ou6 := Lib.hid (Ou6.out.grown hg); have Ou7 := Lib.hid (Ou7.out.grown hg); have XP0 := Lib.hid (XP0.out.grown hg); have XP1 := Lib.hid (XP1.out.grown hg); have XP2 := Lib.hid (XP2.out.grown hg); have XB5 := Lib.hid (XB5.out.grown hg); have XB8 := Lib.hid (XB8.out.grown hg); clear ho hg)
  refine hK.out _ _ ?_ (fun hHeld => ?_)
  · exact ⟨XB5.out.cell 0, XB5.out.cell 1, XB5.out.cell 2, XP0.out.cell 0, XP0.out.cell 1, XP0.out.cell 2⟩
  clear hK K
  (try simp only [Act.put, List.getElem_toArray, List.getElem_cons_succ, List.getElem_cons_zero, List.setIfInBounds_toArray, List.set_cons_zero, List.set_cons_succ])
  refine wpAnyH_ready (rs := [3]) (by kernel_rfl) (by simp) ?_; refine AllReadyH.cons rfl (fun K hK => ?_) AllReadyH.nil; go_simp; (go_at_call 30; refine (LandL.eqLand_same w17 aX_W aX_H _ _ _ (Ou4.out.sees) (Ou9.out.sees)).mono ?_; rintro e w18 ⟨rfl, hg⟩; have HB20 := Lib.hid (HB19.out.grown hg HB19.out.size (fun _ h => by cases h)); clear HB19; have Ou4 := Lib.hid (Ou4.out.grown hg); have Ou6 := Lib.hid (Ou6.out.grown hg); have Ou7 := Lib.hid (Ou7.out.grown hg); have Ou9 := Lib.hid (Ou9.out.grown hg); have XP0 := Lib.hid (XP0.out.grown hg); have XP1 := Lib.hid (XP1.out.grown hg); have XP2 := Lib.hid (XP2.out.grown hg); have XB5 := Lib.hid (XB5.out.grown hg); have XB8 := Lib.hid (XB8.out.grown hg); clear hg)
  refine hK.out _ _ ?_ (fun hHeld => ?_)
  · exact ⟨XB5.out.cell 0, XB5.out.cell 1, XB5.out.cell 2, XP0.out.cell 0, XP0.out.cell 1, XP0.out.cell 2⟩
  clear hK K
  (try simp only [Act.put, List.getElem_toArray, List.getElem_cons_succ, List.getElem_cons_zero, List.setIfInBounds_toArray, List.set_cons_zero, List.set_cons_succ])
  refine wpAnyH_take (i := 4) (v := ?_) rfl (by kernel_rfl) (by kernel_rfl) (by kernel_rfl) (fun _ _ _ h => h) (Or.inl ⟨by rfl, ?_⟩) (by assumption) ?_; rotate_left; (focus (intro wS hSw; (try dsimp only at hSw); go_simp <;> with_reducible rfl)); (try simp only [Act.put, List.getElem_toArray, List.getElem_cons_succ, List.getElem_cons_zero, List.setIfInBounds_toArray, List.set_cons_zero, List.set_cons_succ])
  refine wpAnyH_done (by kernel_rfl) ?_ _
  (try simp only [Act.put, List.getElem_toArray, List.getElem_cons_succ, List.getElem_cons_zero, List.setIfInBounds_toArray, List.set_cons_zero, List.set_cons_succ])
  clear Ou9
  clear Ou4
  try clear cP0_0
  have cP0_0 : World.cell? (w18) ⟨w.heap.size, 0, none⟩ = some (.int .i64 aX_W) := XP0.out.cell 0
  try clear cP0_1
  have cP0_1 : World.cell? (w18) ⟨w.heap.size, 1, none⟩ = some (.int .i64 aX_H) := XP0.out.cell 1
  try clear cP0_2
  have cP0_2 : World.cell? (w18) ⟨w.heap.size, 2, none⟩ = some (.slice aX_Cells_a aX_Cells_L.length aX_Cells_cap) := XP0.out.cell 2
  try clear cP1_0
  have cP1_0 : World.cell? (w18) ⟨w.heap.size + 1, 0, none⟩ = some (.int .i64 aR_Most) := XP1.out.cell 0
  try clear cP1_1
  have cP1_1 : World.cell? (w18) ⟨w.heap.size + 1, 1, none⟩ = some (.int .i64 aR_Window) := XP1.out.cell 1
  try clear cP2_0
  have cP2_0 : World.cell? (w18) ⟨w.heap.size + 1 + 1, 0, none⟩ = some (.int .i64 aP_At) := XP2.out.cell 0
  try clear cP2_1
  have cP2_1 : World.cell? (w18) ⟨w.heap.size + 1 + 1, 1, none⟩ = some (.int .i64 aP_Food) := XP2.out.cell 1
  try clear cP2_2
  have cP2_2 : World.cell? (w18) ⟨w.heap.size + 1 + 1, 2, none⟩ = some (.slice aP_Crew_a aP_Crew_L.length aP_Crew_cap) := XP2.out.cell 2
  try clear cP2_3
  have cP2_3 : World.cell? (w18) ⟨w.heap.size + 1 + 1, 3, none⟩ = some (.slice aP_Past_a aP_Past_L.length aP_Past_cap) := XP2.out.cell 3
  try clear cB5_0
  have cB5_0 : World.cell? (w18) ⟨w9.heap.size, 0, none⟩ = some (.int .i64 aX_W) := XB5.out.cell 0
  try clear cB5_1
  have cB5_1 : World.cell? (w18) ⟨w9.heap.size, 1, none⟩ = some (.int .i64 aX_H) := XB5.out.cell 1
  try clear cB5_2
  have cB5_2 : World.cell? (w18) ⟨w9.heap.size, 2, none⟩ = some (.slice u4_a u4_n u4_c) := XB5.out.cell 2
  try clear cB8_0
  have cB8_0 : World.cell? (w18) ⟨w11.heap.size, 0, none⟩ = some (.int .i64 aP_At) := XB8.out.cell 0
  try clear cB8_1
  have cB8_1 : World.cell? (w18) ⟨w11.heap.size, 1, none⟩ = some (.int .i64 aP_Food) := XB8.out.cell 1
  try clear cB8_2
  have cB8_2 : World.cell? (w18) ⟨w11.heap.size, 2, none⟩ = some (.slice u6_a u6_n u6_c) := XB8.out.cell 2
  try clear cB8_3
  have cB8_3 : World.cell? (w18) ⟨w11.heap.size, 3, none⟩ = some (.slice u7_a u7_n u7_c) := XB8.out.cell 3
  go_wp2_with fail
  have hgd := grown_drew (World.grownBy.refl w18 none)
  have HB21 := Lib.hid (HB20.out.grown hgd HB20.out.size (fun _ h => by cases h)); clear HB20
  have Ou6 := Lib.hid (Ou6.out.grown hgd)
  have Ou7 := Lib.hid (Ou7.out.grown hgd)
  have XP0 := Lib.hid (XP0.out.grown hgd)
  have XP1 := Lib.hid (XP1.out.grown hgd)
  have XP2 := Lib.hid (XP2.out.grown hgd)
  have XB5 := Lib.hid (XB5.out.grown hgd)
  have XB8 := Lib.hid (XB8.out.grown hgd)
  clear hgd
  try clear cB8_0
  have cB8_0 : World.cell? ((World.drew w18)) ⟨w11.heap.size, 0, none⟩ = some (.int .i64 aP_At) := XB8.out.cell 0
  try clear cB8_1
  have cB8_1 : World.cell? ((World.drew w18)) ⟨w11.heap.size, 1, none⟩ = some (.int .i64 aP_Food) := XB8.out.cell 1
  try clear cB8_2
  have cB8_2 : World.cell? ((World.drew w18)) ⟨w11.heap.size, 2, none⟩ = some (.slice u6_a u6_n u6_c) := XB8.out.cell 2
  try clear cB8_3
  have cB8_3 : World.cell? ((World.drew w18)) ⟨w11.heap.size, 3, none⟩ = some (.slice u7_a u7_n u7_c) := XB8.out.cell 3
  try clear cP2_0
  have cP2_0 : World.cell? ((World.drew w18)) ⟨w.heap.size + 1 + 1, 0, none⟩ = some (.int .i64 aP_At) := XP2.out.cell 0
  try clear cP2_1
  have cP2_1 : World.cell? ((World.drew w18)) ⟨w.heap.size + 1 + 1, 1, none⟩ = some (.int .i64 aP_Food) := XP2.out.cell 1
  try clear cP2_2
  have cP2_2 : World.cell? ((World.drew w18)) ⟨w.heap.size + 1 + 1, 2, none⟩ = some (.slice aP_Crew_a aP_Crew_L.length aP_Crew_cap) := XP2.out.cell 2
  try clear cP2_3
  have cP2_3 : World.cell? ((World.drew w18)) ⟨w.heap.size + 1 + 1, 3, none⟩ = some (.slice aP_Past_a aP_Past_L.length aP_Past_cap) := XP2.out.cell 3
  refine wp_region_held_drew (S := fun w' => w'.cell? ⟨w11.heap.size, 0, none⟩ = some (.int .i64 aP_At) ∧ w'.cell? ⟨w11.heap.size, 1, none⟩ = some (.int .i64 aP_Food) ∧ w'.cell? ⟨w11.heap.size, 2, none⟩ = some (.slice u6_a u6_n u6_c) ∧ w'.cell? ⟨w11.heap.size, 3, none⟩ = some (.slice u7_a u7_n u7_c) ∧ w'.cell? ⟨w.heap.size + 1 + 1, 0, none⟩ = some (.int .i64 aP_At) ∧ w'.cell? ⟨w.heap.size + 1 + 1, 1, none⟩ = some (.int .i64 aP_Food) ∧ w'.cell? ⟨w.heap.size + 1 + 1, 2, none⟩ = some (.slice aP_Crew_a aP_Crew_L.length aP_Crew_cap) ∧ w'.cell? ⟨w.heap.size + 1 + 1, 3, none⟩ = some (.slice aP_Past_a aP_Past_L.length aP_Past_cap)) (by kernel_rfl) ⟨cB8_0, cB8_1, cB8_2, cB8_3, cP2_0, cP2_1, cP2_2, cP2_3⟩ (fun hHeld => ?_)
  refine wpAnyH_take (i := 0) (v := ?_) rfl (by kernel_rfl) (by kernel_rfl) (by kernel_rfl) (fun _ _ _ h => h) (Or.inl ⟨by rfl, ?_⟩) (by assumption) ?_; rotate_left; (focus (intro wS hSw; (try dsimp only at hSw); go_simp <;> with_reducible rfl)); (try simp only [Act.put, List.getElem_toArray, List.getElem_cons_succ, List.getElem_cons_zero, List.setIfInBounds_toArray, List.set_cons_zero, List.set_cons_succ])
  refine wpAnyH_take (i := 1) (v := ?_) rfl (by kernel_rfl) (by kernel_rfl) (by kernel_rfl) (fun _ _ _ h => h) (Or.inl ⟨by rfl, ?_⟩) (by assumption) ?_; rotate_left; (focus (intro wS hSw; (try dsimp only at hSw); go_simp <;> with_reducible rfl)); (try simp only [Act.put, List.getElem_toArray, List.getElem_cons_succ, List.getElem_cons_zero, List.setIfInBounds_toArray, List.set_cons_zero, List.set_cons_succ])
  refine wpAnyH_ready (rs := [2]) (by kernel_rfl) (by simp) ?_; refine AllReadyH.cons rfl (fun K hK => ?_) AllReadyH.nil; go_simp; (go_at_call 18; refine (PartyL.toParty_any (World.drew w18) aP_At aP_Food _ _ _ _ (aP_Crew_S.out.below HB21.out) (aP_Past_S.out.below HB21.out) (by omega) (by omega)).mono ?_; rintro e w20 ⟨u10, u11, rfl, ho1, ho2, hap, hg⟩; have A_u10_u6 := Lib.hid (Rg.apart_lt ho1.lt Ou6.out.lt (Nat.le_refl _)); have A_u10_u7 := Lib.hid (Rg.apart_lt ho1.lt Ou7.out.lt (Nat.le_refl _)); have D_u10_P0 := Lib.hid (ho1.off XP0.out.lt); have D_u10_P1 := Lib.hid (ho1.off XP1.out.lt); have D_u10_P2 := Lib.hid (ho1.off XP2.out.lt); have D_u10_B5 := Lib.hid (ho1.off XB5.out.lt); have D_u10_B8 := Lib.hid (ho1.off XB8.out.lt); have Ou10 := Lib.hid (ho1.lower HB21.out.size); have A_u11_u6 := Lib.hid (Rg.apart_lt ho2.lt Ou6.out.lt (Nat.le_refl _)); have A_u11_u7 := Lib.hid (Rg.apart_lt ho2.lt Ou7.out.lt (Nat.le_refl _)); have D_u11_P0 := Lib.hid (ho2.off XP0.out.lt); have D_u11_P1 := Lib.hid (ho2.off XP1.out.lt); have D_u11_P2 := Lib.hid (ho2.off XP2.out.lt); have D_u11_B5 := Lib.hid (ho2.off XB5.out.lt); have D_u11_B8 := Lib.hid (ho2.off XB8.out.lt); have Ou11 := Lib.hid (ho2.lower HB21.out.size); have A_u11_u10 := Lib.hid hap; have HB22 := Lib.hid (HB21.out.grown hg HB21.out.size (fun _ h => by cases h)); clear HB21; have Ou6 := Lib.hid (Ou6.out.grown hg); have Ou7 := Lib.hid (Ou7.out.grown hg); have XP0 := Lib.hid (XP0.out.grown hg); have XP1 := Lib.hid (XP1.out.grown hg); have XP2 := Lib.hid (XP2.out.grown hg); have XB5 := Lib.hid (XB5.out.grown hg); have XB8 := Lib.hid (XB8.out.grown hg); clear ho1 ho2 hap hg)
  refine hK.out _ _ ?_ (fun hHeld => ?_)
  · exact ⟨XB8.out.cell 0, XB8.out.cell 1, XB8.out.cell 2, XB8.out.cell 3, XP2.out.cell 0, XP2.out.cell 1, XP2.out.cell 2, XP2.out.cell 3⟩
  clear hK K
  (try simp only [Act.put, List.getElem_toArray, List.getElem_cons_succ, List.getElem_cons_zero, List.setIfInBounds_toArray, List.set_cons_zero, List.set_cons_succ])
  refine wpAnyH_ready (rs := [3]) (by kernel_rfl) (by simp) ?_; refine AllReadyH.cons rfl (fun K hK => ?_) AllReadyH.nil; go_simp; (go_at_call 20; refine (PartyL.eqParty_same w20 aP_At aP_Food _ _ _ _ _ _ (Ou6.out.sees) (Ou7.out.sees) (Ou10.out.sees) (Ou11.out.sees)).mono ?_; rintro e w21 ⟨rfl, hg⟩; have HB23 := Lib.hid (HB22.out.grown hg HB22.out.size (fun _ h => by cases h)); clear HB22; have Ou6 := Lib.hid (Ou6.out.grown hg); have Ou7 := Lib.hid (Ou7.out.grown hg); have Ou10 := Lib.hid (Ou10.out.grown hg); have Ou11 := Lib.hid (Ou11.out.grown hg); have XP0 := Lib.hid (XP0.out.grown hg); have XP1 := Lib.hid (XP1.out.grown hg); have XP2 := Lib.hid (XP2.out.grown hg); have XB5 := Lib.hid (XB5.out.grown hg); have XB8 := Lib.hid (XB8.out.grown hg); clear hg)
  refine hK.out _ _ ?_ (fun hHeld => ?_)
  · exact ⟨XB8.out.cell 0, XB8.out.cell 1, XB8.out.cell 2, XB8.out.cell 3, XP2.out.cell 0, XP2.out.cell 1, XP2.out.cell 2, XP2.out.cell 3⟩
  clear hK K
  (try simp only [Act.put, List.getElem_toArray, List.getElem_cons_succ, List.getElem_cons_zero, List.setIfInBounds_toArray, List.set_cons_zero, List.set_cons_succ])
  refine wpAnyH_take (i := 4) (v := ?_) rfl (by kernel_rfl) (by kernel_rfl) (by kernel_rfl) (fun _ _ _ h => h) (Or.inl ⟨by rfl, ?_⟩) (by assumption) ?_; rotate_left; (focus (intro wS hSw; (try dsimp only at hSw); go_simp <;> with_reducible rfl)); (try simp only [Act.put, List.getElem_toArray, List.getElem_cons_succ, List.getElem_cons_zero, List.setIfInBounds_toArray, List.set_cons_zero, List.set_cons_succ])
  refine wpAnyH_done (by kernel_rfl) ?_ _
  (try simp only [Act.put, List.getElem_toArray, List.getElem_cons_succ, List.getElem_cons_zero, List.setIfInBounds_toArray, List.set_cons_zero, List.set_cons_succ])
  clear Ou10
  clear Ou11
  clear Ou6
  clear Ou7
  try clear cP0_0
  have cP0_0 : World.cell? (w21) ⟨w.heap.size, 0, none⟩ = some (.int .i64 aX_W) := XP0.out.cell 0
  try clear cP0_1
  have cP0_1 : World.cell? (w21) ⟨w.heap.size, 1, none⟩ = some (.int .i64 aX_H) := XP0.out.cell 1
  try clear cP0_2
  have cP0_2 : World.cell? (w21) ⟨w.heap.size, 2, none⟩ = some (.slice aX_Cells_a aX_Cells_L.length aX_Cells_cap) := XP0.out.cell 2
  try clear cP1_0
  have cP1_0 : World.cell? (w21) ⟨w.heap.size + 1, 0, none⟩ = some (.int .i64 aR_Most) := XP1.out.cell 0
  try clear cP1_1
  have cP1_1 : World.cell? (w21) ⟨w.heap.size + 1, 1, none⟩ = some (.int .i64 aR_Window) := XP1.out.cell 1
  try clear cP2_0
  have cP2_0 : World.cell? (w21) ⟨w.heap.size + 1 + 1, 0, none⟩ = some (.int .i64 aP_At) := XP2.out.cell 0
  try clear cP2_1
  have cP2_1 : World.cell? (w21) ⟨w.heap.size + 1 + 1, 1, none⟩ = some (.int .i64 aP_Food) := XP2.out.cell 1
  try clear cP2_2
  have cP2_2 : World.cell? (w21) ⟨w.heap.size + 1 + 1, 2, none⟩ = some (.slice aP_Crew_a aP_Crew_L.length aP_Crew_cap) := XP2.out.cell 2
  try clear cP2_3
  have cP2_3 : World.cell? (w21) ⟨w.heap.size + 1 + 1, 3, none⟩ = some (.slice aP_Past_a aP_Past_L.length aP_Past_cap) := XP2.out.cell 3
  try clear cB5_0
  have cB5_0 : World.cell? (w21) ⟨w9.heap.size, 0, none⟩ = some (.int .i64 aX_W) := XB5.out.cell 0
  try clear cB5_1
  have cB5_1 : World.cell? (w21) ⟨w9.heap.size, 1, none⟩ = some (.int .i64 aX_H) := XB5.out.cell 1
  try clear cB5_2
  have cB5_2 : World.cell? (w21) ⟨w9.heap.size, 2, none⟩ = some (.slice u4_a u4_n u4_c) := XB5.out.cell 2
  try clear cB8_0
  have cB8_0 : World.cell? (w21) ⟨w11.heap.size, 0, none⟩ = some (.int .i64 aP_At) := XB8.out.cell 0
  try clear cB8_1
  have cB8_1 : World.cell? (w21) ⟨w11.heap.size, 1, none⟩ = some (.int .i64 aP_Food) := XB8.out.cell 1
  try clear cB8_2
  have cB8_2 : World.cell? (w21) ⟨w11.heap.size, 2, none⟩ = some (.slice u6_a u6_n u6_c) := XB8.out.cell 2
  try clear cB8_3
  have cB8_3 : World.cell? (w21) ⟨w11.heap.size, 3, none⟩ = some (.slice u7_a u7_n u7_c) := XB8.out.cell 3
  go_wp2
  go_ret
  exact ⟨rfl, HB23.out⟩

set_option maxRecDepth 100000 in
/-- What the walk gives, for every argument. -/
theorem contract (H : Type) (enc : TypeId × Value → H) (W : World) (base : Nat) (args : Array Value) (ds gs : List (DataW H)) (before : List MemPlace)
    (hval : ∀ (j : Nat) t v, Try.f8.params[j]? = some t → args[j]? = some v → Value.okWide Try.prog W .any base t v)
    (hW : DataW.Whole enc Try.prog Try.f8.params.toList Rows.fnExactNeedHomeSpec.vars false W args.toList ds gs before) :
    Calls Try.prog 8 args W fun e W' => ∃ v, e = .returned v ∧ Rows.fnExactNeedHomeSpec.post enc Try.prog Try.f8 false true false false W args v W' := by
  have hW' := hW
  obtain ⟨p, q, hA0, hV, rfl, hfz, hnd⟩ := hW
  have hA : DataW.TrodAll enc Try.prog W 0 (fun _ => true) true Try.f8.params.toList args.toList ds p := hA0
  rw [Try.params8] at hA hval
  obtain ⟨v0, vs0, d0, ds0, p0, q0, hargs, rfl, rfl, h0, r0⟩ := trodAll_cons hA
  obtain ⟨v1, vs1, d1, ds1, p1, q1, rfl, rfl, rfl, h1, r1⟩ := trodAll_cons r0
  obtain ⟨v2, vs2, d2, ds2, p2, q2, rfl, rfl, rfl, h2, r2⟩ := trodAll_cons r1
  obtain ⟨v3, vs3, d3, ds3, p3, q3, rfl, rfl, rfl, h3, r3⟩ := trodAll_cons r2
  obtain ⟨rfl, rfl, rfl⟩ := trodAll_nil r3
  obtain rfl : args = #[v0, v1, v2, v3] := by cases args; simp_all
  obtain ⟨rfl, rfl⟩ := trodVars_none hV
  have k0 := h0
  have lt0 : ∀ x ∈ p0, x.block < W.heap.size := by obtain ⟨m, hm⟩ := k0; exact DataW.trod_lt m _ _ _ hm
  obtain ⟨f0_0, f0_1, f0_2, y0_0, y0_1, y0_2, fn0, rfl, rfl, rfl, g0_0, g0_1, g0_2⟩ := Go.Joins.open_agg3 Try.underlying47 (by kernel_rfl) (by kernel_rfl) (hval 0 47 v0 rfl rfl) h0
  obtain ⟨x0_0, rfl, w0_0⟩ := Kit.field_int Try.underlying3 g0_0
  obtain ⟨x0_1, rfl, w0_1⟩ := Kit.field_int Try.underlying3 g0_1
  obtain ⟨a0_2, l0_2, c0_2, z0_2, rfl, w0_2⟩ := Kit.field_row Try.underlying45 Try.underlying3 (by kernel_rfl) g0_2
  obtain ⟨a1, rfl, rfl, rfl, w1⟩ := open_int Try.underlying3 (hval 1 3 v1 rfl rfl) h1
  have k2 := h2
  have lt2 : ∀ x ∈ p2, x.block < W.heap.size := by obtain ⟨m, hm⟩ := k2; exact DataW.trod_lt m _ _ _ hm
  obtain ⟨f2_0, f2_1, y2_0, y2_1, fn2, rfl, rfl, rfl, g2_0, g2_1⟩ := Go.Joins.open_agg2 Try.underlying62 (by kernel_rfl) (by kernel_rfl) (hval 2 62 v2 rfl rfl) h2
  obtain ⟨x2_0, rfl, w2_0⟩ := Kit.field_int Try.underlying3 g2_0
  obtain ⟨x2_1, rfl, w2_1⟩ := Kit.field_int Try.underlying3 g2_1
  have k3 := h3
  have lt3 : ∀ x ∈ p3, x.block < W.heap.size := by obtain ⟨m, hm⟩ := k3; exact DataW.trod_lt m _ _ _ hm
  obtain ⟨f3_0, f3_1, f3_2, f3_3, y3_0, y3_1, y3_2, y3_3, fn3, rfl, rfl, rfl, g3_0, g3_1, g3_2, g3_3⟩ := Go.Joins.open_agg4 Try.underlying32 (by kernel_rfl) (by kernel_rfl) (hval 3 32 v3 rfl rfl) h3
  obtain ⟨x3_0, rfl, w3_0⟩ := Kit.field_int Try.underlying3 g3_0
  obtain ⟨x3_1, rfl, w3_1⟩ := Kit.field_int Try.underlying3 g3_1
  obtain ⟨a3_2, l3_2, c3_2, z3_2, rfl, w3_2⟩ := Rg.field_rowG (e := Rg.encM) Try.underlying29 (by kernel_rfl) (Rg.encM_open Try.underlying94 (by kernel_rfl) Try.underlying3 Try.underlying3 Try.underlying3 Try.underlying4) g3_2
  obtain ⟨a3_3, l3_3, c3_3, z3_3, rfl, w3_3⟩ := Rg.field_rowG (e := Rg.encB) Try.underlying30 (by kernel_rfl) (Rg.encB_open Try.underlying4) g3_3
  clear hA0
  refine (walk W x0_0 w0_0 x0_1 w0_1 a0_2 l0_2 c0_2 z0_2 w0_2 a1 w1 x2_0 w2_0 x2_1 w2_1 x3_0 w3_0 x3_1 w3_1 a3_2 l3_2 c3_2 z3_2 w3_2 a3_3 l3_3 c3_3 z3_3 w3_3).mono fun e W' ⟨he, bel⟩ => ?_
  subst he
  exact ⟨_, rfl, _, _, _, [], _, [], hW', trodAll_mk1 (shut_bool Try.underlying4 _), (trodAll_cons_mk (Below.trod laidOut (by kernel_rfl) (of_decide_eq_true (by kernel_rfl)) k0 bel lt0) (trodAll_cons_mk (shut_int Try.underlying3 w1) (trodAll_cons_mk (Below.trod laidOut (by kernel_rfl) (of_decide_eq_true (by kernel_rfl)) k2 bel lt2) (trodAll_cons_mk (Below.trod laidOut (by kernel_rfl) (of_decide_eq_true (by kernel_rfl)) k3 bel lt3) trodAll_mk0)))), rfl, bel.frame _, fun h => by cases h⟩

noncomputable def laidWorld (os : Os) : World := World.holding Try.prog os ⟨#[], #[], []⟩
theorem reads (os : Os) {H : Type} (enc : TypeId × Value → H) : ∃ places, DataW.whole enc Try.prog ((laidWorld os).forCall (fun _ _ => 0) ⟨#[], #[.agg #[.int .i64 0, .int .i64 0, .slice none 0 0], .int .i64 0, .agg #[.int .i64 0, .int .i64 0], .agg #[.int .i64 0, .int .i64 0, .slice none 0 0, .slice none 0 0]], []⟩).memory Try.f8.params.toList Rows.fnExactNeedHomeSpec.vars false (#[.agg #[.int .i64 0, .int .i64 0, .slice none 0 0], .int .i64 0, .agg #[.int .i64 0, .int .i64 0], .agg #[.int .i64 0, .int .i64 0, .slice none 0 0, .slice none 0 0]] : Array Value).toList 8 = some ([.agg [.lit (.int .i64 0), .lit (.int .i64 0), .nil], .lit (.int .i64 0), .agg [.lit (.int .i64 0), .lit (.int .i64 0)], .agg [.lit (.int .i64 0), .lit (.int .i64 0), .nil, .nil]], [], places) :=
  ⟨[], by kernel_rfl⟩

set_option maxRecDepth 100000 in
theorem lifted (os : Os) (started : os.Started) (H : Type) (enc : TypeId × Value → H) (F : Stop.Interp) :
    ReturnsInHanded {} Try.checked os 8 .any ((OpenSpec.ofChange Rows.fnExactNeedHomeSpec).preRow enc Try.prog Try.f8 Rows.fnExactNeedHomeRow.domain false Rows.fnExactNeedHomeRow.laid) (((OpenSpec.ofChange Rows.fnExactNeedHomeSpec).at F).post enc Try.prog Try.f8 false true false false) := by
  obtain ⟨places, hx⟩ := reads os enc
  refine returnsInHanded_of_row (C := Try.checked) (s := (OpenSpec.ofChange Rows.fnExactNeedHomeSpec)) own started (by kernel_rfl) Try.func8
    (witness_row_at (enc := enc) (C := Try.checked) false (laidWorld os) #[.agg #[.int .i64 0, .int .i64 0, .slice none 0 0], .int .i64 0, .agg #[.int .i64 0, .int .i64 0], .agg #[.int .i64 0, .int .i64 0, .slice none 0 0, .slice none 0 0]] rfl (by kernel_rfl) (by kernel_rfl) (by kernel_rfl)
      (OpenSpec.preRow_of_cond 8 hx (by kernel_rfl) (fun k hk => by cases hk) (by kernel_rfl) (laidMetH_nil _ _))) ?_
  intro W base args ds gs before hval hW _ _ _ _ _ _
  exact contract H enc W base args ds gs before hval hW

set_option maxRecDepth 100000 in
theorem said : Rows.FnExactNeedHomeSaid :=
  OpenClaim.holds_of_cond 8 Try.f8 rfl rfl rfl rfl rfl rfl rfl ⟨rfl, rfl, rfl, rfl, rfl⟩ rfl rfl rfl rfl rfl (by kernel_rfl) Try.func8 (by kernel_rfl)
    (of_decide_eq_true (by kernel_rfl)) (by unfold Func.isWrapper; first | (rw [if_pos (by decide +kernel)]; kernel_rfl) | (rw [if_neg (by decide +kernel)]; exact ⟨rfl, rfl⟩))
    (fun os started H enc _ F => by rw [OpenClaim.pre_eq_preRow]; exact lifted os started H enc F)

theorem proved : Rows.FnExactNeedHomeSaid := said
#print axioms proved
end Go.Proofs.Ytfcjbkagofccdaa.fnExactNeedHome

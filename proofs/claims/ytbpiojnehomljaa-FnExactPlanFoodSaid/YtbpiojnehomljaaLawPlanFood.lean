/- The law FnExactPlanFood: the program's PlanFood answers as its model, for every argument; it writes into no argument, and its answer owns its memory. No condition. -/
import Derived.Deep.RegionHeld3
import Derived.Test.YtbpiojnehomljaaRows
import Derived.Test.YtbpiojnehomljaaG2
import Derived.Test.YtbpiojnehomljaaG3
import Derived.Test.YtbpiojnehomljaaG5
import Derived.Test.YtbpiojnehomljaaG6
import Derived.Test.YtbpiojnehomljaaG7
import Derived.Test.YtbpiojnehomljaaG11
import Derived.Test.YtbpiojnehomljaaPartyL
import Derived.Test.YtbpiojnehomljaaPlo
import Derived.WalkKit
import Derived.ProofKit
import Derived.OpenShut
import Derived.ShutString
import Derived.ChangeOld
import Derived.Below
import Derived.Deep.DeepHandedRow
import Derived.Deep.DeepWitnessRowRef
import Derived.Lib.LaidTab
namespace Go.Proofs.Ytbpiojnehomljaa.fnExactPlanFood
open Go.ChangeShapes Go.WideShapes Go.ChangeAt Go.RowKit
open Go.ChangeMaps (open_string shut_string)
set_option linter.unusedVariables false

theorem own : ownKnob Try.prog.godebug = none := by kernel_rfl
theorem laidOut : laidOutB Try.prog = true := by kernel_rfl

open Kit Rw
set_option maxRecDepth 100000 in
set_option maxHeartbeats 4000000 in
theorem walk (w : World) (aX_W : Int) (aX_W_h : (Lit.int .i64 aX_W).wf = true) (aX_H : Int) (aX_H_h : (Lit.int .i64 aX_H).wf = true) (aX_Cells_a : Option Addr) (aX_Cells_len aX_Cells_cap : Nat) (aX_Cells_z : List Int) (aX_Cells_h : Kit.IsRow .i64 w aX_Cells_a aX_Cells_len aX_Cells_cap aX_Cells_z) (aFrom : Int) (aFrom_h : (Lit.int .i64 aFrom).wf = true) (aL_a : Option Addr) (aL_len aL_cap : Nat) (aL_L : List (Int × Int)) (aL_h : aL_L.length = aL_len ∧ Rg.SeesG Rg.encP w (.slice aL_a aL_len aL_cap) aL_L) (aR_Most : Int) (aR_Most_h : (Lit.int .i64 aR_Most).wf = true) (aR_Window : Int) (aR_Window_h : (Lit.int .i64 aR_Window).wf = true) (aP_At : Int) (aP_At_h : (Lit.int .i64 aP_At).wf = true) (aP_Food : Int) (aP_Food_h : (Lit.int .i64 aP_Food).wf = true) (aP_Crew_a : Option Addr) (aP_Crew_len aP_Crew_cap : Nat) (aP_Crew_L : List Rg.Mem) (aP_Crew_h : aP_Crew_L.length = aP_Crew_len ∧ Rg.SeesG Rg.encM w (.slice aP_Crew_a aP_Crew_len aP_Crew_cap) aP_Crew_L) (aP_Past_a : Option Addr) (aP_Past_len aP_Past_cap : Nat) (aP_Past_L : List Bool) (aP_Past_h : aP_Past_L.length = aP_Past_len ∧ Rg.SeesG Rg.encB w (.slice aP_Past_a aP_Past_len aP_Past_cap) aP_Past_L) :
    Calls Try.prog 5 #[.agg #[.int .i64 aX_W, .int .i64 aX_H, .slice aX_Cells_a aX_Cells_len aX_Cells_cap], .int .i64 aFrom, .slice aL_a aL_len aL_cap, .agg #[.int .i64 aR_Most, .int .i64 aR_Window], .agg #[.int .i64 aP_At, .int .i64 aP_Food, .slice aP_Crew_a aP_Crew_len aP_Crew_cap, .slice aP_Past_a aP_Past_len aP_Past_cap]] w fun e w' => e = .returned (.bool true) ∧ Below w.heap.size w w' := by
  obtain ⟨aL_e, aL_s0⟩ := aL_h; have aL_S := Lib.hid aL_s0; have aL_len0 := aL_s0.len; subst aL_e; clear aL_s0
  obtain ⟨aP_Crew_e, aP_Crew_s0⟩ := aP_Crew_h; have aP_Crew_S := Lib.hid aP_Crew_s0; have aP_Crew_len0 := aP_Crew_s0.len; subst aP_Crew_e; clear aP_Crew_s0
  obtain ⟨aP_Past_e, aP_Past_s0⟩ := aP_Past_h; have aP_Past_S := Lib.hid aP_Past_s0; have aP_Past_len0 := aP_Past_s0.len; subst aP_Past_e; clear aP_Past_s0
  have aX_Cells_g := Lib.hid aX_Cells_h; clear aX_Cells_h
  obtain ⟨aX_Cells_L, aX_Cells_e, aX_Cells_s0⟩ := IsRow.sees aX_Cells_g.out
  have aX_Cells_S := Lib.hid aX_Cells_s0; have aX_Cells_len0 := aX_Cells_s0.len; subst aX_Cells_e; clear aX_Cells_s0 aX_Cells_g
  have aX_W_H := Lib.hid aX_W_h; have aX_W_b := i64_of aX_W_h; clear aX_W_h
  have aX_H_H := Lib.hid aX_H_h; have aX_H_b := i64_of aX_H_h; clear aX_H_h
  have aFrom_H := Lib.hid aFrom_h; have aFrom_b := i64_of aFrom_h; clear aFrom_h
  have aR_Most_H := Lib.hid aR_Most_h; have aR_Most_b := i64_of aR_Most_h; clear aR_Most_h
  have aR_Window_H := Lib.hid aR_Window_h; have aR_Window_b := i64_of aR_Window_h; clear aR_Window_h
  have aP_At_H := Lib.hid aP_At_h; have aP_At_b := i64_of aP_At_h; clear aP_At_h
  have aP_Food_H := Lib.hid aP_Food_h; have aP_Food_b := i64_of aP_Food_h; clear aP_Food_h
  by_cases aX_l : (aX_Cells_L.length : Int) ≤ (1048576 : Int)
  rotate_left
  ·
    have HB0 : Hid (Below w.heap.size w w) := Below.refl _ _
    have hgb := World.grownBy_alloc w (.cells #[.int .i64 aX_W, .int .i64 aX_H, .slice aX_Cells_a aX_Cells_L.length aX_Cells_cap] 24 (0, 0)) none
    have HB1 := Lib.hid (HB0.out.grown hgb HB0.out.size (fun _ h => by cases h)); clear HB0
    have XP0 := Lib.hid (box_new w #[.int .i64 aX_W, .int .i64 aX_H, .slice aX_Cells_a aX_Cells_L.length aX_Cells_cap] 24); clear hgb
    have hgb := World.grownBy_alloc (w.alloc (.cells #[.int .i64 aX_W, .int .i64 aX_H, .slice aX_Cells_a aX_Cells_L.length aX_Cells_cap] 24 (0, 0))) (.cells #[.int .i64 aR_Most, .int .i64 aR_Window] 42 (0, 0)) none
    have HB2 := Lib.hid (HB1.out.grown hgb HB1.out.size (fun _ h => by cases h)); clear HB1
    have XP0 := Lib.hid (XP0.out.grown hgb)
    have XP1 := Lib.hid (box_new (w.alloc (.cells #[.int .i64 aX_W, .int .i64 aX_H, .slice aX_Cells_a aX_Cells_L.length aX_Cells_cap] 24 (0, 0))) #[.int .i64 aR_Most, .int .i64 aR_Window] 42); clear hgb
    simp only [World.size_alloc] at XP1
    have hgb := World.grownBy_alloc ((w.alloc (.cells #[.int .i64 aX_W, .int .i64 aX_H, .slice aX_Cells_a aX_Cells_L.length aX_Cells_cap] 24 (0, 0))).alloc (.cells #[.int .i64 aR_Most, .int .i64 aR_Window] 42 (0, 0))) (.cells #[.int .i64 aP_At, .int .i64 aP_Food, .slice aP_Crew_a aP_Crew_L.length aP_Crew_cap, .slice aP_Past_a aP_Past_L.length aP_Past_cap] 46 (0, 0)) none
    have HB3 := Lib.hid (HB2.out.grown hgb HB2.out.size (fun _ h => by cases h)); clear HB2
    have XP0 := Lib.hid (XP0.out.grown hgb)
    have XP1 := Lib.hid (XP1.out.grown hgb)
    have XP2 := Lib.hid (box_new ((w.alloc (.cells #[.int .i64 aX_W, .int .i64 aX_H, .slice aX_Cells_a aX_Cells_L.length aX_Cells_cap] 24 (0, 0))).alloc (.cells #[.int .i64 aR_Most, .int .i64 aR_Window] 42 (0, 0))) #[.int .i64 aP_At, .int .i64 aP_Food, .slice aP_Crew_a aP_Crew_L.length aP_Crew_cap, .slice aP_Past_a aP_Past_L.length aP_Past_cap] 46); clear hgb
    simp only [World.size_alloc] at XP2
    go_enter Try.func5, Try.ntmps5
    try clear cP0_0
    have cP0_0 : World.cell? (((w.alloc (.cells #[.int .i64 aX_W, .int .i64 aX_H, .slice aX_Cells_a aX_Cells_L.length aX_Cells_cap] 24 (0, 0))).alloc (.cells #[.int .i64 aR_Most, .int .i64 aR_Window] 42 (0, 0))).alloc (.cells #[.int .i64 aP_At, .int .i64 aP_Food, .slice aP_Crew_a aP_Crew_L.length aP_Crew_cap, .slice aP_Past_a aP_Past_L.length aP_Past_cap] 46 (0, 0))) ⟨w.heap.size, 0, none⟩ = some (.int .i64 aX_W) := XP0.out.cell 0
    try clear cP0_1
    have cP0_1 : World.cell? (((w.alloc (.cells #[.int .i64 aX_W, .int .i64 aX_H, .slice aX_Cells_a aX_Cells_L.length aX_Cells_cap] 24 (0, 0))).alloc (.cells #[.int .i64 aR_Most, .int .i64 aR_Window] 42 (0, 0))).alloc (.cells #[.int .i64 aP_At, .int .i64 aP_Food, .slice aP_Crew_a aP_Crew_L.length aP_Crew_cap, .slice aP_Past_a aP_Past_L.length aP_Past_cap] 46 (0, 0))) ⟨w.heap.size, 1, none⟩ = some (.int .i64 aX_H) := XP0.out.cell 1
    try clear cP0_2
    have cP0_2 : World.cell? (((w.alloc (.cells #[.int .i64 aX_W, .int .i64 aX_H, .slice aX_Cells_a aX_Cells_L.length aX_Cells_cap] 24 (0, 0))).alloc (.cells #[.int .i64 aR_Most, .int .i64 aR_Window] 42 (0, 0))).alloc (.cells #[.int .i64 aP_At, .int .i64 aP_Food, .slice aP_Crew_a aP_Crew_L.length aP_Crew_cap, .slice aP_Past_a aP_Past_L.length aP_Past_cap] 46 (0, 0))) ⟨w.heap.size, 2, none⟩ = some (.slice aX_Cells_a aX_Cells_L.length aX_Cells_cap) := XP0.out.cell 2
    try clear cP1_0
    have cP1_0 : World.cell? (((w.alloc (.cells #[.int .i64 aX_W, .int .i64 aX_H, .slice aX_Cells_a aX_Cells_L.length aX_Cells_cap] 24 (0, 0))).alloc (.cells #[.int .i64 aR_Most, .int .i64 aR_Window] 42 (0, 0))).alloc (.cells #[.int .i64 aP_At, .int .i64 aP_Food, .slice aP_Crew_a aP_Crew_L.length aP_Crew_cap, .slice aP_Past_a aP_Past_L.length aP_Past_cap] 46 (0, 0))) ⟨w.heap.size + 1, 0, none⟩ = some (.int .i64 aR_Most) := XP1.out.cell 0
    try clear cP1_1
    have cP1_1 : World.cell? (((w.alloc (.cells #[.int .i64 aX_W, .int .i64 aX_H, .slice aX_Cells_a aX_Cells_L.length aX_Cells_cap] 24 (0, 0))).alloc (.cells #[.int .i64 aR_Most, .int .i64 aR_Window] 42 (0, 0))).alloc (.cells #[.int .i64 aP_At, .int .i64 aP_Food, .slice aP_Crew_a aP_Crew_L.length aP_Crew_cap, .slice aP_Past_a aP_Past_L.length aP_Past_cap] 46 (0, 0))) ⟨w.heap.size + 1, 1, none⟩ = some (.int .i64 aR_Window) := XP1.out.cell 1
    try clear cP2_0
    have cP2_0 : World.cell? (((w.alloc (.cells #[.int .i64 aX_W, .int .i64 aX_H, .slice aX_Cells_a aX_Cells_L.length aX_Cells_cap] 24 (0, 0))).alloc (.cells #[.int .i64 aR_Most, .int .i64 aR_Window] 42 (0, 0))).alloc (.cells #[.int .i64 aP_At, .int .i64 aP_Food, .slice aP_Crew_a aP_Crew_L.length aP_Crew_cap, .slice aP_Past_a aP_Past_L.length aP_Past_cap] 46 (0, 0))) ⟨w.heap.size + 1 + 1, 0, none⟩ = some (.int .i64 aP_At) := XP2.out.cell 0
    try clear cP2_1
    have cP2_1 : World.cell? (((w.alloc (.cells #[.int .i64 aX_W, .int .i64 aX_H, .slice aX_Cells_a aX_Cells_L.length aX_Cells_cap] 24 (0, 0))).alloc (.cells #[.int .i64 aR_Most, .int .i64 aR_Window] 42 (0, 0))).alloc (.cells #[.int .i64 aP_At, .int .i64 aP_Food, .slice aP_Crew_a aP_Crew_L.length aP_Crew_cap, .slice aP_Past_a aP_Past_L.length aP_Past_cap] 46 (0, 0))) ⟨w.heap.size + 1 + 1, 1, none⟩ = some (.int .i64 aP_Food) := XP2.out.cell 1
    try clear cP2_2
    have cP2_2 : World.cell? (((w.alloc (.cells #[.int .i64 aX_W, .int .i64 aX_H, .slice aX_Cells_a aX_Cells_L.length aX_Cells_cap] 24 (0, 0))).alloc (.cells #[.int .i64 aR_Most, .int .i64 aR_Window] 42 (0, 0))).alloc (.cells #[.int .i64 aP_At, .int .i64 aP_Food, .slice aP_Crew_a aP_Crew_L.length aP_Crew_cap, .slice aP_Past_a aP_Past_L.length aP_Past_cap] 46 (0, 0))) ⟨w.heap.size + 1 + 1, 2, none⟩ = some (.slice aP_Crew_a aP_Crew_L.length aP_Crew_cap) := XP2.out.cell 2
    try clear cP2_3
    have cP2_3 : World.cell? (((w.alloc (.cells #[.int .i64 aX_W, .int .i64 aX_H, .slice aX_Cells_a aX_Cells_L.length aX_Cells_cap] 24 (0, 0))).alloc (.cells #[.int .i64 aR_Most, .int .i64 aR_Window] 42 (0, 0))).alloc (.cells #[.int .i64 aP_At, .int .i64 aP_Food, .slice aP_Crew_a aP_Crew_L.length aP_Crew_cap, .slice aP_Past_a aP_Past_L.length aP_Past_cap] 46 (0, 0))) ⟨w.heap.size + 1 + 1, 3, none⟩ = some (.slice aP_Past_a aP_Past_L.length aP_Past_cap) := XP2.out.cell 3
    go_wp2_with fail
    generalize ((w.alloc (.cells #[.int .i64 aX_W, .int .i64 aX_H, .slice aX_Cells_a aX_Cells_L.length aX_Cells_cap] 24 (0, 0))).alloc (.cells #[.int .i64 aR_Most, .int .i64 aR_Window] 42 (0, 0))).alloc (.cells #[.int .i64 aP_At, .int .i64 aP_Food, .slice aP_Crew_a aP_Crew_L.length aP_Crew_cap, .slice aP_Past_a aP_Past_L.length aP_Past_cap] 46 (0, 0)) = w1 at *
    refine (LandL.szLand_no w1 aX_W aX_H _ _ (1048576 : Int) (aX_Cells_S.out.below HB3.out) (by omega) (by omega) (by omega)).mono ?_
    rintro e w2 ⟨rfl, hg⟩
    have HB4 := Lib.hid (HB3.out.grown hg HB3.out.size (fun _ h => by cases h)); clear HB3
    have XP0 := Lib.hid (XP0.out.grown hg)
    have XP1 := Lib.hid (XP1.out.grown hg)
    have XP2 := Lib.hid (XP2.out.grown hg)
    clear hg
    try clear cP0_0
    have cP0_0 : World.cell? (w2) ⟨w.heap.size, 0, none⟩ = some (.int .i64 aX_W) := XP0.out.cell 0
    try clear cP0_1
    have cP0_1 : World.cell? (w2) ⟨w.heap.size, 1, none⟩ = some (.int .i64 aX_H) := XP0.out.cell 1
    try clear cP0_2
    have cP0_2 : World.cell? (w2) ⟨w.heap.size, 2, none⟩ = some (.slice aX_Cells_a aX_Cells_L.length aX_Cells_cap) := XP0.out.cell 2
    try clear cP1_0
    have cP1_0 : World.cell? (w2) ⟨w.heap.size + 1, 0, none⟩ = some (.int .i64 aR_Most) := XP1.out.cell 0
    try clear cP1_1
    have cP1_1 : World.cell? (w2) ⟨w.heap.size + 1, 1, none⟩ = some (.int .i64 aR_Window) := XP1.out.cell 1
    try clear cP2_0
    have cP2_0 : World.cell? (w2) ⟨w.heap.size + 1 + 1, 0, none⟩ = some (.int .i64 aP_At) := XP2.out.cell 0
    try clear cP2_1
    have cP2_1 : World.cell? (w2) ⟨w.heap.size + 1 + 1, 1, none⟩ = some (.int .i64 aP_Food) := XP2.out.cell 1
    try clear cP2_2
    have cP2_2 : World.cell? (w2) ⟨w.heap.size + 1 + 1, 2, none⟩ = some (.slice aP_Crew_a aP_Crew_L.length aP_Crew_cap) := XP2.out.cell 2
    try clear cP2_3
    have cP2_3 : World.cell? (w2) ⟨w.heap.size + 1 + 1, 3, none⟩ = some (.slice aP_Past_a aP_Past_L.length aP_Past_cap) := XP2.out.cell 3
    go_wp2
    go_ret
    exact ⟨rfl, HB4.out⟩
  by_cases aL_l : (aL_L.length : Int) ≤ ((1048576 : Int) - ((aX_Cells_L.length : Int)))
  rotate_left
  ·
    have HB0 : Hid (Below w.heap.size w w) := Below.refl _ _
    have hgb := World.grownBy_alloc w (.cells #[.int .i64 aX_W, .int .i64 aX_H, .slice aX_Cells_a aX_Cells_L.length aX_Cells_cap] 24 (0, 0)) none
    have HB1 := Lib.hid (HB0.out.grown hgb HB0.out.size (fun _ h => by cases h)); clear HB0
    have XP0 := Lib.hid (box_new w #[.int .i64 aX_W, .int .i64 aX_H, .slice aX_Cells_a aX_Cells_L.length aX_Cells_cap] 24); clear hgb
    have hgb := World.grownBy_alloc (w.alloc (.cells #[.int .i64 aX_W, .int .i64 aX_H, .slice aX_Cells_a aX_Cells_L.length aX_Cells_cap] 24 (0, 0))) (.cells #[.int .i64 aR_Most, .int .i64 aR_Window] 42 (0, 0)) none
    have HB2 := Lib.hid (HB1.out.grown hgb HB1.out.size (fun _ h => by cases h)); clear HB1
    have XP0 := Lib.hid (XP0.out.grown hgb)
    have XP1 := Lib.hid (box_new (w.alloc (.cells #[.int .i64 aX_W, .int .i64 aX_H, .slice aX_Cells_a aX_Cells_L.length aX_Cells_cap] 24 (0, 0))) #[.int .i64 aR_Most, .int .i64 aR_Window] 42); clear hgb
    simp only [World.size_alloc] at XP1
    have hgb := World.grownBy_alloc ((w.alloc (.cells #[.int .i64 aX_W, .int .i64 aX_H, .slice aX_Cells_a aX_Cells_L.length aX_Cells_cap] 24 (0, 0))).alloc (.cells #[.int .i64 aR_Most, .int .i64 aR_Window] 42 (0, 0))) (.cells #[.int .i64 aP_At, .int .i64 aP_Food, .slice aP_Crew_a aP_Crew_L.length aP_Crew_cap, .slice aP_Past_a aP_Past_L.length aP_Past_cap] 46 (0, 0)) none
    have HB3 := Lib.hid (HB2.out.grown hgb HB2.out.size (fun _ h => by cases h)); clear HB2
    have XP0 := Lib.hid (XP0.out.grown hgb)
    have XP1 := Lib.hid (XP1.out.grown hgb)
    have XP2 := Lib.hid (box_new ((w.alloc (.cells #[.int .i64 aX_W, .int .i64 aX_H, .slice aX_Cells_a aX_Cells_L.length aX_Cells_cap] 24 (0, 0))).alloc (.cells #[.int .i64 aR_Most, .int .i64 aR_Window] 42 (0, 0))) #[.int .i64 aP_At, .int .i64 aP_Food, .slice aP_Crew_a aP_Crew_L.length aP_Crew_cap, .slice aP_Past_a aP_Past_L.length aP_Past_cap] 46); clear hgb
    simp only [World.size_alloc] at XP2
    go_enter Try.func5, Try.ntmps5
    try clear cP0_0
    have cP0_0 : World.cell? (((w.alloc (.cells #[.int .i64 aX_W, .int .i64 aX_H, .slice aX_Cells_a aX_Cells_L.length aX_Cells_cap] 24 (0, 0))).alloc (.cells #[.int .i64 aR_Most, .int .i64 aR_Window] 42 (0, 0))).alloc (.cells #[.int .i64 aP_At, .int .i64 aP_Food, .slice aP_Crew_a aP_Crew_L.length aP_Crew_cap, .slice aP_Past_a aP_Past_L.length aP_Past_cap] 46 (0, 0))) ⟨w.heap.size, 0, none⟩ = some (.int .i64 aX_W) := XP0.out.cell 0
    try clear cP0_1
    have cP0_1 : World.cell? (((w.alloc (.cells #[.int .i64 aX_W, .int .i64 aX_H, .slice aX_Cells_a aX_Cells_L.length aX_Cells_cap] 24 (0, 0))).alloc (.cells #[.int .i64 aR_Most, .int .i64 aR_Window] 42 (0, 0))).alloc (.cells #[.int .i64 aP_At, .int .i64 aP_Food, .slice aP_Crew_a aP_Crew_L.length aP_Crew_cap, .slice aP_Past_a aP_Past_L.length aP_Past_cap] 46 (0, 0))) ⟨w.heap.size, 1, none⟩ = some (.int .i64 aX_H) := XP0.out.cell 1
    try clear cP0_2
    have cP0_2 : World.cell? (((w.alloc (.cells #[.int .i64 aX_W, .int .i64 aX_H, .slice aX_Cells_a aX_Cells_L.length aX_Cells_cap] 24 (0, 0))).alloc (.cells #[.int .i64 aR_Most, .int .i64 aR_Window] 42 (0, 0))).alloc (.cells #[.int .i64 aP_At, .int .i64 aP_Food, .slice aP_Crew_a aP_Crew_L.length aP_Crew_cap, .slice aP_Past_a aP_Past_L.length aP_Past_cap] 46 (0, 0))) ⟨w.heap.size, 2, none⟩ = some (.slice aX_Cells_a aX_Cells_L.length aX_Cells_cap) := XP0.out.cell 2
    try clear cP1_0
    have cP1_0 : World.cell? (((w.alloc (.cells #[.int .i64 aX_W, .int .i64 aX_H, .slice aX_Cells_a aX_Cells_L.length aX_Cells_cap] 24 (0, 0))).alloc (.cells #[.int .i64 aR_Most, .int .i64 aR_Window] 42 (0, 0))).alloc (.cells #[.int .i64 aP_At, .int .i64 aP_Food, .slice aP_Crew_a aP_Crew_L.length aP_Crew_cap, .slice aP_Past_a aP_Past_L.length aP_Past_cap] 46 (0, 0))) ⟨w.heap.size + 1, 0, none⟩ = some (.int .i64 aR_Most) := XP1.out.cell 0
    try clear cP1_1
    have cP1_1 : World.cell? (((w.alloc (.cells #[.int .i64 aX_W, .int .i64 aX_H, .slice aX_Cells_a aX_Cells_L.length aX_Cells_cap] 24 (0, 0))).alloc (.cells #[.int .i64 aR_Most, .int .i64 aR_Window] 42 (0, 0))).alloc (.cells #[.int .i64 aP_At, .int .i64 aP_Food, .slice aP_Crew_a aP_Crew_L.length aP_Crew_cap, .slice aP_Past_a aP_Past_L.length aP_Past_cap] 46 (0, 0))) ⟨w.heap.size + 1, 1, none⟩ = some (.int .i64 aR_Window) := XP1.out.cell 1
    try clear cP2_0
    have cP2_0 : World.cell? (((w.alloc (.cells #[.int .i64 aX_W, .int .i64 aX_H, .slice aX_Cells_a aX_Cells_L.length aX_Cells_cap] 24 (0, 0))).alloc (.cells #[.int .i64 aR_Most, .int .i64 aR_Window] 42 (0, 0))).alloc (.cells #[.int .i64 aP_At, .int .i64 aP_Food, .slice aP_Crew_a aP_Crew_L.length aP_Crew_cap, .slice aP_Past_a aP_Past_L.length aP_Past_cap] 46 (0, 0))) ⟨w.heap.size + 1 + 1, 0, none⟩ = some (.int .i64 aP_At) := XP2.out.cell 0
    try clear cP2_1
    have cP2_1 : World.cell? (((w.alloc (.cells #[.int .i64 aX_W, .int .i64 aX_H, .slice aX_Cells_a aX_Cells_L.length aX_Cells_cap] 24 (0, 0))).alloc (.cells #[.int .i64 aR_Most, .int .i64 aR_Window] 42 (0, 0))).alloc (.cells #[.int .i64 aP_At, .int .i64 aP_Food, .slice aP_Crew_a aP_Crew_L.length aP_Crew_cap, .slice aP_Past_a aP_Past_L.length aP_Past_cap] 46 (0, 0))) ⟨w.heap.size + 1 + 1, 1, none⟩ = some (.int .i64 aP_Food) := XP2.out.cell 1
    try clear cP2_2
    have cP2_2 : World.cell? (((w.alloc (.cells #[.int .i64 aX_W, .int .i64 aX_H, .slice aX_Cells_a aX_Cells_L.length aX_Cells_cap] 24 (0, 0))).alloc (.cells #[.int .i64 aR_Most, .int .i64 aR_Window] 42 (0, 0))).alloc (.cells #[.int .i64 aP_At, .int .i64 aP_Food, .slice aP_Crew_a aP_Crew_L.length aP_Crew_cap, .slice aP_Past_a aP_Past_L.length aP_Past_cap] 46 (0, 0))) ⟨w.heap.size + 1 + 1, 2, none⟩ = some (.slice aP_Crew_a aP_Crew_L.length aP_Crew_cap) := XP2.out.cell 2
    try clear cP2_3
    have cP2_3 : World.cell? (((w.alloc (.cells #[.int .i64 aX_W, .int .i64 aX_H, .slice aX_Cells_a aX_Cells_L.length aX_Cells_cap] 24 (0, 0))).alloc (.cells #[.int .i64 aR_Most, .int .i64 aR_Window] 42 (0, 0))).alloc (.cells #[.int .i64 aP_At, .int .i64 aP_Food, .slice aP_Crew_a aP_Crew_L.length aP_Crew_cap, .slice aP_Past_a aP_Past_L.length aP_Past_cap] 46 (0, 0))) ⟨w.heap.size + 1 + 1, 3, none⟩ = some (.slice aP_Past_a aP_Past_L.length aP_Past_cap) := XP2.out.cell 3
    go_wp2_with fail
    generalize ((w.alloc (.cells #[.int .i64 aX_W, .int .i64 aX_H, .slice aX_Cells_a aX_Cells_L.length aX_Cells_cap] 24 (0, 0))).alloc (.cells #[.int .i64 aR_Most, .int .i64 aR_Window] 42 (0, 0))).alloc (.cells #[.int .i64 aP_At, .int .i64 aP_Food, .slice aP_Crew_a aP_Crew_L.length aP_Crew_cap, .slice aP_Past_a aP_Past_L.length aP_Past_cap] 46 (0, 0)) = w1 at *
    refine (LandL.szLand_yes w1 aX_W aX_H _ _ (1048576 : Int) (aX_Cells_S.out.below HB3.out) (by omega) (by omega) (by omega)).mono ?_
    rintro e w2 ⟨rfl, hg⟩
    have HB4 := Lib.hid (HB3.out.grown hg HB3.out.size (fun _ h => by cases h)); clear HB3
    have XP0 := Lib.hid (XP0.out.grown hg)
    have XP1 := Lib.hid (XP1.out.grown hg)
    have XP2 := Lib.hid (XP2.out.grown hg)
    clear hg
    try clear cP0_0
    have cP0_0 : World.cell? (w2) ⟨w.heap.size, 0, none⟩ = some (.int .i64 aX_W) := XP0.out.cell 0
    try clear cP0_1
    have cP0_1 : World.cell? (w2) ⟨w.heap.size, 1, none⟩ = some (.int .i64 aX_H) := XP0.out.cell 1
    try clear cP0_2
    have cP0_2 : World.cell? (w2) ⟨w.heap.size, 2, none⟩ = some (.slice aX_Cells_a aX_Cells_L.length aX_Cells_cap) := XP0.out.cell 2
    try clear cP1_0
    have cP1_0 : World.cell? (w2) ⟨w.heap.size + 1, 0, none⟩ = some (.int .i64 aR_Most) := XP1.out.cell 0
    try clear cP1_1
    have cP1_1 : World.cell? (w2) ⟨w.heap.size + 1, 1, none⟩ = some (.int .i64 aR_Window) := XP1.out.cell 1
    try clear cP2_0
    have cP2_0 : World.cell? (w2) ⟨w.heap.size + 1 + 1, 0, none⟩ = some (.int .i64 aP_At) := XP2.out.cell 0
    try clear cP2_1
    have cP2_1 : World.cell? (w2) ⟨w.heap.size + 1 + 1, 1, none⟩ = some (.int .i64 aP_Food) := XP2.out.cell 1
    try clear cP2_2
    have cP2_2 : World.cell? (w2) ⟨w.heap.size + 1 + 1, 2, none⟩ = some (.slice aP_Crew_a aP_Crew_L.length aP_Crew_cap) := XP2.out.cell 2
    try clear cP2_3
    have cP2_3 : World.cell? (w2) ⟨w.heap.size + 1 + 1, 3, none⟩ = some (.slice aP_Past_a aP_Past_L.length aP_Past_cap) := XP2.out.cell 3
    go_wp2_with fail
    refine (LawsG.szG_no w2 _ _ ((1048576 : Int) - ((aX_Cells_L.length : Int))) (aL_S.out.below HB4.out) (by omega) (by omega) (by omega)).mono ?_
    rintro e w3 ⟨rfl, hg⟩
    have HB5 := Lib.hid (HB4.out.grown hg HB4.out.size (fun _ h => by cases h)); clear HB4
    have XP0 := Lib.hid (XP0.out.grown hg)
    have XP1 := Lib.hid (XP1.out.grown hg)
    have XP2 := Lib.hid (XP2.out.grown hg)
    clear hg
    try clear cP0_0
    have cP0_0 : World.cell? (w3) ⟨w.heap.size, 0, none⟩ = some (.int .i64 aX_W) := XP0.out.cell 0
    try clear cP0_1
    have cP0_1 : World.cell? (w3) ⟨w.heap.size, 1, none⟩ = some (.int .i64 aX_H) := XP0.out.cell 1
    try clear cP0_2
    have cP0_2 : World.cell? (w3) ⟨w.heap.size, 2, none⟩ = some (.slice aX_Cells_a aX_Cells_L.length aX_Cells_cap) := XP0.out.cell 2
    try clear cP1_0
    have cP1_0 : World.cell? (w3) ⟨w.heap.size + 1, 0, none⟩ = some (.int .i64 aR_Most) := XP1.out.cell 0
    try clear cP1_1
    have cP1_1 : World.cell? (w3) ⟨w.heap.size + 1, 1, none⟩ = some (.int .i64 aR_Window) := XP1.out.cell 1
    try clear cP2_0
    have cP2_0 : World.cell? (w3) ⟨w.heap.size + 1 + 1, 0, none⟩ = some (.int .i64 aP_At) := XP2.out.cell 0
    try clear cP2_1
    have cP2_1 : World.cell? (w3) ⟨w.heap.size + 1 + 1, 1, none⟩ = some (.int .i64 aP_Food) := XP2.out.cell 1
    try clear cP2_2
    have cP2_2 : World.cell? (w3) ⟨w.heap.size + 1 + 1, 2, none⟩ = some (.slice aP_Crew_a aP_Crew_L.length aP_Crew_cap) := XP2.out.cell 2
    try clear cP2_3
    have cP2_3 : World.cell? (w3) ⟨w.heap.size + 1 + 1, 3, none⟩ = some (.slice aP_Past_a aP_Past_L.length aP_Past_cap) := XP2.out.cell 3
    go_wp2
    go_ret
    exact ⟨rfl, HB5.out⟩
  by_cases aP_l : (aP_Crew_L.length : Int) + (aP_Past_L.length : Int) ≤ (((1048576 : Int) - ((aX_Cells_L.length : Int))) - ((aL_L.length : Int)))
  rotate_left
  ·
    have HB0 : Hid (Below w.heap.size w w) := Below.refl _ _
    have hgb := World.grownBy_alloc w (.cells #[.int .i64 aX_W, .int .i64 aX_H, .slice aX_Cells_a aX_Cells_L.length aX_Cells_cap] 24 (0, 0)) none
    have HB1 := Lib.hid (HB0.out.grown hgb HB0.out.size (fun _ h => by cases h)); clear HB0
    have XP0 := Lib.hid (box_new w #[.int .i64 aX_W, .int .i64 aX_H, .slice aX_Cells_a aX_Cells_L.length aX_Cells_cap] 24); clear hgb
    have hgb := World.grownBy_alloc (w.alloc (.cells #[.int .i64 aX_W, .int .i64 aX_H, .slice aX_Cells_a aX_Cells_L.length aX_Cells_cap] 24 (0, 0))) (.cells #[.int .i64 aR_Most, .int .i64 aR_Window] 42 (0, 0)) none
    have HB2 := Lib.hid (HB1.out.grown hgb HB1.out.size (fun _ h => by cases h)); clear HB1
    have XP0 := Lib.hid (XP0.out.grown hgb)
    have XP1 := Lib.hid (box_new (w.alloc (.cells #[.int .i64 aX_W, .int .i64 aX_H, .slice aX_Cells_a aX_Cells_L.length aX_Cells_cap] 24 (0, 0))) #[.int .i64 aR_Most, .int .i64 aR_Window] 42); clear hgb
    simp only [World.size_alloc] at XP1
    have hgb := World.grownBy_alloc ((w.alloc (.cells #[.int .i64 aX_W, .int .i64 aX_H, .slice aX_Cells_a aX_Cells_L.length aX_Cells_cap] 24 (0, 0))).alloc (.cells #[.int .i64 aR_Most, .int .i64 aR_Window] 42 (0, 0))) (.cells #[.int .i64 aP_At, .int .i64 aP_Food, .slice aP_Crew_a aP_Crew_L.length aP_Crew_cap, .slice aP_Past_a aP_Past_L.length aP_Past_cap] 46 (0, 0)) none
    have HB3 := Lib.hid (HB2.out.grown hgb HB2.out.size (fun _ h => by cases h)); clear HB2
    have XP0 := Lib.hid (XP0.out.grown hgb)
    have XP1 := Lib.hid (XP1.out.grown hgb)
    have XP2 := Lib.hid (box_new ((w.alloc (.cells #[.int .i64 aX_W, .int .i64 aX_H, .slice aX_Cells_a aX_Cells_L.length aX_Cells_cap] 24 (0, 0))).alloc (.cells #[.int .i64 aR_Most, .int .i64 aR_Window] 42 (0, 0))) #[.int .i64 aP_At, .int .i64 aP_Food, .slice aP_Crew_a aP_Crew_L.length aP_Crew_cap, .slice aP_Past_a aP_Past_L.length aP_Past_cap] 46); clear hgb
    simp only [World.size_alloc] at XP2
    go_enter Try.func5, Try.ntmps5
    try clear cP0_0
    have cP0_0 : World.cell? (((w.alloc (.cells #[.int .i64 aX_W, .int .i64 aX_H, .slice aX_Cells_a aX_Cells_L.length aX_Cells_cap] 24 (0, 0))).alloc (.cells #[.int .i64 aR_Most, .int .i64 aR_Window] 42 (0, 0))).alloc (.cells #[.int .i64 aP_At, .int .i64 aP_Food, .slice aP_Crew_a aP_Crew_L.length aP_Crew_cap, .slice aP_Past_a aP_Past_L.length aP_Past_cap] 46 (0, 0))) ⟨w.heap.size, 0, none⟩ = some (.int .i64 aX_W) := XP0.out.cell 0
    try clear cP0_1
    have cP0_1 : World.cell? (((w.alloc (.cells #[.int .i64 aX_W, .int .i64 aX_H, .slice aX_Cells_a aX_Cells_L.length aX_Cells_cap] 24 (0, 0))).alloc (.cells #[.int .i64 aR_Most, .int .i64 aR_Window] 42 (0, 0))).alloc (.cells #[.int .i64 aP_At, .int .i64 aP_Food, .slice aP_Crew_a aP_Crew_L.length aP_Crew_cap, .slice aP_Past_a aP_Past_L.length aP_Past_cap] 46 (0, 0))) ⟨w.heap.size, 1, none⟩ = some (.int .i64 aX_H) := XP0.out.cell 1
    try clear cP0_2
    have cP0_2 : World.cell? (((w.alloc (.cells #[.int .i64 aX_W, .int .i64 aX_H, .slice aX_Cells_a aX_Cells_L.length aX_Cells_cap] 24 (0, 0))).alloc (.cells #[.int .i64 aR_Most, .int .i64 aR_Window] 42 (0, 0))).alloc (.cells #[.int .i64 aP_At, .int .i64 aP_Food, .slice aP_Crew_a aP_Crew_L.length aP_Crew_cap, .slice aP_Past_a aP_Past_L.length aP_Past_cap] 46 (0, 0))) ⟨w.heap.size, 2, none⟩ = some (.slice aX_Cells_a aX_Cells_L.length aX_Cells_cap) := XP0.out.cell 2
    try clear cP1_0
    have cP1_0 : World.cell? (((w.alloc (.cells #[.int .i64 aX_W, .int .i64 aX_H, .slice aX_Cells_a aX_Cells_L.length aX_Cells_cap] 24 (0, 0))).alloc (.cells #[.int .i64 aR_Most, .int .i64 aR_Window] 42 (0, 0))).alloc (.cells #[.int .i64 aP_At, .int .i64 aP_Food, .slice aP_Crew_a aP_Crew_L.length aP_Crew_cap, .slice aP_Past_a aP_Past_L.length aP_Past_cap] 46 (0, 0))) ⟨w.heap.size + 1, 0, none⟩ = some (.int .i64 aR_Most) := XP1.out.cell 0
    try clear cP1_1
    have cP1_1 : World.cell? (((w.alloc (.cells #[.int .i64 aX_W, .int .i64 aX_H, .slice aX_Cells_a aX_Cells_L.length aX_Cells_cap] 24 (0, 0))).alloc (.cells #[.int .i64 aR_Most, .int .i64 aR_Window] 42 (0, 0))).alloc (.cells #[.int .i64 aP_At, .int .i64 aP_Food, .slice aP_Crew_a aP_Crew_L.length aP_Crew_cap, .slice aP_Past_a aP_Past_L.length aP_Past_cap] 46 (0, 0))) ⟨w.heap.size + 1, 1, none⟩ = some (.int .i64 aR_Window) := XP1.out.cell 1
    try clear cP2_0
    have cP2_0 : World.cell? (((w.alloc (.cells #[.int .i64 aX_W, .int .i64 aX_H, .slice aX_Cells_a aX_Cells_L.length aX_Cells_cap] 24 (0, 0))).alloc (.cells #[.int .i64 aR_Most, .int .i64 aR_Window] 42 (0, 0))).alloc (.cells #[.int .i64 aP_At, .int .i64 aP_Food, .slice aP_Crew_a aP_Crew_L.length aP_Crew_cap, .slice aP_Past_a aP_Past_L.length aP_Past_cap] 46 (0, 0))) ⟨w.heap.size + 1 + 1, 0, none⟩ = some (.int .i64 aP_At) := XP2.out.cell 0
    try clear cP2_1
    have cP2_1 : World.cell? (((w.alloc (.cells #[.int .i64 aX_W, .int .i64 aX_H, .slice aX_Cells_a aX_Cells_L.length aX_Cells_cap] 24 (0, 0))).alloc (.cells #[.int .i64 aR_Most, .int .i64 aR_Window] 42 (0, 0))).alloc (.cells #[.int .i64 aP_At, .int .i64 aP_Food, .slice aP_Crew_a aP_Crew_L.length aP_Crew_cap, .slice aP_Past_a aP_Past_L.length aP_Past_cap] 46 (0, 0))) ⟨w.heap.size + 1 + 1, 1, none⟩ = some (.int .i64 aP_Food) := XP2.out.cell 1
    try clear cP2_2
    have cP2_2 : World.cell? (((w.alloc (.cells #[.int .i64 aX_W, .int .i64 aX_H, .slice aX_Cells_a aX_Cells_L.length aX_Cells_cap] 24 (0, 0))).alloc (.cells #[.int .i64 aR_Most, .int .i64 aR_Window] 42 (0, 0))).alloc (.cells #[.int .i64 aP_At, .int .i64 aP_Food, .slice aP_Crew_a aP_Crew_L.length aP_Crew_cap, .slice aP_Past_a aP_Past_L.length aP_Past_cap] 46 (0, 0))) ⟨w.heap.size + 1 + 1, 2, none⟩ = some (.slice aP_Crew_a aP_Crew_L.length aP_Crew_cap) := XP2.out.cell 2
    try clear cP2_3
    have cP2_3 : World.cell? (((w.alloc (.cells #[.int .i64 aX_W, .int .i64 aX_H, .slice aX_Cells_a aX_Cells_L.length aX_Cells_cap] 24 (0, 0))).alloc (.cells #[.int .i64 aR_Most, .int .i64 aR_Window] 42 (0, 0))).alloc (.cells #[.int .i64 aP_At, .int .i64 aP_Food, .slice aP_Crew_a aP_Crew_L.length aP_Crew_cap, .slice aP_Past_a aP_Past_L.length aP_Past_cap] 46 (0, 0))) ⟨w.heap.size + 1 + 1, 3, none⟩ = some (.slice aP_Past_a aP_Past_L.length aP_Past_cap) := XP2.out.cell 3
    go_wp2_with fail
    generalize ((w.alloc (.cells #[.int .i64 aX_W, .int .i64 aX_H, .slice aX_Cells_a aX_Cells_L.length aX_Cells_cap] 24 (0, 0))).alloc (.cells #[.int .i64 aR_Most, .int .i64 aR_Window] 42 (0, 0))).alloc (.cells #[.int .i64 aP_At, .int .i64 aP_Food, .slice aP_Crew_a aP_Crew_L.length aP_Crew_cap, .slice aP_Past_a aP_Past_L.length aP_Past_cap] 46 (0, 0)) = w1 at *
    refine (LandL.szLand_yes w1 aX_W aX_H _ _ (1048576 : Int) (aX_Cells_S.out.below HB3.out) (by omega) (by omega) (by omega)).mono ?_
    rintro e w2 ⟨rfl, hg⟩
    have HB4 := Lib.hid (HB3.out.grown hg HB3.out.size (fun _ h => by cases h)); clear HB3
    have XP0 := Lib.hid (XP0.out.grown hg)
    have XP1 := Lib.hid (XP1.out.grown hg)
    have XP2 := Lib.hid (XP2.out.grown hg)
    clear hg
    try clear cP0_0
    have cP0_0 : World.cell? (w2) ⟨w.heap.size, 0, none⟩ = some (.int .i64 aX_W) := XP0.out.cell 0
    try clear cP0_1
    have cP0_1 : World.cell? (w2) ⟨w.heap.size, 1, none⟩ = some (.int .i64 aX_H) := XP0.out.cell 1
    try clear cP0_2
    have cP0_2 : World.cell? (w2) ⟨w.heap.size, 2, none⟩ = some (.slice aX_Cells_a aX_Cells_L.length aX_Cells_cap) := XP0.out.cell 2
    try clear cP1_0
    have cP1_0 : World.cell? (w2) ⟨w.heap.size + 1, 0, none⟩ = some (.int .i64 aR_Most) := XP1.out.cell 0
    try clear cP1_1
    have cP1_1 : World.cell? (w2) ⟨w.heap.size + 1, 1, none⟩ = some (.int .i64 aR_Window) := XP1.out.cell 1
    try clear cP2_0
    have cP2_0 : World.cell? (w2) ⟨w.heap.size + 1 + 1, 0, none⟩ = some (.int .i64 aP_At) := XP2.out.cell 0
    try clear cP2_1
    have cP2_1 : World.cell? (w2) ⟨w.heap.size + 1 + 1, 1, none⟩ = some (.int .i64 aP_Food) := XP2.out.cell 1
    try clear cP2_2
    have cP2_2 : World.cell? (w2) ⟨w.heap.size + 1 + 1, 2, none⟩ = some (.slice aP_Crew_a aP_Crew_L.length aP_Crew_cap) := XP2.out.cell 2
    try clear cP2_3
    have cP2_3 : World.cell? (w2) ⟨w.heap.size + 1 + 1, 3, none⟩ = some (.slice aP_Past_a aP_Past_L.length aP_Past_cap) := XP2.out.cell 3
    go_wp2_with fail
    refine (LawsG.szG_yes w2 _ _ ((1048576 : Int) - ((aX_Cells_L.length : Int))) (aL_S.out.below HB4.out) (by omega) (by omega) (by omega)).mono ?_
    rintro e w3 ⟨rfl, hg⟩
    have HB5 := Lib.hid (HB4.out.grown hg HB4.out.size (fun _ h => by cases h)); clear HB4
    have XP0 := Lib.hid (XP0.out.grown hg)
    have XP1 := Lib.hid (XP1.out.grown hg)
    have XP2 := Lib.hid (XP2.out.grown hg)
    clear hg
    try clear cP0_0
    have cP0_0 : World.cell? (w3) ⟨w.heap.size, 0, none⟩ = some (.int .i64 aX_W) := XP0.out.cell 0
    try clear cP0_1
    have cP0_1 : World.cell? (w3) ⟨w.heap.size, 1, none⟩ = some (.int .i64 aX_H) := XP0.out.cell 1
    try clear cP0_2
    have cP0_2 : World.cell? (w3) ⟨w.heap.size, 2, none⟩ = some (.slice aX_Cells_a aX_Cells_L.length aX_Cells_cap) := XP0.out.cell 2
    try clear cP1_0
    have cP1_0 : World.cell? (w3) ⟨w.heap.size + 1, 0, none⟩ = some (.int .i64 aR_Most) := XP1.out.cell 0
    try clear cP1_1
    have cP1_1 : World.cell? (w3) ⟨w.heap.size + 1, 1, none⟩ = some (.int .i64 aR_Window) := XP1.out.cell 1
    try clear cP2_0
    have cP2_0 : World.cell? (w3) ⟨w.heap.size + 1 + 1, 0, none⟩ = some (.int .i64 aP_At) := XP2.out.cell 0
    try clear cP2_1
    have cP2_1 : World.cell? (w3) ⟨w.heap.size + 1 + 1, 1, none⟩ = some (.int .i64 aP_Food) := XP2.out.cell 1
    try clear cP2_2
    have cP2_2 : World.cell? (w3) ⟨w.heap.size + 1 + 1, 2, none⟩ = some (.slice aP_Crew_a aP_Crew_L.length aP_Crew_cap) := XP2.out.cell 2
    try clear cP2_3
    have cP2_3 : World.cell? (w3) ⟨w.heap.size + 1 + 1, 3, none⟩ = some (.slice aP_Past_a aP_Past_L.length aP_Past_cap) := XP2.out.cell 3
    go_wp2_with fail
    refine (PartyL.szParty_no w3 aP_At aP_Food _ _ _ _ (((1048576 : Int) - ((aX_Cells_L.length : Int))) - ((aL_L.length : Int))) (aP_Crew_S.out.below HB5.out) (aP_Past_S.out.below HB5.out) (by omega) (by omega) (by omega)).mono ?_
    rintro e w4 ⟨rfl, hg⟩
    have HB6 := Lib.hid (HB5.out.grown hg HB5.out.size (fun _ h => by cases h)); clear HB5
    have XP0 := Lib.hid (XP0.out.grown hg)
    have XP1 := Lib.hid (XP1.out.grown hg)
    have XP2 := Lib.hid (XP2.out.grown hg)
    clear hg
    try clear cP0_0
    have cP0_0 : World.cell? (w4) ⟨w.heap.size, 0, none⟩ = some (.int .i64 aX_W) := XP0.out.cell 0
    try clear cP0_1
    have cP0_1 : World.cell? (w4) ⟨w.heap.size, 1, none⟩ = some (.int .i64 aX_H) := XP0.out.cell 1
    try clear cP0_2
    have cP0_2 : World.cell? (w4) ⟨w.heap.size, 2, none⟩ = some (.slice aX_Cells_a aX_Cells_L.length aX_Cells_cap) := XP0.out.cell 2
    try clear cP1_0
    have cP1_0 : World.cell? (w4) ⟨w.heap.size + 1, 0, none⟩ = some (.int .i64 aR_Most) := XP1.out.cell 0
    try clear cP1_1
    have cP1_1 : World.cell? (w4) ⟨w.heap.size + 1, 1, none⟩ = some (.int .i64 aR_Window) := XP1.out.cell 1
    try clear cP2_0
    have cP2_0 : World.cell? (w4) ⟨w.heap.size + 1 + 1, 0, none⟩ = some (.int .i64 aP_At) := XP2.out.cell 0
    try clear cP2_1
    have cP2_1 : World.cell? (w4) ⟨w.heap.size + 1 + 1, 1, none⟩ = some (.int .i64 aP_Food) := XP2.out.cell 1
    try clear cP2_2
    have cP2_2 : World.cell? (w4) ⟨w.heap.size + 1 + 1, 2, none⟩ = some (.slice aP_Crew_a aP_Crew_L.length aP_Crew_cap) := XP2.out.cell 2
    try clear cP2_3
    have cP2_3 : World.cell? (w4) ⟨w.heap.size + 1 + 1, 3, none⟩ = some (.slice aP_Past_a aP_Past_L.length aP_Past_cap) := XP2.out.cell 3
    go_wp2
    go_ret
    exact ⟨rfl, HB6.out⟩
  have HB0 : Hid (Below w.heap.size w w) := Below.refl _ _
  have hgb := World.grownBy_alloc w (.cells #[.int .i64 aX_W, .int .i64 aX_H, .slice aX_Cells_a aX_Cells_L.length aX_Cells_cap] 24 (0, 0)) none
  have HB1 := Lib.hid (HB0.out.grown hgb HB0.out.size (fun _ h => by cases h)); clear HB0
  have XP0 := Lib.hid (box_new w #[.int .i64 aX_W, .int .i64 aX_H, .slice aX_Cells_a aX_Cells_L.length aX_Cells_cap] 24); clear hgb
  have hgb := World.grownBy_alloc (w.alloc (.cells #[.int .i64 aX_W, .int .i64 aX_H, .slice aX_Cells_a aX_Cells_L.length aX_Cells_cap] 24 (0, 0))) (.cells #[.int .i64 aR_Most, .int .i64 aR_Window] 42 (0, 0)) none
  have HB2 := Lib.hid (HB1.out.grown hgb HB1.out.size (fun _ h => by cases h)); clear HB1
  have XP0 := Lib.hid (XP0.out.grown hgb)
  have XP1 := Lib.hid (box_new (w.alloc (.cells #[.int .i64 aX_W, .int .i64 aX_H, .slice aX_Cells_a aX_Cells_L.length aX_Cells_cap] 24 (0, 0))) #[.int .i64 aR_Most, .int .i64 aR_Window] 42); clear hgb
  simp only [World.size_alloc] at XP1
  have hgb := World.grownBy_alloc ((w.alloc (.cells #[.int .i64 aX_W, .int .i64 aX_H, .slice aX_Cells_a aX_Cells_L.length aX_Cells_cap] 24 (0, 0))).alloc (.cells #[.int .i64 aR_Most, .int .i64 aR_Window] 42 (0, 0))) (.cells #[.int .i64 aP_At, .int .i64 aP_Food, .slice aP_Crew_a aP_Crew_L.length aP_Crew_cap, .slice aP_Past_a aP_Past_L.length aP_Past_cap] 46 (0, 0)) none
  have HB3 := Lib.hid (HB2.out.grown hgb HB2.out.size (fun _ h => by cases h)); clear HB2
  have XP0 := Lib.hid (XP0.out.grown hgb)
  have XP1 := Lib.hid (XP1.out.grown hgb)
  have XP2 := Lib.hid (box_new ((w.alloc (.cells #[.int .i64 aX_W, .int .i64 aX_H, .slice aX_Cells_a aX_Cells_L.length aX_Cells_cap] 24 (0, 0))).alloc (.cells #[.int .i64 aR_Most, .int .i64 aR_Window] 42 (0, 0))) #[.int .i64 aP_At, .int .i64 aP_Food, .slice aP_Crew_a aP_Crew_L.length aP_Crew_cap, .slice aP_Past_a aP_Past_L.length aP_Past_cap] 46); clear hgb
  simp only [World.size_alloc] at XP2
  go_enter Try.func5, Try.ntmps5
  try clear cP0_0
  have cP0_0 : World.cell? (((w.alloc (.cells #[.int .i64 aX_W, .int .i64 aX_H, .slice aX_Cells_a aX_Cells_L.length aX_Cells_cap] 24 (0, 0))).alloc (.cells #[.int .i64 aR_Most, .int .i64 aR_Window] 42 (0, 0))).alloc (.cells #[.int .i64 aP_At, .int .i64 aP_Food, .slice aP_Crew_a aP_Crew_L.length aP_Crew_cap, .slice aP_Past_a aP_Past_L.length aP_Past_cap] 46 (0, 0))) ⟨w.heap.size, 0, none⟩ = some (.int .i64 aX_W) := XP0.out.cell 0
  try clear cP0_1
  have cP0_1 : World.cell? (((w.alloc (.cells #[.int .i64 aX_W, .int .i64 aX_H, .slice aX_Cells_a aX_Cells_L.length aX_Cells_cap] 24 (0, 0))).alloc (.cells #[.int .i64 aR_Most, .int .i64 aR_Window] 42 (0, 0))).alloc (.cells #[.int .i64 aP_At, .int .i64 aP_Food, .slice aP_Crew_a aP_Crew_L.length aP_Crew_cap, .slice aP_Past_a aP_Past_L.length aP_Past_cap] 46 (0, 0))) ⟨w.heap.size, 1, none⟩ = some (.int .i64 aX_H) := XP0.out.cell 1
  try clear cP0_2
  have cP0_2 : World.cell? (((w.alloc (.cells #[.int .i64 aX_W, .int .i64 aX_H, .slice aX_Cells_a aX_Cells_L.length aX_Cells_cap] 24 (0, 0))).alloc (.cells #[.int .i64 aR_Most, .int .i64 aR_Window] 42 (0, 0))).alloc (.cells #[.int .i64 aP_At, .int .i64 aP_Food, .slice aP_Crew_a aP_Crew_L.length aP_Crew_cap, .slice aP_Past_a aP_Past_L.length aP_Past_cap] 46 (0, 0))) ⟨w.heap.size, 2, none⟩ = some (.slice aX_Cells_a aX_Cells_L.length aX_Cells_cap) := XP0.out.cell 2
  try clear cP1_0
  have cP1_0 : World.cell? (((w.alloc (.cells #[.int .i64 aX_W, .int .i64 aX_H, .slice aX_Cells_a aX_Cells_L.length aX_Cells_cap] 24 (0, 0))).alloc (.cells #[.int .i64 aR_Most, .int .i64 aR_Window] 42 (0, 0))).alloc (.cells #[.int .i64 aP_At, .int .i64 aP_Food, .slice aP_Crew_a aP_Crew_L.length aP_Crew_cap, .slice aP_Past_a aP_Past_L.length aP_Past_cap] 46 (0, 0))) ⟨w.heap.size + 1, 0, none⟩ = some (.int .i64 aR_Most) := XP1.out.cell 0
  try clear cP1_1
  have cP1_1 : World.cell? (((w.alloc (.cells #[.int .i64 aX_W, .int .i64 aX_H, .slice aX_Cells_a aX_Cells_L.length aX_Cells_cap] 24 (0, 0))).alloc (.cells #[.int .i64 aR_Most, .int .i64 aR_Window] 42 (0, 0))).alloc (.cells #[.int .i64 aP_At, .int .i64 aP_Food, .slice aP_Crew_a aP_Crew_L.length aP_Crew_cap, .slice aP_Past_a aP_Past_L.length aP_Past_cap] 46 (0, 0))) ⟨w.heap.size + 1, 1, none⟩ = some (.int .i64 aR_Window) := XP1.out.cell 1
  try clear cP2_0
  have cP2_0 : World.cell? (((w.alloc (.cells #[.int .i64 aX_W, .int .i64 aX_H, .slice aX_Cells_a aX_Cells_L.length aX_Cells_cap] 24 (0, 0))).alloc (.cells #[.int .i64 aR_Most, .int .i64 aR_Window] 42 (0, 0))).alloc (.cells #[.int .i64 aP_At, .int .i64 aP_Food, .slice aP_Crew_a aP_Crew_L.length aP_Crew_cap, .slice aP_Past_a aP_Past_L.length aP_Past_cap] 46 (0, 0))) ⟨w.heap.size + 1 + 1, 0, none⟩ = some (.int .i64 aP_At) := XP2.out.cell 0
  try clear cP2_1
  have cP2_1 : World.cell? (((w.alloc (.cells #[.int .i64 aX_W, .int .i64 aX_H, .slice aX_Cells_a aX_Cells_L.length aX_Cells_cap] 24 (0, 0))).alloc (.cells #[.int .i64 aR_Most, .int .i64 aR_Window] 42 (0, 0))).alloc (.cells #[.int .i64 aP_At, .int .i64 aP_Food, .slice aP_Crew_a aP_Crew_L.length aP_Crew_cap, .slice aP_Past_a aP_Past_L.length aP_Past_cap] 46 (0, 0))) ⟨w.heap.size + 1 + 1, 1, none⟩ = some (.int .i64 aP_Food) := XP2.out.cell 1
  try clear cP2_2
  have cP2_2 : World.cell? (((w.alloc (.cells #[.int .i64 aX_W, .int .i64 aX_H, .slice aX_Cells_a aX_Cells_L.length aX_Cells_cap] 24 (0, 0))).alloc (.cells #[.int .i64 aR_Most, .int .i64 aR_Window] 42 (0, 0))).alloc (.cells #[.int .i64 aP_At, .int .i64 aP_Food, .slice aP_Crew_a aP_Crew_L.length aP_Crew_cap, .slice aP_Past_a aP_Past_L.length aP_Past_cap] 46 (0, 0))) ⟨w.heap.size + 1 + 1, 2, none⟩ = some (.slice aP_Crew_a aP_Crew_L.length aP_Crew_cap) := XP2.out.cell 2
  try clear cP2_3
  have cP2_3 : World.cell? (((w.alloc (.cells #[.int .i64 aX_W, .int .i64 aX_H, .slice aX_Cells_a aX_Cells_L.length aX_Cells_cap] 24 (0, 0))).alloc (.cells #[.int .i64 aR_Most, .int .i64 aR_Window] 42 (0, 0))).alloc (.cells #[.int .i64 aP_At, .int .i64 aP_Food, .slice aP_Crew_a aP_Crew_L.length aP_Crew_cap, .slice aP_Past_a aP_Past_L.length aP_Past_cap] 46 (0, 0))) ⟨w.heap.size + 1 + 1, 3, none⟩ = some (.slice aP_Past_a aP_Past_L.length aP_Past_cap) := XP2.out.cell 3
  go_wp2_with fail
  generalize ((w.alloc (.cells #[.int .i64 aX_W, .int .i64 aX_H, .slice aX_Cells_a aX_Cells_L.length aX_Cells_cap] 24 (0, 0))).alloc (.cells #[.int .i64 aR_Most, .int .i64 aR_Window] 42 (0, 0))).alloc (.cells #[.int .i64 aP_At, .int .i64 aP_Food, .slice aP_Crew_a aP_Crew_L.length aP_Crew_cap, .slice aP_Past_a aP_Past_L.length aP_Past_cap] 46 (0, 0)) = w1 at *
  refine (LandL.szLand_yes w1 aX_W aX_H _ _ (1048576 : Int) (aX_Cells_S.out.below HB3.out) (by omega) (by omega) (by omega)).mono ?_
  rintro e w2 ⟨rfl, hg⟩
  have HB4 := Lib.hid (HB3.out.grown hg HB3.out.size (fun _ h => by cases h)); clear HB3
  have XP0 := Lib.hid (XP0.out.grown hg)
  have XP1 := Lib.hid (XP1.out.grown hg)
  have XP2 := Lib.hid (XP2.out.grown hg)
  clear hg
  try clear cP0_0
  have cP0_0 : World.cell? (w2) ⟨w.heap.size, 0, none⟩ = some (.int .i64 aX_W) := XP0.out.cell 0
  try clear cP0_1
  have cP0_1 : World.cell? (w2) ⟨w.heap.size, 1, none⟩ = some (.int .i64 aX_H) := XP0.out.cell 1
  try clear cP0_2
  have cP0_2 : World.cell? (w2) ⟨w.heap.size, 2, none⟩ = some (.slice aX_Cells_a aX_Cells_L.length aX_Cells_cap) := XP0.out.cell 2
  try clear cP1_0
  have cP1_0 : World.cell? (w2) ⟨w.heap.size + 1, 0, none⟩ = some (.int .i64 aR_Most) := XP1.out.cell 0
  try clear cP1_1
  have cP1_1 : World.cell? (w2) ⟨w.heap.size + 1, 1, none⟩ = some (.int .i64 aR_Window) := XP1.out.cell 1
  try clear cP2_0
  have cP2_0 : World.cell? (w2) ⟨w.heap.size + 1 + 1, 0, none⟩ = some (.int .i64 aP_At) := XP2.out.cell 0
  try clear cP2_1
  have cP2_1 : World.cell? (w2) ⟨w.heap.size + 1 + 1, 1, none⟩ = some (.int .i64 aP_Food) := XP2.out.cell 1
  try clear cP2_2
  have cP2_2 : World.cell? (w2) ⟨w.heap.size + 1 + 1, 2, none⟩ = some (.slice aP_Crew_a aP_Crew_L.length aP_Crew_cap) := XP2.out.cell 2
  try clear cP2_3
  have cP2_3 : World.cell? (w2) ⟨w.heap.size + 1 + 1, 3, none⟩ = some (.slice aP_Past_a aP_Past_L.length aP_Past_cap) := XP2.out.cell 3
  go_wp2_with fail
  refine (LawsG.szG_yes w2 _ _ ((1048576 : Int) - ((aX_Cells_L.length : Int))) (aL_S.out.below HB4.out) (by omega) (by omega) (by omega)).mono ?_
  rintro e w3 ⟨rfl, hg⟩
  have HB5 := Lib.hid (HB4.out.grown hg HB4.out.size (fun _ h => by cases h)); clear HB4
  have XP0 := Lib.hid (XP0.out.grown hg)
  have XP1 := Lib.hid (XP1.out.grown hg)
  have XP2 := Lib.hid (XP2.out.grown hg)
  clear hg
  try clear cP0_0
  have cP0_0 : World.cell? (w3) ⟨w.heap.size, 0, none⟩ = some (.int .i64 aX_W) := XP0.out.cell 0
  try clear cP0_1
  have cP0_1 : World.cell? (w3) ⟨w.heap.size, 1, none⟩ = some (.int .i64 aX_H) := XP0.out.cell 1
  try clear cP0_2
  have cP0_2 : World.cell? (w3) ⟨w.heap.size, 2, none⟩ = some (.slice aX_Cells_a aX_Cells_L.length aX_Cells_cap) := XP0.out.cell 2
  try clear cP1_0
  have cP1_0 : World.cell? (w3) ⟨w.heap.size + 1, 0, none⟩ = some (.int .i64 aR_Most) := XP1.out.cell 0
  try clear cP1_1
  have cP1_1 : World.cell? (w3) ⟨w.heap.size + 1, 1, none⟩ = some (.int .i64 aR_Window) := XP1.out.cell 1
  try clear cP2_0
  have cP2_0 : World.cell? (w3) ⟨w.heap.size + 1 + 1, 0, none⟩ = some (.int .i64 aP_At) := XP2.out.cell 0
  try clear cP2_1
  have cP2_1 : World.cell? (w3) ⟨w.heap.size + 1 + 1, 1, none⟩ = some (.int .i64 aP_Food) := XP2.out.cell 1
  try clear cP2_2
  have cP2_2 : World.cell? (w3) ⟨w.heap.size + 1 + 1, 2, none⟩ = some (.slice aP_Crew_a aP_Crew_L.length aP_Crew_cap) := XP2.out.cell 2
  try clear cP2_3
  have cP2_3 : World.cell? (w3) ⟨w.heap.size + 1 + 1, 3, none⟩ = some (.slice aP_Past_a aP_Past_L.length aP_Past_cap) := XP2.out.cell 3
  go_wp2_with fail
  refine (PartyL.szParty_yes w3 aP_At aP_Food _ _ _ _ (((1048576 : Int) - ((aX_Cells_L.length : Int))) - ((aL_L.length : Int))) (aP_Crew_S.out.below HB5.out) (aP_Past_S.out.below HB5.out) (by omega) (by omega) (by omega)).mono ?_
  rintro e w4 ⟨rfl, hg⟩
  have HB6 := Lib.hid (HB5.out.grown hg HB5.out.size (fun _ h => by cases h)); clear HB5
  have XP0 := Lib.hid (XP0.out.grown hg)
  have XP1 := Lib.hid (XP1.out.grown hg)
  have XP2 := Lib.hid (XP2.out.grown hg)
  clear hg
  try clear cP0_0
  have cP0_0 : World.cell? (w4) ⟨w.heap.size, 0, none⟩ = some (.int .i64 aX_W) := XP0.out.cell 0
  try clear cP0_1
  have cP0_1 : World.cell? (w4) ⟨w.heap.size, 1, none⟩ = some (.int .i64 aX_H) := XP0.out.cell 1
  try clear cP0_2
  have cP0_2 : World.cell? (w4) ⟨w.heap.size, 2, none⟩ = some (.slice aX_Cells_a aX_Cells_L.length aX_Cells_cap) := XP0.out.cell 2
  try clear cP1_0
  have cP1_0 : World.cell? (w4) ⟨w.heap.size + 1, 0, none⟩ = some (.int .i64 aR_Most) := XP1.out.cell 0
  try clear cP1_1
  have cP1_1 : World.cell? (w4) ⟨w.heap.size + 1, 1, none⟩ = some (.int .i64 aR_Window) := XP1.out.cell 1
  try clear cP2_0
  have cP2_0 : World.cell? (w4) ⟨w.heap.size + 1 + 1, 0, none⟩ = some (.int .i64 aP_At) := XP2.out.cell 0
  try clear cP2_1
  have cP2_1 : World.cell? (w4) ⟨w.heap.size + 1 + 1, 1, none⟩ = some (.int .i64 aP_Food) := XP2.out.cell 1
  try clear cP2_2
  have cP2_2 : World.cell? (w4) ⟨w.heap.size + 1 + 1, 2, none⟩ = some (.slice aP_Crew_a aP_Crew_L.length aP_Crew_cap) := XP2.out.cell 2
  try clear cP2_3
  have cP2_3 : World.cell? (w4) ⟨w.heap.size + 1 + 1, 3, none⟩ = some (.slice aP_Past_a aP_Past_L.length aP_Past_cap) := XP2.out.cell 3
  go_wp2_with fail
  have hgd := grown_drew (World.grownBy.refl w4 none)
  have HB7 := Lib.hid (HB6.out.grown hgd HB6.out.size (fun _ h => by cases h)); clear HB6
  have XP0 := Lib.hid (XP0.out.grown hgd)
  have XP1 := Lib.hid (XP1.out.grown hgd)
  have XP2 := Lib.hid (XP2.out.grown hgd)
  clear hgd
  try clear cP0_0
  have cP0_0 : World.cell? ((World.drew w4)) ⟨w.heap.size, 0, none⟩ = some (.int .i64 aX_W) := XP0.out.cell 0
  try clear cP0_1
  have cP0_1 : World.cell? ((World.drew w4)) ⟨w.heap.size, 1, none⟩ = some (.int .i64 aX_H) := XP0.out.cell 1
  try clear cP0_2
  have cP0_2 : World.cell? ((World.drew w4)) ⟨w.heap.size, 2, none⟩ = some (.slice aX_Cells_a aX_Cells_L.length aX_Cells_cap) := XP0.out.cell 2
  try clear cP1_0
  have cP1_0 : World.cell? ((World.drew w4)) ⟨w.heap.size + 1, 0, none⟩ = some (.int .i64 aR_Most) := XP1.out.cell 0
  try clear cP1_1
  have cP1_1 : World.cell? ((World.drew w4)) ⟨w.heap.size + 1, 1, none⟩ = some (.int .i64 aR_Window) := XP1.out.cell 1
  try clear cP2_0
  have cP2_0 : World.cell? ((World.drew w4)) ⟨w.heap.size + 1 + 1, 0, none⟩ = some (.int .i64 aP_At) := XP2.out.cell 0
  try clear cP2_1
  have cP2_1 : World.cell? ((World.drew w4)) ⟨w.heap.size + 1 + 1, 1, none⟩ = some (.int .i64 aP_Food) := XP2.out.cell 1
  try clear cP2_2
  have cP2_2 : World.cell? ((World.drew w4)) ⟨w.heap.size + 1 + 1, 2, none⟩ = some (.slice aP_Crew_a aP_Crew_L.length aP_Crew_cap) := XP2.out.cell 2
  try clear cP2_3
  have cP2_3 : World.cell? ((World.drew w4)) ⟨w.heap.size + 1 + 1, 3, none⟩ = some (.slice aP_Past_a aP_Past_L.length aP_Past_cap) := XP2.out.cell 3
  refine wp_region_held_drew (S := fun w' => w'.cell? ⟨w.heap.size, 0, none⟩ = some (.int .i64 aX_W) ∧ w'.cell? ⟨w.heap.size, 1, none⟩ = some (.int .i64 aX_H) ∧ w'.cell? ⟨w.heap.size, 2, none⟩ = some (.slice aX_Cells_a aX_Cells_L.length aX_Cells_cap) ∧ w'.cell? ⟨w.heap.size + 1, 0, none⟩ = some (.int .i64 aR_Most) ∧ w'.cell? ⟨w.heap.size + 1, 1, none⟩ = some (.int .i64 aR_Window) ∧ w'.cell? ⟨w.heap.size + 1 + 1, 0, none⟩ = some (.int .i64 aP_At) ∧ w'.cell? ⟨w.heap.size + 1 + 1, 1, none⟩ = some (.int .i64 aP_Food) ∧ w'.cell? ⟨w.heap.size + 1 + 1, 2, none⟩ = some (.slice aP_Crew_a aP_Crew_L.length aP_Crew_cap) ∧ w'.cell? ⟨w.heap.size + 1 + 1, 3, none⟩ = some (.slice aP_Past_a aP_Past_L.length aP_Past_cap)) (by kernel_rfl) ⟨cP0_0, cP0_1, cP0_2, cP1_0, cP1_1, cP2_0, cP2_1, cP2_2, cP2_3⟩ (fun hHeld => ?_)
  refine wpAnyH_take (i := 0) (v := ?_) rfl (by kernel_rfl) (by kernel_rfl) (by kernel_rfl) (fun _ _ _ h => h) (Or.inl ⟨by rfl, ?_⟩) (by assumption) ?_; rotate_left; (focus (intro wS hSw; (try dsimp only at hSw); go_simp <;> with_reducible rfl)); (try simp only [Act.put, List.getElem_toArray, List.getElem_cons_succ, List.getElem_cons_zero, List.setIfInBounds_toArray, List.set_cons_zero, List.set_cons_succ])
  refine wpAnyH_take (i := 2) (v := ?_) rfl (by kernel_rfl) (by kernel_rfl) (by kernel_rfl) (fun _ _ _ h => h) (Or.inl ⟨by rfl, ?_⟩) (by assumption) ?_; rotate_left; (focus (intro wS hSw; (try dsimp only at hSw); go_simp <;> with_reducible rfl)); (try simp only [Act.put, List.getElem_toArray, List.getElem_cons_succ, List.getElem_cons_zero, List.setIfInBounds_toArray, List.set_cons_zero, List.set_cons_succ])
  refine wpAnyH_take (i := 3) (v := ?_) rfl (by kernel_rfl) (by kernel_rfl) (by kernel_rfl) (fun _ _ _ h => h) (Or.inl ⟨by rfl, ?_⟩) (by assumption) ?_; rotate_left; (focus (intro wS hSw; (try dsimp only at hSw); go_simp <;> with_reducible rfl)); (try simp only [Act.put, List.getElem_toArray, List.getElem_cons_succ, List.getElem_cons_zero, List.setIfInBounds_toArray, List.set_cons_zero, List.set_cons_succ])
  refine wpAnyH_take (i := 5) (v := ?_) rfl (by kernel_rfl) (by kernel_rfl) (by kernel_rfl) (fun _ _ _ h => h) (Or.inl ⟨by rfl, ?_⟩) (by assumption) ?_; rotate_left; (focus (intro wS hSw; (try dsimp only at hSw); go_simp <;> with_reducible rfl)); (try simp only [Act.put, List.getElem_toArray, List.getElem_cons_succ, List.getElem_cons_zero, List.setIfInBounds_toArray, List.set_cons_zero, List.set_cons_succ])
  refine wpAnyH_take (i := 7) (v := ?_) rfl (by kernel_rfl) (by kernel_rfl) (by kernel_rfl) (fun _ _ _ h => h) (Or.inl ⟨by rfl, ?_⟩) (by assumption) ?_; rotate_left; (focus (intro wS hSw; (try dsimp only at hSw); go_simp <;> with_reducible rfl)); (try simp only [Act.put, List.getElem_toArray, List.getElem_cons_succ, List.getElem_cons_zero, List.setIfInBounds_toArray, List.set_cons_zero, List.set_cons_succ])
  refine wpAnyH_ready (rs := [1]) (by kernel_rfl) (by simp) ?_; refine AllReadyH.cons rfl (fun K hK => ?_) AllReadyH.nil; go_simp; (go_at_call 13; refine (LandL.toLand_any (World.drew w4) aX_W aX_H _ _ (aX_Cells_S.out.below HB7.out) (by omega)).mono ?_; rintro e w6 ⟨u1, rfl, ho, hg⟩; have D_u1_P0 := Lib.hid (ho.off XP0.out.lt); have D_u1_P1 := Lib.hid (ho.off XP1.out.lt); have D_u1_P2 := Lib.hid (ho.off XP2.out.lt); have Ou1 := Lib.hid (ho.lower HB7.out.size); have HB8 := Lib.hid (HB7.out.grown hg HB7.out.size (fun _ h => by cases h)); clear HB7; have XP0 := Lib.hid (XP0.out.grown hg); have XP1 := Lib.hid (XP1.out.grown hg); have XP2 := Lib.hid (XP2.out.grown hg); clear ho hg)
  refine hK.out _ _ ?_ (fun hHeld => ?_)
  · exact ⟨XP0.out.cell 0, XP0.out.cell 1, XP0.out.cell 2, XP1.out.cell 0, XP1.out.cell 1, XP2.out.cell 0, XP2.out.cell 1, XP2.out.cell 2, XP2.out.cell 3⟩
  clear hK K
  (try simp only [Act.put, List.getElem_toArray, List.getElem_cons_succ, List.getElem_cons_zero, List.setIfInBounds_toArray, List.set_cons_zero, List.set_cons_succ])
  refine wpAnyH_ready (rs := [4]) (by kernel_rfl) (by simp) ?_; refine AllReadyH.cons rfl (fun K hK => ?_) AllReadyH.nil; go_simp; (go_at_call 14; refine (LawsG.to_any w6 (.slice aL_a aL_L.length aL_cap) aL_L (aL_S.out.below HB8.out) (by (try simp only [LawsBo.marksB_len, LawsG.marksG_len, LawsI.marksI_len, LawsM.marksM_len]); omega)).mono ?_; rintro e w7 ⟨u2, rfl, ho, hg⟩; have A_u2_u1 := Lib.hid (Rg.apart_lt ho.lt Ou1.out.lt (Nat.le_refl _)); have D_u2_P0 := Lib.hid (ho.off XP0.out.lt); have D_u2_P1 := Lib.hid (ho.off XP1.out.lt); have D_u2_P2 := Lib.hid (ho.off XP2.out.lt); have Ou2 := Lib.hid (ho.lower HB8.out.size); have HB9 := Lib.hid (HB8.out.grown hg HB8.out.size (fun _ h => by cases h)); clear HB8; have Ou1 := Lib.hid (Ou1.out.grown hg); have XP0 := Lib.hid (XP0.out.grown hg); have XP1 := Lib.hid (XP1.out.grown hg); have XP2 := Lib.hid (XP2.out.grown hg); clear ho hg)
  refine hK.out _ _ ?_ (fun hHeld => ?_)
  · exact ⟨XP0.out.cell 0, XP0.out.cell 1, XP0.out.cell 2, XP1.out.cell 0, XP1.out.cell 1, XP2.out.cell 0, XP2.out.cell 1, XP2.out.cell 2, XP2.out.cell 3⟩
  clear hK K
  (try simp only [Act.put, List.getElem_toArray, List.getElem_cons_succ, List.getElem_cons_zero, List.setIfInBounds_toArray, List.set_cons_zero, List.set_cons_succ])
  refine wpAnyH_ready (rs := [6]) (by kernel_rfl) (by simp) ?_; refine AllReadyH.cons rfl (fun K hK => ?_) AllReadyH.nil; go_simp; (go_at_call 27; refine (RuleL.toRule_any w7 aR_Most aR_Window).mono ?_; rintro e w8 ⟨rfl, hg⟩; have HB10 := Lib.hid (HB9.out.grown hg HB9.out.size (fun _ h => by cases h)); clear HB9; have Ou1 := Lib.hid (Ou1.out.grown hg); have Ou2 := Lib.hid (Ou2.out.grown hg); have XP0 := Lib.hid (XP0.out.grown hg); have XP1 := Lib.hid (XP1.out.grown hg); have XP2 := Lib.hid (XP2.out.grown hg); clear hg)
  refine hK.out _ _ ?_ (fun hHeld => ?_)
  · exact ⟨XP0.out.cell 0, XP0.out.cell 1, XP0.out.cell 2, XP1.out.cell 0, XP1.out.cell 1, XP2.out.cell 0, XP2.out.cell 1, XP2.out.cell 2, XP2.out.cell 3⟩
  clear hK K
  (try simp only [Act.put, List.getElem_toArray, List.getElem_cons_succ, List.getElem_cons_zero, List.setIfInBounds_toArray, List.set_cons_zero, List.set_cons_succ])
  refine wpAnyH_ready (rs := [8]) (by kernel_rfl) (by simp) ?_; refine AllReadyH.cons rfl (fun K hK => ?_) AllReadyH.nil; go_simp; (go_at_call 28; refine (PartyL.toParty_any w8 aP_At aP_Food _ _ _ _ (aP_Crew_S.out.below HB10.out) (aP_Past_S.out.below HB10.out) (by omega) (by omega)).mono ?_; rintro e w9 ⟨u3, u4, rfl, ho1, ho2, hap, hg⟩; have A_u3_u1 := Lib.hid (Rg.apart_lt ho1.lt Ou1.out.lt (Nat.le_refl _)); have A_u3_u2 := Lib.hid (Rg.apart_lt ho1.lt Ou2.out.lt (Nat.le_refl _)); have D_u3_P0 := Lib.hid (ho1.off XP0.out.lt); have D_u3_P1 := Lib.hid (ho1.off XP1.out.lt); have D_u3_P2 := Lib.hid (ho1.off XP2.out.lt); have Ou3 := Lib.hid (ho1.lower HB10.out.size); have A_u4_u1 := Lib.hid (Rg.apart_lt ho2.lt Ou1.out.lt (Nat.le_refl _)); have A_u4_u2 := Lib.hid (Rg.apart_lt ho2.lt Ou2.out.lt (Nat.le_refl _)); have D_u4_P0 := Lib.hid (ho2.off XP0.out.lt); have D_u4_P1 := Lib.hid (ho2.off XP1.out.lt); have D_u4_P2 := Lib.hid (ho2.off XP2.out.lt); have Ou4 := Lib.hid (ho2.lower HB10.out.size); have A_u4_u3 := Lib.hid hap; have HB11 := Lib.hid (HB10.out.grown hg HB10.out.size (fun _ h => by cases h)); clear HB10; have Ou1 := Lib.hid (Ou1.out.grown hg); have Ou2 := Lib.hid (Ou2.out.grown hg); have XP0 := Lib.hid (XP0.out.grown hg); have XP1 := Lib.hid (XP1.out.grown hg); have XP2 := Lib.hid (XP2.out.grown hg); clear ho1 ho2 hap hg)
  refine hK.out _ _ ?_ (fun hHeld => ?_)
  · exact ⟨XP0.out.cell 0, XP0.out.cell 1, XP0.out.cell 2, XP1.out.cell 0, XP1.out.cell 1, XP2.out.cell 0, XP2.out.cell 1, XP2.out.cell 2, XP2.out.cell 3⟩
  clear hK K
  (try simp only [Act.put, List.getElem_toArray, List.getElem_cons_succ, List.getElem_cons_zero, List.setIfInBounds_toArray, List.set_cons_zero, List.set_cons_succ])
  refine wpAnyH_ready (rs := [9]) (by kernel_rfl) (by simp) ?_; refine AllReadyH.cons rfl (fun K hK => ?_) AllReadyH.nil; go_simp; (go_at_call 26; refine (Pln.sPlanFood_any w9 aX_W aX_H aFrom aR_Most aR_Window aP_At aP_Food _ _ _ _ aX_Cells_L aL_L aP_Crew_L aP_Past_L aFrom_H.out aR_Most_H.out aR_Window_H.out (Ou1.out.sees) (Ou2.out.sees) (Ou3.out.sees) (Ou4.out.sees)).mono ?_; rintro e w10 ⟨rfl, hg⟩; have HB12 := Lib.hid (HB11.out.grown hg HB11.out.size (fun _ h => by cases h)); clear HB11; have Ou1 := Lib.hid (Ou1.out.grown hg); have Ou2 := Lib.hid (Ou2.out.grown hg); have Ou3 := Lib.hid (Ou3.out.grown hg); have Ou4 := Lib.hid (Ou4.out.grown hg); have XP0 := Lib.hid (XP0.out.grown hg); have XP1 := Lib.hid (XP1.out.grown hg); have XP2 := Lib.hid (XP2.out.grown hg); clear hg)
  refine hK.out _ _ ?_ (fun hHeld => ?_)
  · exact ⟨XP0.out.cell 0, XP0.out.cell 1, XP0.out.cell 2, XP1.out.cell 0, XP1.out.cell 1, XP2.out.cell 0, XP2.out.cell 1, XP2.out.cell 2, XP2.out.cell 3⟩
  clear hK K
  (try simp only [Act.put, List.getElem_toArray, List.getElem_cons_succ, List.getElem_cons_zero, List.setIfInBounds_toArray, List.set_cons_zero, List.set_cons_succ])
  refine wpAnyH_take (i := 10) (v := ?_) rfl (by kernel_rfl) (by kernel_rfl) (by kernel_rfl) (fun _ _ _ h => h) (Or.inl ⟨by rfl, ?_⟩) (by assumption) ?_; rotate_left; (focus (intro wS hSw; (try dsimp only at hSw); go_simp <;> with_reducible rfl)); (try simp only [Act.put, List.getElem_toArray, List.getElem_cons_succ, List.getElem_cons_zero, List.setIfInBounds_toArray, List.set_cons_zero, List.set_cons_succ])
  refine wpAnyH_done (by kernel_rfl) ?_ _
  (try simp only [Act.put, List.getElem_toArray, List.getElem_cons_succ, List.getElem_cons_zero, List.setIfInBounds_toArray, List.set_cons_zero, List.set_cons_succ])
  clear Ou1
  clear Ou2
  clear Ou3
  clear Ou4
  try clear cP0_0
  have cP0_0 : World.cell? (w10) ⟨w.heap.size, 0, none⟩ = some (.int .i64 aX_W) := XP0.out.cell 0
  try clear cP0_1
  have cP0_1 : World.cell? (w10) ⟨w.heap.size, 1, none⟩ = some (.int .i64 aX_H) := XP0.out.cell 1
  try clear cP0_2
  have cP0_2 : World.cell? (w10) ⟨w.heap.size, 2, none⟩ = some (.slice aX_Cells_a aX_Cells_L.length aX_Cells_cap) := XP0.out.cell 2
  try clear cP1_0
  have cP1_0 : World.cell? (w10) ⟨w.heap.size + 1, 0, none⟩ = some (.int .i64 aR_Most) := XP1.out.cell 0
  try clear cP1_1
  have cP1_1 : World.cell? (w10) ⟨w.heap.size + 1, 1, none⟩ = some (.int .i64 aR_Window) := XP1.out.cell 1
  try clear cP2_0
  have cP2_0 : World.cell? (w10) ⟨w.heap.size + 1 + 1, 0, none⟩ = some (.int .i64 aP_At) := XP2.out.cell 0
  try clear cP2_1
  have cP2_1 : World.cell? (w10) ⟨w.heap.size + 1 + 1, 1, none⟩ = some (.int .i64 aP_Food) := XP2.out.cell 1
  try clear cP2_2
  have cP2_2 : World.cell? (w10) ⟨w.heap.size + 1 + 1, 2, none⟩ = some (.slice aP_Crew_a aP_Crew_L.length aP_Crew_cap) := XP2.out.cell 2
  try clear cP2_3
  have cP2_3 : World.cell? (w10) ⟨w.heap.size + 1 + 1, 3, none⟩ = some (.slice aP_Past_a aP_Past_L.length aP_Past_cap) := XP2.out.cell 3
  go_wp2_with fail
  refine (LandL.toLand_any w10 aX_W aX_H _ _ (aX_Cells_S.out.below HB12.out) (by omega)).mono ?_
  rintro e w11 ⟨u5, rfl, ho, hg⟩
  have D_u5_P0 := Lib.hid (ho.off XP0.out.lt)
  have D_u5_P1 := Lib.hid (ho.off XP1.out.lt)
  have D_u5_P2 := Lib.hid (ho.off XP2.out.lt)
  have Ou5 := Lib.hid (ho.lower HB12.out.size)
  have HB13 := Lib.hid (HB12.out.grown hg HB12.out.size (fun _ h => by cases h)); clear HB12
  have XP0 := Lib.hid (XP0.out.grown hg)
  have XP1 := Lib.hid (XP1.out.grown hg)
  have XP2 := Lib.hid (XP2.out.grown hg)
  clear ho hg
  obtain ⟨u5_a, u5_n, u5_c, hu5, Nu5⟩ := Ou5.out.sees.shape; subst hu5
  have hgb := World.grownBy_alloc w11 (.cells #[.int .i64 aX_W, .int .i64 aX_H, .slice u5_a u5_n u5_c] 29 (0, 0)) none
  have D_u5_B6 := Lib.hid (Ou5.out.off' (Nat.le_refl _))
  have HB14 := Lib.hid (HB13.out.grown hgb HB13.out.size (fun _ h => by cases h)); clear HB13
  have Ou5 := Lib.hid (Ou5.out.grown hgb)
  have XP0 := Lib.hid (XP0.out.grown hgb)
  have XP1 := Lib.hid (XP1.out.grown hgb)
  have XP2 := Lib.hid (XP2.out.grown hgb)
  have XB6 := Lib.hid (box_new w11 #[.int .i64 aX_W, .int .i64 aX_H, .slice u5_a u5_n u5_c] 29); clear hgb
  try clear cP0_0
  have cP0_0 : World.cell? (w11.alloc (.cells #[.int .i64 aX_W, .int .i64 aX_H, .slice u5_a u5_n u5_c] 29 (0, 0))) ⟨w.heap.size, 0, none⟩ = some (.int .i64 aX_W) := XP0.out.cell 0
  try clear cP0_1
  have cP0_1 : World.cell? (w11.alloc (.cells #[.int .i64 aX_W, .int .i64 aX_H, .slice u5_a u5_n u5_c] 29 (0, 0))) ⟨w.heap.size, 1, none⟩ = some (.int .i64 aX_H) := XP0.out.cell 1
  try clear cP0_2
  have cP0_2 : World.cell? (w11.alloc (.cells #[.int .i64 aX_W, .int .i64 aX_H, .slice u5_a u5_n u5_c] 29 (0, 0))) ⟨w.heap.size, 2, none⟩ = some (.slice aX_Cells_a aX_Cells_L.length aX_Cells_cap) := XP0.out.cell 2
  try clear cP1_0
  have cP1_0 : World.cell? (w11.alloc (.cells #[.int .i64 aX_W, .int .i64 aX_H, .slice u5_a u5_n u5_c] 29 (0, 0))) ⟨w.heap.size + 1, 0, none⟩ = some (.int .i64 aR_Most) := XP1.out.cell 0
  try clear cP1_1
  have cP1_1 : World.cell? (w11.alloc (.cells #[.int .i64 aX_W, .int .i64 aX_H, .slice u5_a u5_n u5_c] 29 (0, 0))) ⟨w.heap.size + 1, 1, none⟩ = some (.int .i64 aR_Window) := XP1.out.cell 1
  try clear cP2_0
  have cP2_0 : World.cell? (w11.alloc (.cells #[.int .i64 aX_W, .int .i64 aX_H, .slice u5_a u5_n u5_c] 29 (0, 0))) ⟨w.heap.size + 1 + 1, 0, none⟩ = some (.int .i64 aP_At) := XP2.out.cell 0
  try clear cP2_1
  have cP2_1 : World.cell? (w11.alloc (.cells #[.int .i64 aX_W, .int .i64 aX_H, .slice u5_a u5_n u5_c] 29 (0, 0))) ⟨w.heap.size + 1 + 1, 1, none⟩ = some (.int .i64 aP_Food) := XP2.out.cell 1
  try clear cP2_2
  have cP2_2 : World.cell? (w11.alloc (.cells #[.int .i64 aX_W, .int .i64 aX_H, .slice u5_a u5_n u5_c] 29 (0, 0))) ⟨w.heap.size + 1 + 1, 2, none⟩ = some (.slice aP_Crew_a aP_Crew_L.length aP_Crew_cap) := XP2.out.cell 2
  try clear cP2_3
  have cP2_3 : World.cell? (w11.alloc (.cells #[.int .i64 aX_W, .int .i64 aX_H, .slice u5_a u5_n u5_c] 29 (0, 0))) ⟨w.heap.size + 1 + 1, 3, none⟩ = some (.slice aP_Past_a aP_Past_L.length aP_Past_cap) := XP2.out.cell 3
  try clear cB6_0
  have cB6_0 : World.cell? (w11.alloc (.cells #[.int .i64 aX_W, .int .i64 aX_H, .slice u5_a u5_n u5_c] 29 (0, 0))) ⟨w11.heap.size, 0, none⟩ = some (.int .i64 aX_W) := XB6.out.cell 0
  try clear cB6_1
  have cB6_1 : World.cell? (w11.alloc (.cells #[.int .i64 aX_W, .int .i64 aX_H, .slice u5_a u5_n u5_c] 29 (0, 0))) ⟨w11.heap.size, 1, none⟩ = some (.int .i64 aX_H) := XB6.out.cell 1
  try clear cB6_2
  have cB6_2 : World.cell? (w11.alloc (.cells #[.int .i64 aX_W, .int .i64 aX_H, .slice u5_a u5_n u5_c] 29 (0, 0))) ⟨w11.heap.size, 2, none⟩ = some (.slice u5_a u5_n u5_c) := XB6.out.cell 2
  go_wp2_with fail
  generalize w11.alloc (.cells #[.int .i64 aX_W, .int .i64 aX_H, .slice u5_a u5_n u5_c] 29 (0, 0)) = w12 at *
  refine (LawsG.to_any w12 (.slice aL_a aL_L.length aL_cap) aL_L (aL_S.out.below HB14.out) (by (try simp only [LawsBo.marksB_len, LawsG.marksG_len, LawsI.marksI_len, LawsM.marksM_len]); omega)).mono ?_
  rintro e w13 ⟨u7, rfl, ho, hg⟩
  have A_u7_u5 := Lib.hid (Rg.apart_lt ho.lt Ou5.out.lt (Nat.le_refl _))
  have D_u7_P0 := Lib.hid (ho.off XP0.out.lt)
  have D_u7_P1 := Lib.hid (ho.off XP1.out.lt)
  have D_u7_P2 := Lib.hid (ho.off XP2.out.lt)
  have D_u7_B6 := Lib.hid (ho.off XB6.out.lt)
  have Ou7 := Lib.hid (ho.lower HB14.out.size)
  have HB15 := Lib.hid (HB14.out.grown hg HB14.out.size (fun _ h => by cases h)); clear HB14
  have Ou5 := Lib.hid (Ou5.out.grown hg)
  have XP0 := Lib.hid (XP0.out.grown hg)
  have XP1 := Lib.hid (XP1.out.grown hg)
  have XP2 := Lib.hid (XP2.out.grown hg)
  have XB6 := Lib.hid (XB6.out.grown hg)
  clear ho hg
  try clear cP0_0
  have cP0_0 : World.cell? (w13) ⟨w.heap.size, 0, none⟩ = some (.int .i64 aX_W) := XP0.out.cell 0
  try clear cP0_1
  have cP0_1 : World.cell? (w13) ⟨w.heap.size, 1, none⟩ = some (.int .i64 aX_H) := XP0.out.cell 1
  try clear cP0_2
  have cP0_2 : World.cell? (w13) ⟨w.heap.size, 2, none⟩ = some (.slice aX_Cells_a aX_Cells_L.length aX_Cells_cap) := XP0.out.cell 2
  try clear cP1_0
  have cP1_0 : World.cell? (w13) ⟨w.heap.size + 1, 0, none⟩ = some (.int .i64 aR_Most) := XP1.out.cell 0
  try clear cP1_1
  have cP1_1 : World.cell? (w13) ⟨w.heap.size + 1, 1, none⟩ = some (.int .i64 aR_Window) := XP1.out.cell 1
  try clear cP2_0
  have cP2_0 : World.cell? (w13) ⟨w.heap.size + 1 + 1, 0, none⟩ = some (.int .i64 aP_At) := XP2.out.cell 0
  try clear cP2_1
  have cP2_1 : World.cell? (w13) ⟨w.heap.size + 1 + 1, 1, none⟩ = some (.int .i64 aP_Food) := XP2.out.cell 1
  try clear cP2_2
  have cP2_2 : World.cell? (w13) ⟨w.heap.size + 1 + 1, 2, none⟩ = some (.slice aP_Crew_a aP_Crew_L.length aP_Crew_cap) := XP2.out.cell 2
  try clear cP2_3
  have cP2_3 : World.cell? (w13) ⟨w.heap.size + 1 + 1, 3, none⟩ = some (.slice aP_Past_a aP_Past_L.length aP_Past_cap) := XP2.out.cell 3
  try clear cB6_0
  have cB6_0 : World.cell? (w13) ⟨w11.heap.size, 0, none⟩ = some (.int .i64 aX_W) := XB6.out.cell 0
  try clear cB6_1
  have cB6_1 : World.cell? (w13) ⟨w11.heap.size, 1, none⟩ = some (.int .i64 aX_H) := XB6.out.cell 1
  try clear cB6_2
  have cB6_2 : World.cell? (w13) ⟨w11.heap.size, 2, none⟩ = some (.slice u5_a u5_n u5_c) := XB6.out.cell 2
  go_wp2_with fail
  refine (PartyL.toParty_any w13 aP_At aP_Food _ _ _ _ (aP_Crew_S.out.below HB15.out) (aP_Past_S.out.below HB15.out) (by omega) (by omega)).mono ?_
  rintro e w14 ⟨u8, u9, rfl, ho1, ho2, hap, hg⟩
  have A_u8_u5 := Lib.hid (Rg.apart_lt ho1.lt Ou5.out.lt (Nat.le_refl _))
  have A_u8_u7 := Lib.hid (Rg.apart_lt ho1.lt Ou7.out.lt (Nat.le_refl _))
  have D_u8_P0 := Lib.hid (ho1.off XP0.out.lt)
  have D_u8_P1 := Lib.hid (ho1.off XP1.out.lt)
  have D_u8_P2 := Lib.hid (ho1.off XP2.out.lt)
  have D_u8_B6 := Lib.hid (ho1.off XB6.out.lt)
  have Ou8 := Lib.hid (ho1.lower HB15.out.size)
  have A_u9_u5 := Lib.hid (Rg.apart_lt ho2.lt Ou5.out.lt (Nat.le_refl _))
  have A_u9_u7 := Lib.hid (Rg.apart_lt ho2.lt Ou7.out.lt (Nat.le_refl _))
  have D_u9_P0 := Lib.hid (ho2.off XP0.out.lt)
  have D_u9_P1 := Lib.hid (ho2.off XP1.out.lt)
  have D_u9_P2 := Lib.hid (ho2.off XP2.out.lt)
  have D_u9_B6 := Lib.hid (ho2.off XB6.out.lt)
  have Ou9 := Lib.hid (ho2.lower HB15.out.size)
  have A_u9_u8 := Lib.hid hap
  have HB16 := Lib.hid (HB15.out.grown hg HB15.out.size (fun _ h => by cases h)); clear HB15
  have Ou5 := Lib.hid (Ou5.out.grown hg)
  have Ou7 := Lib.hid (Ou7.out.grown hg)
  have XP0 := Lib.hid (XP0.out.grown hg)
  have XP1 := Lib.hid (XP1.out.grown hg)
  have XP2 := Lib.hid (XP2.out.grown hg)
  have XB6 := Lib.hid (XB6.out.grown hg)
  clear ho1 ho2 hap hg
  obtain ⟨u8_a, u8_n, u8_c, hu8, Nu8⟩ := Ou8.out.sees.shape; subst hu8
  obtain ⟨u9_a, u9_n, u9_c, hu9, Nu9⟩ := Ou9.out.sees.shape; subst hu9
  have hgb := World.grownBy_alloc w14 (.cells #[.int .i64 aP_At, .int .i64 aP_Food, .slice u8_a u8_n u8_c, .slice u9_a u9_n u9_c] 53 (0, 0)) none
  have D_u5_B10 := Lib.hid (Ou5.out.off' (Nat.le_refl _))
  have D_u7_B10 := Lib.hid (Ou7.out.off' (Nat.le_refl _))
  have D_u8_B10 := Lib.hid (Ou8.out.off' (Nat.le_refl _))
  have D_u9_B10 := Lib.hid (Ou9.out.off' (Nat.le_refl _))
  have HB17 := Lib.hid (HB16.out.grown hgb HB16.out.size (fun _ h => by cases h)); clear HB16
  have Ou5 := Lib.hid (Ou5.out.grown hgb)
  have Ou7 := Lib.hid (Ou7.out.grown hgb)
  have Ou8 := Lib.hid (Ou8.out.grown hgb)
  have Ou9 := Lib.hid (Ou9.out.grown hgb)
  have XP0 := Lib.hid (XP0.out.grown hgb)
  have XP1 := Lib.hid (XP1.out.grown hgb)
  have XP2 := Lib.hid (XP2.out.grown hgb)
  have XB6 := Lib.hid (XB6.out.grown hgb)
  have XB10 := Lib.hid (box_new w14 #[.int .i64 aP_At, .int .i64 aP_Food, .slice u8_a u8_n u8_c, .slice u9_a u9_n u9_c] 53); clear hgb
  try clear cP0_0
  have cP0_0 : World.cell? (w14.alloc (.cells #[.int .i64 aP_At, .int .i64 aP_Food, .slice u8_a u8_n u8_c, .slice u9_a u9_n u9_c] 53 (0, 0))) ⟨w.heap.size, 0, none⟩ = some (.int .i64 aX_W) := XP0.out.cell 0
  try clear cP0_1
  have cP0_1 : World.cell? (w14.alloc (.cells #[.int .i64 aP_At, .int .i64 aP_Food, .slice u8_a u8_n u8_c, .slice u9_a u9_n u9_c] 53 (0, 0))) ⟨w.heap.size, 1, none⟩ = some (.int .i64 aX_H) := XP0.out.cell 1
  try clear cP0_2
  have cP0_2 : World.cell? (w14.alloc (.cells #[.int .i64 aP_At, .int .i64 aP_Food, .slice u8_a u8_n u8_c, .slice u9_a u9_n u9_c] 53 (0, 0))) ⟨w.heap.size, 2, none⟩ = some (.slice aX_Cells_a aX_Cells_L.length aX_Cells_cap) := XP0.out.cell 2
  try clear cP1_0
  have cP1_0 : World.cell? (w14.alloc (.cells #[.int .i64 aP_At, .int .i64 aP_Food, .slice u8_a u8_n u8_c, .slice u9_a u9_n u9_c] 53 (0, 0))) ⟨w.heap.size + 1, 0, none⟩ = some (.int .i64 aR_Most) := XP1.out.cell 0
  try clear cP1_1
  have cP1_1 : World.cell? (w14.alloc (.cells #[.int .i64 aP_At, .int .i64 aP_Food, .slice u8_a u8_n u8_c, .slice u9_a u9_n u9_c] 53 (0, 0))) ⟨w.heap.size + 1, 1, none⟩ = some (.int .i64 aR_Window) := XP1.out.cell 1
  try clear cP2_0
  have cP2_0 : World.cell? (w14.alloc (.cells #[.int .i64 aP_At, .int .i64 aP_Food, .slice u8_a u8_n u8_c, .slice u9_a u9_n u9_c] 53 (0, 0))) ⟨w.heap.size + 1 + 1, 0, none⟩ = some (.int .i64 aP_At) := XP2.out.cell 0
  try clear cP2_1
  have cP2_1 : World.cell? (w14.alloc (.cells #[.int .i64 aP_At, .int .i64 aP_Food, .slice u8_a u8_n u8_c, .slice u9_a u9_n u9_c] 53 (0, 0))) ⟨w.heap.size + 1 + 1, 1, none⟩ = some (.int .i64 aP_Food) := XP2.out.cell 1
  try clear cP2_2
  have cP2_2 : World.cell? (w14.alloc (.cells #[.int .i64 aP_At, .int .i64 aP_Food, .slice u8_a u8_n u8_c, .slice u9_a u9_n u9_c] 53 (0, 0))) ⟨w.heap.size + 1 + 1, 2, none⟩ = some (.slice aP_Crew_a aP_Crew_L.length aP_Crew_cap) := XP2.out.cell 2
  try clear cP2_3
  have cP2_3 : World.cell? (w14.alloc (.cells #[.int .i64 aP_At, .int .i64 aP_Food, .slice u8_a u8_n u8_c, .slice u9_a u9_n u9_c] 53 (0, 0))) ⟨w.heap.size + 1 + 1, 3, none⟩ = some (.slice aP_Past_a aP_Past_L.length aP_Past_cap) := XP2.out.cell 3
  try clear cB6_0
  have cB6_0 : World.cell? (w14.alloc (.cells #[.int .i64 aP_At, .int .i64 aP_Food, .slice u8_a u8_n u8_c, .slice u9_a u9_n u9_c] 53 (0, 0))) ⟨w11.heap.size, 0, none⟩ = some (.int .i64 aX_W) := XB6.out.cell 0
  try clear cB6_1
  have cB6_1 : World.cell? (w14.alloc (.cells #[.int .i64 aP_At, .int .i64 aP_Food, .slice u8_a u8_n u8_c, .slice u9_a u9_n u9_c] 53 (0, 0))) ⟨w11.heap.size, 1, none⟩ = some (.int .i64 aX_H) := XB6.out.cell 1
  try clear cB6_2
  have cB6_2 : World.cell? (w14.alloc (.cells #[.int .i64 aP_At, .int .i64 aP_Food, .slice u8_a u8_n u8_c, .slice u9_a u9_n u9_c] 53 (0, 0))) ⟨w11.heap.size, 2, none⟩ = some (.slice u5_a u5_n u5_c) := XB6.out.cell 2
  try clear cB10_0
  have cB10_0 : World.cell? (w14.alloc (.cells #[.int .i64 aP_At, .int .i64 aP_Food, .slice u8_a u8_n u8_c, .slice u9_a u9_n u9_c] 53 (0, 0))) ⟨w14.heap.size, 0, none⟩ = some (.int .i64 aP_At) := XB10.out.cell 0
  try clear cB10_1
  have cB10_1 : World.cell? (w14.alloc (.cells #[.int .i64 aP_At, .int .i64 aP_Food, .slice u8_a u8_n u8_c, .slice u9_a u9_n u9_c] 53 (0, 0))) ⟨w14.heap.size, 1, none⟩ = some (.int .i64 aP_Food) := XB10.out.cell 1
  try clear cB10_2
  have cB10_2 : World.cell? (w14.alloc (.cells #[.int .i64 aP_At, .int .i64 aP_Food, .slice u8_a u8_n u8_c, .slice u9_a u9_n u9_c] 53 (0, 0))) ⟨w14.heap.size, 2, none⟩ = some (.slice u8_a u8_n u8_c) := XB10.out.cell 2
  try clear cB10_3
  have cB10_3 : World.cell? (w14.alloc (.cells #[.int .i64 aP_At, .int .i64 aP_Food, .slice u8_a u8_n u8_c, .slice u9_a u9_n u9_c] 53 (0, 0))) ⟨w14.heap.size, 3, none⟩ = some (.slice u9_a u9_n u9_c) := XB10.out.cell 3
  go_wp2_with fail
  generalize w14.alloc (.cells #[.int .i64 aP_At, .int .i64 aP_Food, .slice u8_a u8_n u8_c, .slice u9_a u9_n u9_c] 53 (0, 0)) = w15 at *
  have hgd := grown_drew (World.grownBy.refl w15 none)
  have HB18 := Lib.hid (HB17.out.grown hgd HB17.out.size (fun _ h => by cases h)); clear HB17
  have Ou5 := Lib.hid (Ou5.out.grown hgd)
  have Ou7 := Lib.hid (Ou7.out.grown hgd)
  have Ou8 := Lib.hid (Ou8.out.grown hgd)
  have Ou9 := Lib.hid (Ou9.out.grown hgd)
  have XP0 := Lib.hid (XP0.out.grown hgd)
  have XP1 := Lib.hid (XP1.out.grown hgd)
  have XP2 := Lib.hid (XP2.out.grown hgd)
  have XB6 := Lib.hid (XB6.out.grown hgd)
  have XB10 := Lib.hid (XB10.out.grown hgd)
  clear hgd
  try clear cB6_0
  have cB6_0 : World.cell? ((World.drew w15)) ⟨w11.heap.size, 0, none⟩ = some (.int .i64 aX_W) := XB6.out.cell 0
  try clear cB6_1
  have cB6_1 : World.cell? ((World.drew w15)) ⟨w11.heap.size, 1, none⟩ = some (.int .i64 aX_H) := XB6.out.cell 1
  try clear cB6_2
  have cB6_2 : World.cell? ((World.drew w15)) ⟨w11.heap.size, 2, none⟩ = some (.slice u5_a u5_n u5_c) := XB6.out.cell 2
  try clear cP1_0
  have cP1_0 : World.cell? ((World.drew w15)) ⟨w.heap.size + 1, 0, none⟩ = some (.int .i64 aR_Most) := XP1.out.cell 0
  try clear cP1_1
  have cP1_1 : World.cell? ((World.drew w15)) ⟨w.heap.size + 1, 1, none⟩ = some (.int .i64 aR_Window) := XP1.out.cell 1
  try clear cB10_0
  have cB10_0 : World.cell? ((World.drew w15)) ⟨w14.heap.size, 0, none⟩ = some (.int .i64 aP_At) := XB10.out.cell 0
  try clear cB10_1
  have cB10_1 : World.cell? ((World.drew w15)) ⟨w14.heap.size, 1, none⟩ = some (.int .i64 aP_Food) := XB10.out.cell 1
  try clear cB10_2
  have cB10_2 : World.cell? ((World.drew w15)) ⟨w14.heap.size, 2, none⟩ = some (.slice u8_a u8_n u8_c) := XB10.out.cell 2
  try clear cB10_3
  have cB10_3 : World.cell? ((World.drew w15)) ⟨w14.heap.size, 3, none⟩ = some (.slice u9_a u9_n u9_c) := XB10.out.cell 3
  refine wp_region_held_drew (S := fun w' => w'.cell? ⟨w11.heap.size, 0, none⟩ = some (.int .i64 aX_W) ∧ w'.cell? ⟨w11.heap.size, 1, none⟩ = some (.int .i64 aX_H) ∧ w'.cell? ⟨w11.heap.size, 2, none⟩ = some (.slice u5_a u5_n u5_c) ∧ w'.cell? ⟨w.heap.size + 1, 0, none⟩ = some (.int .i64 aR_Most) ∧ w'.cell? ⟨w.heap.size + 1, 1, none⟩ = some (.int .i64 aR_Window) ∧ w'.cell? ⟨w14.heap.size, 0, none⟩ = some (.int .i64 aP_At) ∧ w'.cell? ⟨w14.heap.size, 1, none⟩ = some (.int .i64 aP_Food) ∧ w'.cell? ⟨w14.heap.size, 2, none⟩ = some (.slice u8_a u8_n u8_c) ∧ w'.cell? ⟨w14.heap.size, 3, none⟩ = some (.slice u9_a u9_n u9_c)) (by kernel_rfl) ⟨cB6_0, cB6_1, cB6_2, cP1_0, cP1_1, cB10_0, cB10_1, cB10_2, cB10_3⟩ (fun hHeld => ?_)
  refine wpAnyH_take (i := 0) (v := ?_) rfl (by kernel_rfl) (by kernel_rfl) (by kernel_rfl) (fun _ _ _ h => h) (Or.inl ⟨by rfl, ?_⟩) (by assumption) ?_; rotate_left; (focus (intro wS hSw; (try dsimp only at hSw); go_simp <;> with_reducible rfl)); (try simp only [Act.put, List.getElem_toArray, List.getElem_cons_succ, List.getElem_cons_zero, List.setIfInBounds_toArray, List.set_cons_zero, List.set_cons_succ])
  refine wpAnyH_take (i := 1) (v := ?_) rfl (by kernel_rfl) (by kernel_rfl) (by kernel_rfl) (fun _ _ _ h => h) (Or.inl ⟨by rfl, ?_⟩) (by assumption) ?_; rotate_left; (focus (intro wS hSw; (try dsimp only at hSw); go_simp <;> with_reducible rfl)); (try simp only [Act.put, List.getElem_toArray, List.getElem_cons_succ, List.getElem_cons_zero, List.setIfInBounds_toArray, List.set_cons_zero, List.set_cons_succ])
  refine wpAnyH_take (i := 2) (v := ?_) rfl (by kernel_rfl) (by kernel_rfl) (by kernel_rfl) (fun _ _ _ h => h) (Or.inl ⟨by rfl, ?_⟩) (by assumption) ?_; rotate_left; (focus (intro wS hSw; (try dsimp only at hSw); go_simp <;> with_reducible rfl)); (try simp only [Act.put, List.getElem_toArray, List.getElem_cons_succ, List.getElem_cons_zero, List.setIfInBounds_toArray, List.set_cons_zero, List.set_cons_succ])
  refine wpAnyH_take (i := 3) (v := ?_) rfl (by kernel_rfl) (by kernel_rfl) (by kernel_rfl) (fun _ _ _ h => h) (Or.inl ⟨by rfl, ?_⟩) (by assumption) ?_; rotate_left; (focus (intro wS hSw; (try dsimp only at hSw); go_simp <;> with_reducible rfl)); (try simp only [Act.put, List.getElem_toArray, List.getElem_cons_succ, List.getElem_cons_zero, List.setIfInBounds_toArray, List.set_cons_zero, List.set_cons_succ])
  refine wpAnyH_take (i := 5) (v := ?_) rfl (by kernel_rfl) (by kernel_rfl) (by kernel_rfl) (fun _ _ _ h => h) (Or.inl ⟨by rfl, ?_⟩) (by assumption) ?_; rotate_left; (focus (intro wS hSw; (try dsimp only at hSw); go_simp <;> with_reducible rfl)); (try simp only [Act.put, List.getElem_toArray, List.getElem_cons_succ, List.getElem_cons_zero, List.setIfInBounds_toArray, List.set_cons_zero, List.set_cons_succ])
  refine wpAnyH_ready (rs := [4]) (by kernel_rfl) (by simp) ?_; refine AllReadyH.cons rfl (fun K hK => ?_) AllReadyH.nil; go_simp; (go_at_call 27; refine (RuleL.toRule_any (World.drew w15) aR_Most aR_Window).mono ?_; rintro e w17 ⟨rfl, hg⟩; have HB19 := Lib.hid (HB18.out.grown hg HB18.out.size (fun _ h => by cases h)); clear HB18; have Ou5 := Lib.hid (Ou5.out.grown hg); have Ou7 := Lib.hid (Ou7.out.grown hg); have Ou8 := Lib.hid (Ou8.out.grown hg); have Ou9 := Lib.hid (Ou9.out.grown hg); have XP0 := Lib.hid (XP0.out.grown hg); have XP1 := Lib.hid (XP1.out.grown hg); have XP2 := Lib.hid (XP2.out.grown hg); have XB6 := Lib.hid (XB6.out.grown hg); have XB10 := Lib.hid (XB10.out.grown hg); clear hg)
  refine hK.out _ _ ?_ (fun hHeld => ?_)
  · exact ⟨XB6.out.cell 0, XB6.out.cell 1, XB6.out.cell 2, XP1.out.cell 0, XP1.out.cell 1, XB10.out.cell 0, XB10.out.cell 1, XB10.out.cell 2, XB10.out.cell 3⟩
  clear hK K
  (try simp only [Act.put, List.getElem_toArray, List.getElem_cons_succ, List.getElem_cons_zero, List.setIfInBounds_toArray, List.set_cons_zero, List.set_cons_succ])
  refine wpAnyH_ready (rs := [6]) (by kernel_rfl) (by simp) ?_; refine AllReadyH.cons rfl (fun K hK => ?_) AllReadyH.nil; go_simp; (go_at_call 29; refine (Pln.iPlanFood_any w17 aX_W aX_H aFrom aR_Most aR_Window aP_At aP_Food _ _ _ _ aX_Cells_L aL_L aP_Crew_L aP_Past_L aFrom_H.out aR_Most_H.out aR_Window_H.out (Ou5.out.sees) (Ou7.out.sees) (Ou8.out.sees) (Ou9.out.sees)).mono ?_; rintro e w18 ⟨rfl, hg⟩; have HB20 := Lib.hid (HB19.out.grown hg HB19.out.size (fun _ h => by cases h)); clear HB19; have Ou5 := Lib.hid (Ou5.out.grown hg); have Ou7 := Lib.hid (Ou7.out.grown hg); have Ou8 := Lib.hid (Ou8.out.grown hg); have Ou9 := Lib.hid (Ou9.out.grown hg); have XP0 := Lib.hid (XP0.out.grown hg); have XP1 := Lib.hid (XP1.out.grown hg); have XP2 := Lib.hid (XP2.out.grown hg); have XB6 := Lib.hid (XB6.out.grown hg); have XB10 := Lib.hid (XB10.out.grown hg); clear hg)
  refine hK.out _ _ ?_ (fun hHeld => ?_)
  · exact ⟨XB6.out.cell 0, XB6.out.cell 1, XB6.out.cell 2, XP1.out.cell 0, XP1.out.cell 1, XB10.out.cell 0, XB10.out.cell 1, XB10.out.cell 2, XB10.out.cell 3⟩
  clear hK K
  (try simp only [Act.put, List.getElem_toArray, List.getElem_cons_succ, List.getElem_cons_zero, List.setIfInBounds_toArray, List.set_cons_zero, List.set_cons_succ])
  refine wpAnyH_take (i := 7) (v := ?_) rfl (by kernel_rfl) (by kernel_rfl) (by kernel_rfl) (fun _ _ _ h => h) (Or.inl ⟨by rfl, ?_⟩) (by assumption) ?_; rotate_left; (focus (intro wS hSw; (try dsimp only at hSw); go_simp <;> with_reducible rfl)); (try simp only [Act.put, List.getElem_toArray, List.getElem_cons_succ, List.getElem_cons_zero, List.setIfInBounds_toArray, List.set_cons_zero, List.set_cons_succ])
  refine wpAnyH_done (by kernel_rfl) ?_ _
  (try simp only [Act.put, List.getElem_toArray, List.getElem_cons_succ, List.getElem_cons_zero, List.setIfInBounds_toArray, List.set_cons_zero, List.set_cons_succ])
  try clear cP0_0
  have cP0_0 : World.cell? (w18) ⟨w.heap.size, 0, none⟩ = some (.int .i64 aX_W) := XP0.out.cell 0
  try clear cP0_1
  have cP0_1 : World.cell? (w18) ⟨w.heap.size, 1, none⟩ = some (.int .i64 aX_H) := XP0.out.cell 1
  try clear cP0_2
  have cP0_2 : World.cell? (w18) ⟨w.heap.size, 2, none⟩ = some (.slice aX_Cells_a aX_Cells_L.length aX_Cells_cap) := XP0.out.cell 2
  try clear cP1_0
  have cP1_0 : World.cell? (w18) ⟨w.heap.size + 1, 0, none⟩ = some (.int .i64 aR_Most) := XP1.out.cell 0
  try clear cP1_1
  have cP1_1 : World.cell? (w18) ⟨w.heap.size + 1, 1, none⟩ = some (.int .i64 aR_Window) := XP1.out.cell 1
  try clear cP2_0
  have cP2_0 : World.cell? (w18) ⟨w.heap.size + 1 + 1, 0, none⟩ = some (.int .i64 aP_At) := XP2.out.cell 0
  try clear cP2_1
  have cP2_1 : World.cell? (w18) ⟨w.heap.size + 1 + 1, 1, none⟩ = some (.int .i64 aP_Food) := XP2.out.cell 1
  try clear cP2_2
  have cP2_2 : World.cell? (w18) ⟨w.heap.size + 1 + 1, 2, none⟩ = some (.slice aP_Crew_a aP_Crew_L.length aP_Crew_cap) := XP2.out.cell 2
  try clear cP2_3
  have cP2_3 : World.cell? (w18) ⟨w.heap.size + 1 + 1, 3, none⟩ = some (.slice aP_Past_a aP_Past_L.length aP_Past_cap) := XP2.out.cell 3
  try clear cB6_0
  have cB6_0 : World.cell? (w18) ⟨w11.heap.size, 0, none⟩ = some (.int .i64 aX_W) := XB6.out.cell 0
  try clear cB6_1
  have cB6_1 : World.cell? (w18) ⟨w11.heap.size, 1, none⟩ = some (.int .i64 aX_H) := XB6.out.cell 1
  try clear cB6_2
  have cB6_2 : World.cell? (w18) ⟨w11.heap.size, 2, none⟩ = some (.slice u5_a u5_n u5_c) := XB6.out.cell 2
  try clear cB10_0
  have cB10_0 : World.cell? (w18) ⟨w14.heap.size, 0, none⟩ = some (.int .i64 aP_At) := XB10.out.cell 0
  try clear cB10_1
  have cB10_1 : World.cell? (w18) ⟨w14.heap.size, 1, none⟩ = some (.int .i64 aP_Food) := XB10.out.cell 1
  try clear cB10_2
  have cB10_2 : World.cell? (w18) ⟨w14.heap.size, 2, none⟩ = some (.slice u8_a u8_n u8_c) := XB10.out.cell 2
  try clear cB10_3
  have cB10_3 : World.cell? (w18) ⟨w14.heap.size, 3, none⟩ = some (.slice u9_a u9_n u9_c) := XB10.out.cell 3
  go_wp2_with fail
  have hgd := grown_drew (World.grownBy.refl w18 none)
  have HB21 := Lib.hid (HB20.out.grown hgd HB20.out.size (fun _ h => by cases h)); clear HB20
  have Ou5 := Lib.hid (Ou5.out.grown hgd)
  have Ou7 := Lib.hid (Ou7.out.grown hgd)
  have Ou8 := Lib.hid (Ou8.out.grown hgd)
  have Ou9 := Lib.hid (Ou9.out.grown hgd)
  have XP0 := Lib.hid (XP0.out.grown hgd)
  have XP1 := Lib.hid (XP1.out.grown hgd)
  have XP2 := Lib.hid (XP2.out.grown hgd)
  have XB6 := Lib.hid (XB6.out.grown hgd)
  have XB10 := Lib.hid (XB10.out.grown hgd)
  clear hgd
  try clear cB6_0
  have cB6_0 : World.cell? ((World.drew w18)) ⟨w11.heap.size, 0, none⟩ = some (.int .i64 aX_W) := XB6.out.cell 0
  try clear cB6_1
  have cB6_1 : World.cell? ((World.drew w18)) ⟨w11.heap.size, 1, none⟩ = some (.int .i64 aX_H) := XB6.out.cell 1
  try clear cB6_2
  have cB6_2 : World.cell? ((World.drew w18)) ⟨w11.heap.size, 2, none⟩ = some (.slice u5_a u5_n u5_c) := XB6.out.cell 2
  try clear cP0_0
  have cP0_0 : World.cell? ((World.drew w18)) ⟨w.heap.size, 0, none⟩ = some (.int .i64 aX_W) := XP0.out.cell 0
  try clear cP0_1
  have cP0_1 : World.cell? ((World.drew w18)) ⟨w.heap.size, 1, none⟩ = some (.int .i64 aX_H) := XP0.out.cell 1
  try clear cP0_2
  have cP0_2 : World.cell? ((World.drew w18)) ⟨w.heap.size, 2, none⟩ = some (.slice aX_Cells_a aX_Cells_L.length aX_Cells_cap) := XP0.out.cell 2
  refine wp_region_held_drew (S := fun w' => w'.cell? ⟨w11.heap.size, 0, none⟩ = some (.int .i64 aX_W) ∧ w'.cell? ⟨w11.heap.size, 1, none⟩ = some (.int .i64 aX_H) ∧ w'.cell? ⟨w11.heap.size, 2, none⟩ = some (.slice u5_a u5_n u5_c) ∧ w'.cell? ⟨w.heap.size, 0, none⟩ = some (.int .i64 aX_W) ∧ w'.cell? ⟨w.heap.size, 1, none⟩ = some (.int .i64 aX_H) ∧ w'.cell? ⟨w.heap.size, 2, none⟩ = some (.slice aX_Cells_a aX_Cells_L.length aX_Cells_cap)) (by kernel_rfl) ⟨cB6_0, cB6_1, cB6_2, cP0_0, cP0_1, cP0_2⟩ (fun hHeld => ?_)
  refine wpAnyH_take (i := 0) (v := ?_) rfl (by kernel_rfl) (by kernel_rfl) (by kernel_rfl) (fun _ _ _ h => h) (Or.inl ⟨by rfl, ?_⟩) (by assumption) ?_; rotate_left; (focus (intro wS hSw; (try dsimp only at hSw); go_simp <;> with_reducible rfl)); (try simp only [Act.put, List.getElem_toArray, List.getElem_cons_succ, List.getElem_cons_zero, List.setIfInBounds_toArray, List.set_cons_zero, List.set_cons_succ])
  refine wpAnyH_take (i := 1) (v := ?_) rfl (by kernel_rfl) (by kernel_rfl) (by kernel_rfl) (fun _ _ _ h => h) (Or.inl ⟨by rfl, ?_⟩) (by assumption) ?_; rotate_left; (focus (intro wS hSw; (try dsimp only at hSw); go_simp <;> with_reducible rfl)); (try simp only [Act.put, List.getElem_toArray, List.getElem_cons_succ, List.getElem_cons_zero, List.setIfInBounds_toArray, List.set_cons_zero, List.set_cons_succ])
  refine wpAnyH_ready (rs := [2]) (by kernel_rfl) (by simp) ?_; refine AllReadyH.cons rfl (fun K hK => ?_) AllReadyH.nil; go_simp; (go_at_call 13; refine (LandL.toLand_any (World.drew w18) aX_W aX_H _ _ (aX_Cells_S.out.below HB21.out) (by omega)).mono ?_; rintro e w20 ⟨u11, rfl, ho, hg⟩; have A_u11_u5 := Lib.hid (Rg.apart_lt ho.lt Ou5.out.lt (Nat.le_refl _)); have A_u11_u7 := Lib.hid (Rg.apart_lt ho.lt Ou7.out.lt (Nat.le_refl _)); have A_u11_u8 := Lib.hid (Rg.apart_lt ho.lt Ou8.out.lt (Nat.le_refl _)); have A_u11_u9 := Lib.hid (Rg.apart_lt ho.lt Ou9.out.lt (Nat.le_refl _)); have D_u11_P0 := Lib.hid (ho.off XP0.out.lt); have D_u11_P1 := Lib.hid (ho.off XP1.out.lt); have D_u11_P2 := Lib.hid (ho.off XP2.out.lt); have D_u11_B6 := Lib.hid (ho.off XB6.out.lt); have D_u11_B10 := Lib.hid (ho.off XB10.out.lt); have Ou11 := Lib.hid (ho.lower HB21.out.size); have HB22 := Lib.hid (HB21.out.grown hg HB21.out.size (fun _ h => by cases h)); clear HB21; have Ou5 := Lib.hid (Ou5.out.grown hg); have Ou7 := Lib.hid (Ou7.out.grown hg); have Ou8 := Lib.hid (Ou8.out.grown hg); have Ou9 := Lib.hid (Ou9.out.grown hg); have XP0 := Lib.hid (XP0.out.grown hg); have XP1 := Lib.hid (XP1.out.grown hg); have XP2 := Lib.hid (XP2.out.grown hg); have XB6 := Lib.hid (XB6.out.grown hg); have XB10 := Lib.hid (XB10.out.grown hg); clear ho hg)
  refine hK.out _ _ ?_ (fun hHeld => ?_)
  · exact ⟨XB6.out.cell 0, XB6.out.cell 1, XB6.out.cell 2, XP0.out.cell 0, XP0.out.cell 1, XP0.out.cell 2⟩
  clear hK K
  (try simp only [Act.put, List.getElem_toArray, List.getElem_cons_succ, List.getElem_cons_zero, List.setIfInBounds_toArray, List.set_cons_zero, List.set_cons_succ])
  refine wpAnyH_ready (rs := [3]) (by kernel_rfl) (by simp) ?_; refine AllReadyH.cons rfl (fun K hK => ?_) AllReadyH.nil; go_simp; (go_at_call 17; refine (LandL.eqLand_same w20 aX_W aX_H _ _ _ (Ou5.out.sees) (Ou11.out.sees)).mono ?_; rintro e w21 ⟨rfl, hg⟩; have HB23 := Lib.hid (HB22.out.grown hg HB22.out.size (fun _ h => by cases h)); clear HB22; have Ou5 := Lib.hid (Ou5.out.grown hg); have Ou7 := Lib.hid (Ou7.out.grown hg); have Ou8 := Lib.hid (Ou8.out.grown hg); have Ou9 := Lib.hid (Ou9.out.grown hg); have Ou11 := Lib.hid (Ou11.out.grown hg); have XP0 := Lib.hid (XP0.out.grown hg); have XP1 := Lib.hid (XP1.out.grown hg); have XP2 := Lib.hid (XP2.out.grown hg); have XB6 := Lib.hid (XB6.out.grown hg); have XB10 := Lib.hid (XB10.out.grown hg); clear hg)
  refine hK.out _ _ ?_ (fun hHeld => ?_)
  · exact ⟨XB6.out.cell 0, XB6.out.cell 1, XB6.out.cell 2, XP0.out.cell 0, XP0.out.cell 1, XP0.out.cell 2⟩
  clear hK K
  (try simp only [Act.put, List.getElem_toArray, List.getElem_cons_succ, List.getElem_cons_zero, List.setIfInBounds_toArray, List.set_cons_zero, List.set_cons_succ])
  refine wpAnyH_take (i := 4) (v := ?_) rfl (by kernel_rfl) (by kernel_rfl) (by kernel_rfl) (fun _ _ _ h => h) (Or.inl ⟨by rfl, ?_⟩) (by assumption) ?_; rotate_left; (focus (intro wS hSw; (try dsimp only at hSw); go_simp <;> with_reducible rfl)); (try simp only [Act.put, List.getElem_toArray, List.getElem_cons_succ, List.getElem_cons_zero, List.setIfInBounds_toArray, List.set_cons_zero, List.set_cons_succ])
  refine wpAnyH_done (by kernel_rfl) ?_ _
  (try simp only [Act.put, List.getElem_toArray, List.getElem_cons_succ, List.getElem_cons_zero, List.setIfInBounds_toArray, List.set_cons_zero, List.set_cons_succ])
  clear Ou11
  clear Ou5
  try clear cP0_0
  have cP0_0 : World.cell? (w21) ⟨w.heap.size, 0, none⟩ = some (.int .i64 aX_W) := XP0.out.cell 0
  try clear cP0_1
  have cP0_1 : World.cell? (w21) ⟨w.heap.size, 1, none⟩ = some (.int .i64 aX_H) := XP0.out.cell 1
  try clear cP0_2
  have cP0_2 : World.cell? (w21) ⟨w.heap.size, 2, none⟩ = some (.slice aX_Cells_a aX_Cells_L.length aX_Cells_cap) := XP0.out.cell 2
  try clear cP1_0
  have cP1_0 : World.cell? (w21) ⟨w.heap.size + 1, 0, none⟩ = some (.int .i64 aR_Most) := XP1.out.cell 0
  try clear cP1_1
  have cP1_1 : World.cell? (w21) ⟨w.heap.size + 1, 1, none⟩ = some (.int .i64 aR_Window) := XP1.out.cell 1
  try clear cP2_0
  have cP2_0 : World.cell? (w21) ⟨w.heap.size + 1 + 1, 0, none⟩ = some (.int .i64 aP_At) := XP2.out.cell 0
  try clear cP2_1
  have cP2_1 : World.cell? (w21) ⟨w.heap.size + 1 + 1, 1, none⟩ = some (.int .i64 aP_Food) := XP2.out.cell 1
  try clear cP2_2
  have cP2_2 : World.cell? (w21) ⟨w.heap.size + 1 + 1, 2, none⟩ = some (.slice aP_Crew_a aP_Crew_L.length aP_Crew_cap) := XP2.out.cell 2
  try clear cP2_3
  have cP2_3 : World.cell? (w21) ⟨w.heap.size + 1 + 1, 3, none⟩ = some (.slice aP_Past_a aP_Past_L.length aP_Past_cap) := XP2.out.cell 3
  try clear cB6_0
  have cB6_0 : World.cell? (w21) ⟨w11.heap.size, 0, none⟩ = some (.int .i64 aX_W) := XB6.out.cell 0
  try clear cB6_1
  have cB6_1 : World.cell? (w21) ⟨w11.heap.size, 1, none⟩ = some (.int .i64 aX_H) := XB6.out.cell 1
  try clear cB6_2
  have cB6_2 : World.cell? (w21) ⟨w11.heap.size, 2, none⟩ = some (.slice u5_a u5_n u5_c) := XB6.out.cell 2
  try clear cB10_0
  have cB10_0 : World.cell? (w21) ⟨w14.heap.size, 0, none⟩ = some (.int .i64 aP_At) := XB10.out.cell 0
  try clear cB10_1
  have cB10_1 : World.cell? (w21) ⟨w14.heap.size, 1, none⟩ = some (.int .i64 aP_Food) := XB10.out.cell 1
  try clear cB10_2
  have cB10_2 : World.cell? (w21) ⟨w14.heap.size, 2, none⟩ = some (.slice u8_a u8_n u8_c) := XB10.out.cell 2
  try clear cB10_3
  have cB10_3 : World.cell? (w21) ⟨w14.heap.size, 3, none⟩ = some (.slice u9_a u9_n u9_c) := XB10.out.cell 3
  go_wp2_with fail
  refine (LawsG.to_any w21 (.slice aL_a aL_L.length aL_cap) aL_L (aL_S.out.below HB23.out) (by (try simp only [LawsBo.marksB_len, LawsG.marksG_len, LawsI.marksI_len, LawsM.marksM_len]); omega)).mono ?_
  rintro e w22 ⟨u12, rfl, ho, hg⟩
  have A_u12_u7 := Lib.hid (Rg.apart_lt ho.lt Ou7.out.lt (Nat.le_refl _))
  have A_u12_u8 := Lib.hid (Rg.apart_lt ho.lt Ou8.out.lt (Nat.le_refl _))
  have A_u12_u9 := Lib.hid (Rg.apart_lt ho.lt Ou9.out.lt (Nat.le_refl _))
  have D_u12_P0 := Lib.hid (ho.off XP0.out.lt)
  have D_u12_P1 := Lib.hid (ho.off XP1.out.lt)
  have D_u12_P2 := Lib.hid (ho.off XP2.out.lt)
  have D_u12_B6 := Lib.hid (ho.off XB6.out.lt)
  have D_u12_B10 := Lib.hid (ho.off XB10.out.lt)
  have Ou12 := Lib.hid (ho.lower HB23.out.size)
  have HB24 := Lib.hid (HB23.out.grown hg HB23.out.size (fun _ h => by cases h)); clear HB23
  have Ou7 := Lib.hid (Ou7.out.grown hg)
  have Ou8 := Lib.hid (Ou8.out.grown hg)
  have Ou9 := Lib.hid (Ou9.out.grown hg)
  have XP0 := Lib.hid (XP0.out.grown hg)
  have XP1 := Lib.hid (XP1.out.grown hg)
  have XP2 := Lib.hid (XP2.out.grown hg)
  have XB6 := Lib.hid (XB6.out.grown hg)
  have XB10 := Lib.hid (XB10.out.grown hg)
  clear ho hg
  try clear cP0_0
  have cP0_0 : World.cell? (w22) ⟨w.heap.size, 0, none⟩ = some (.int .i64 aX_W) := XP0.out.cell 0
  try clear cP0_1
  have cP0_1 : World.cell? (w22) ⟨w.heap.size, 1, none⟩ = some (.int .i64 aX_H) := XP0.out.cell 1
  try clear cP0_2
  have cP0_2 : World.cell? (w22) ⟨w.heap.size, 2, none⟩ = some (.slice aX_Cells_a aX_Cells_L.length aX_Cells_cap) := XP0.out.cell 2
  try clear cP1_0
  have cP1_0 : World.cell? (w22) ⟨w.heap.size + 1, 0, none⟩ = some (.int .i64 aR_Most) := XP1.out.cell 0
  try clear cP1_1
  have cP1_1 : World.cell? (w22) ⟨w.heap.size + 1, 1, none⟩ = some (.int .i64 aR_Window) := XP1.out.cell 1
  try clear cP2_0
  have cP2_0 : World.cell? (w22) ⟨w.heap.size + 1 + 1, 0, none⟩ = some (.int .i64 aP_At) := XP2.out.cell 0
  try clear cP2_1
  have cP2_1 : World.cell? (w22) ⟨w.heap.size + 1 + 1, 1, none⟩ = some (.int .i64 aP_Food) := XP2.out.cell 1
  try clear cP2_2
  have cP2_2 : World.cell? (w22) ⟨w.heap.size + 1 + 1, 2, none⟩ = some (.slice aP_Crew_a aP_Crew_L.length aP_Crew_cap) := XP2.out.cell 2
  try clear cP2_3
  have cP2_3 : World.cell? (w22) ⟨w.heap.size + 1 + 1, 3, none⟩ = some (.slice aP_Past_a aP_Past_L.length aP_Past_cap) := XP2.out.cell 3
  try clear cB6_0
  have cB6_0 : World.cell? (w22) ⟨w11.heap.size, 0, none⟩ = some (.int .i64 aX_W) := XB6.out.cell 0
  try clear cB6_1
  have cB6_1 : World.cell? (w22) ⟨w11.heap.size, 1, none⟩ = some (.int .i64 aX_H) := XB6.out.cell 1
  try clear cB6_2
  have cB6_2 : World.cell? (w22) ⟨w11.heap.size, 2, none⟩ = some (.slice u5_a u5_n u5_c) := XB6.out.cell 2
  try clear cB10_0
  have cB10_0 : World.cell? (w22) ⟨w14.heap.size, 0, none⟩ = some (.int .i64 aP_At) := XB10.out.cell 0
  try clear cB10_1
  have cB10_1 : World.cell? (w22) ⟨w14.heap.size, 1, none⟩ = some (.int .i64 aP_Food) := XB10.out.cell 1
  try clear cB10_2
  have cB10_2 : World.cell? (w22) ⟨w14.heap.size, 2, none⟩ = some (.slice u8_a u8_n u8_c) := XB10.out.cell 2
  try clear cB10_3
  have cB10_3 : World.cell? (w22) ⟨w14.heap.size, 3, none⟩ = some (.slice u9_a u9_n u9_c) := XB10.out.cell 3
  go_wp2_with fail
  refine (LawsG.eq_same w22 (u7) (u12) aL_L (Ou7.out.sees) (Ou12.out.sees)).mono ?_
  rintro e w23 ⟨rfl, hg⟩
  have HB25 := Lib.hid (HB24.out.grown hg HB24.out.size (fun _ h => by cases h)); clear HB24
  have Ou7 := Lib.hid (Ou7.out.grown hg)
  have Ou8 := Lib.hid (Ou8.out.grown hg)
  have Ou9 := Lib.hid (Ou9.out.grown hg)
  have Ou12 := Lib.hid (Ou12.out.grown hg)
  have XP0 := Lib.hid (XP0.out.grown hg)
  have XP1 := Lib.hid (XP1.out.grown hg)
  have XP2 := Lib.hid (XP2.out.grown hg)
  have XB6 := Lib.hid (XB6.out.grown hg)
  have XB10 := Lib.hid (XB10.out.grown hg)
  clear hg
  clear Ou12
  clear Ou7
  try clear cP0_0
  have cP0_0 : World.cell? (w23) ⟨w.heap.size, 0, none⟩ = some (.int .i64 aX_W) := XP0.out.cell 0
  try clear cP0_1
  have cP0_1 : World.cell? (w23) ⟨w.heap.size, 1, none⟩ = some (.int .i64 aX_H) := XP0.out.cell 1
  try clear cP0_2
  have cP0_2 : World.cell? (w23) ⟨w.heap.size, 2, none⟩ = some (.slice aX_Cells_a aX_Cells_L.length aX_Cells_cap) := XP0.out.cell 2
  try clear cP1_0
  have cP1_0 : World.cell? (w23) ⟨w.heap.size + 1, 0, none⟩ = some (.int .i64 aR_Most) := XP1.out.cell 0
  try clear cP1_1
  have cP1_1 : World.cell? (w23) ⟨w.heap.size + 1, 1, none⟩ = some (.int .i64 aR_Window) := XP1.out.cell 1
  try clear cP2_0
  have cP2_0 : World.cell? (w23) ⟨w.heap.size + 1 + 1, 0, none⟩ = some (.int .i64 aP_At) := XP2.out.cell 0
  try clear cP2_1
  have cP2_1 : World.cell? (w23) ⟨w.heap.size + 1 + 1, 1, none⟩ = some (.int .i64 aP_Food) := XP2.out.cell 1
  try clear cP2_2
  have cP2_2 : World.cell? (w23) ⟨w.heap.size + 1 + 1, 2, none⟩ = some (.slice aP_Crew_a aP_Crew_L.length aP_Crew_cap) := XP2.out.cell 2
  try clear cP2_3
  have cP2_3 : World.cell? (w23) ⟨w.heap.size + 1 + 1, 3, none⟩ = some (.slice aP_Past_a aP_Past_L.length aP_Past_cap) := XP2.out.cell 3
  try clear cB6_0
  have cB6_0 : World.cell? (w23) ⟨w11.heap.size, 0, none⟩ = some (.int .i64 aX_W) := XB6.out.cell 0
  try clear cB6_1
  have cB6_1 : World.cell? (w23) ⟨w11.heap.size, 1, none⟩ = some (.int .i64 aX_H) := XB6.out.cell 1
  try clear cB6_2
  have cB6_2 : World.cell? (w23) ⟨w11.heap.size, 2, none⟩ = some (.slice u5_a u5_n u5_c) := XB6.out.cell 2
  try clear cB10_0
  have cB10_0 : World.cell? (w23) ⟨w14.heap.size, 0, none⟩ = some (.int .i64 aP_At) := XB10.out.cell 0
  try clear cB10_1
  have cB10_1 : World.cell? (w23) ⟨w14.heap.size, 1, none⟩ = some (.int .i64 aP_Food) := XB10.out.cell 1
  try clear cB10_2
  have cB10_2 : World.cell? (w23) ⟨w14.heap.size, 2, none⟩ = some (.slice u8_a u8_n u8_c) := XB10.out.cell 2
  try clear cB10_3
  have cB10_3 : World.cell? (w23) ⟨w14.heap.size, 3, none⟩ = some (.slice u9_a u9_n u9_c) := XB10.out.cell 3
  go_wp2_with fail
  have hgd := grown_drew (World.grownBy.refl w23 none)
  have HB26 := Lib.hid (HB25.out.grown hgd HB25.out.size (fun _ h => by cases h)); clear HB25
  have Ou8 := Lib.hid (Ou8.out.grown hgd)
  have Ou9 := Lib.hid (Ou9.out.grown hgd)
  have XP0 := Lib.hid (XP0.out.grown hgd)
  have XP1 := Lib.hid (XP1.out.grown hgd)
  have XP2 := Lib.hid (XP2.out.grown hgd)
  have XB6 := Lib.hid (XB6.out.grown hgd)
  have XB10 := Lib.hid (XB10.out.grown hgd)
  clear hgd
  try clear cB10_0
  have cB10_0 : World.cell? ((World.drew w23)) ⟨w14.heap.size, 0, none⟩ = some (.int .i64 aP_At) := XB10.out.cell 0
  try clear cB10_1
  have cB10_1 : World.cell? ((World.drew w23)) ⟨w14.heap.size, 1, none⟩ = some (.int .i64 aP_Food) := XB10.out.cell 1
  try clear cB10_2
  have cB10_2 : World.cell? ((World.drew w23)) ⟨w14.heap.size, 2, none⟩ = some (.slice u8_a u8_n u8_c) := XB10.out.cell 2
  try clear cB10_3
  have cB10_3 : World.cell? ((World.drew w23)) ⟨w14.heap.size, 3, none⟩ = some (.slice u9_a u9_n u9_c) := XB10.out.cell 3
  try clear cP2_0
  have cP2_0 : World.cell? ((World.drew w23)) ⟨w.heap.size + 1 + 1, 0, none⟩ = some (.int .i64 aP_At) := XP2.out.cell 0
  try clear cP2_1
  have cP2_1 : World.cell? ((World.drew w23)) ⟨w.heap.size + 1 + 1, 1, none⟩ = some (.int .i64 aP_Food) := XP2.out.cell 1
  try clear cP2_2
  have cP2_2 : World.cell? ((World.drew w23)) ⟨w.heap.size + 1 + 1, 2, none⟩ = some (.slice aP_Crew_a aP_Crew_L.length aP_Crew_cap) := XP2.out.cell 2
  try clear cP2_3
  have cP2_3 : World.cell? ((World.drew w23)) ⟨w.heap.size + 1 + 1, 3, none⟩ = some (.slice aP_Past_a aP_Past_L.length aP_Past_cap) := XP2.out.cell 3
  refine wp_region_held_drew (S := fun w' => w'.cell? ⟨w14.heap.size, 0, none⟩ = some (.int .i64 aP_At) ∧ w'.cell? ⟨w14.heap.size, 1, none⟩ = some (.int .i64 aP_Food) ∧ w'.cell? ⟨w14.heap.size, 2, none⟩ = some (.slice u8_a u8_n u8_c) ∧ w'.cell? ⟨w14.heap.size, 3, none⟩ = some (.slice u9_a u9_n u9_c) ∧ w'.cell? ⟨w.heap.size + 1 + 1, 0, none⟩ = some (.int .i64 aP_At) ∧ w'.cell? ⟨w.heap.size + 1 + 1, 1, none⟩ = some (.int .i64 aP_Food) ∧ w'.cell? ⟨w.heap.size + 1 + 1, 2, none⟩ = some (.slice aP_Crew_a aP_Crew_L.length aP_Crew_cap) ∧ w'.cell? ⟨w.heap.size + 1 + 1, 3, none⟩ = some (.slice aP_Past_a aP_Past_L.length aP_Past_cap)) (by kernel_rfl) ⟨cB10_0, cB10_1, cB10_2, cB10_3, cP2_0, cP2_1, cP2_2, cP2_3⟩ (fun hHeld => ?_)
  refine wpAnyH_take (i := 0) (v := ?_) rfl (by kernel_rfl) (by kernel_rfl) (by kernel_rfl) (fun _ _ _ h => h) (Or.inl ⟨by rfl, ?_⟩) (by assumption) ?_; rotate_left; (focus (intro wS hSw; (try dsimp only at hSw); go_simp <;> with_reducible rfl)); (try simp only [Act.put, List.getElem_toArray, List.getElem_cons_succ, List.getElem_cons_zero, List.setIfInBounds_toArray, List.set_cons_zero, List.set_cons_succ])
  refine wpAnyH_take (i := 1) (v := ?_) rfl (by kernel_rfl) (by kernel_rfl) (by kernel_rfl) (fun _ _ _ h => h) (Or.inl ⟨by rfl, ?_⟩) (by assumption) ?_; rotate_left; (focus (intro wS hSw; (try dsimp only at hSw); go_simp <;> with_reducible rfl)); (try simp only [Act.put, List.getElem_toArray, List.getElem_cons_succ, List.getElem_cons_zero, List.setIfInBounds_toArray, List.set_cons_zero, List.set_cons_succ])
  refine wpAnyH_ready (rs := [2]) (by kernel_rfl) (by simp) ?_; refine AllReadyH.cons rfl (fun K hK => ?_) AllReadyH.nil; go_simp; (go_at_call 28; refine (PartyL.toParty_any (World.drew w23) aP_At aP_Food _ _ _ _ (aP_Crew_S.out.below HB26.out) (aP_Past_S.out.below HB26.out) (by omega) (by omega)).mono ?_; rintro e w25 ⟨u13, u14, rfl, ho1, ho2, hap, hg⟩; have A_u13_u8 := Lib.hid (Rg.apart_lt ho1.lt Ou8.out.lt (Nat.le_refl _)); have A_u13_u9 := Lib.hid (Rg.apart_lt ho1.lt Ou9.out.lt (Nat.le_refl _)); have D_u13_P0 := Lib.hid (ho1.off XP0.out.lt); have D_u13_P1 := Lib.hid (ho1.off XP1.out.lt); have D_u13_P2 := Lib.hid (ho1.off XP2.out.lt); have D_u13_B6 := Lib.hid (ho1.off XB6.out.lt); have D_u13_B10 := Lib.hid (ho1.off XB10.out.lt); have Ou13 := Lib.hid (ho1.lower HB26.out.size); have A_u14_u8 := Lib.hid (Rg.apart_lt ho2.lt Ou8.out.lt (Nat.le_refl _)); have A_u14_u9 := Lib.hid (Rg.apart_lt ho2.lt Ou9.out.lt (Nat.le_refl _)); have D_u14_P0 := Lib.hid (ho2.off XP0.out.lt); have D_u14_P1 := Lib.hid (ho2.off XP1.out.lt); have D_u14_P2 := Lib.hid (ho2.off XP2.out.lt); have D_u14_B6 := Lib.hid (ho2.off XB6.out.lt); have D_u14_B10 := Lib.hid (ho2.off XB10.out.lt); have Ou14 := Lib.hid (ho2.lower HB26.out.size); have A_u14_u13 := Lib.hid hap; have HB27 := Lib.hid (HB26.out.grown hg HB26.out.size (fun _ h => by cases h)); clear HB26; have Ou8 := Lib.hid (Ou8.out.grown hg); have Ou9 := Lib.hid (Ou9.out.grown hg); have XP0 := Lib.hid (XP0.out.grown hg); have XP1 := Lib.hid (XP1.out.grown hg); have XP2 := Lib.hid (XP2.out.grown hg); have XB6 := Lib.hid (XB6.out.grown hg); have XB10 := Lib.hid (XB10.out.grown hg); clear ho1 ho2 hap hg)
  refine hK.out _ _ ?_ (fun hHeld => ?_)
  · exact ⟨XB10.out.cell 0, XB10.out.cell 1, XB10.out.cell 2, XB10.out.cell 3, XP2.out.cell 0, XP2.out.cell 1, XP2.out.cell 2, XP2.out.cell 3⟩
  clear hK K
  (try simp only [Act.put, List.getElem_toArray, List.getElem_cons_succ, List.getElem_cons_zero, List.setIfInBounds_toArray, List.set_cons_zero, List.set_cons_succ])
  refine wpAnyH_ready (rs := [3]) (by kernel_rfl) (by simp) ?_; refine AllReadyH.cons rfl (fun K hK => ?_) AllReadyH.nil; go_simp; (go_at_call 30; refine (PartyL.eqParty_same w25 aP_At aP_Food _ _ _ _ _ _ (Ou8.out.sees) (Ou9.out.sees) (Ou13.out.sees) (Ou14.out.sees)).mono ?_; rintro e w26 ⟨rfl, hg⟩; have HB28 := Lib.hid (HB27.out.grown hg HB27.out.size (fun _ h => by cases h)); clear HB27; have Ou8 := Lib.hid (Ou8.out.grown hg); have Ou9 := Lib.hid (Ou9.out.grown hg); have Ou13 := Lib.hid (Ou13.out.grown hg); have Ou14 := Lib.hid (Ou14.out.grown hg); have XP0 := Lib.hid (XP0.out.grown hg); have XP1 := Lib.hid (XP1.out.grown hg); have XP2 := Lib.hid (XP2.out.grown hg); have XB6 := Lib.hid (XB6.out.grown hg); have XB10 := Lib.hid (XB10.out.grown hg); clear hg)
  refine hK.out _ _ ?_ (fun hHeld => ?_)
  · exact ⟨XB10.out.cell 0, XB10.out.cell 1, XB10.out.cell 2, XB10.out.cell 3, XP2.out.cell 0, XP2.out.cell 1, XP2.out.cell 2, XP2.out.cell 3⟩
  clear hK K
  (try simp only [Act.put, List.getElem_toArray, List.getElem_cons_succ, List.getElem_cons_zero, List.setIfInBounds_toArray, List.set_cons_zero, List.set_cons_succ])
  refine wpAnyH_take (i := 4) (v := ?_) rfl (by kernel_rfl) (by kernel_rfl) (by kernel_rfl) (fun _ _ _ h => h) (Or.inl ⟨by rfl, ?_⟩) (by assumption) ?_; rotate_left; (focus (intro wS hSw; (try dsimp only at hSw); go_simp <;> with_reducible rfl)); (try simp only [Act.put, List.getElem_toArray, List.getElem_cons_succ, List.getElem_cons_zero, List.setIfInBounds_toArray, List.set_cons_zero, List.set_cons_succ])
  refine wpAnyH_done (by kernel_rfl) ?_ _
  (try simp only [Act.put, List.getElem_toArray, List.getElem_cons_succ, List.getElem_cons_zero, List.setIfInBounds_toArray, List.set_cons_zero, List.set_cons_succ])
  clear Ou13
  clear Ou14
  clear Ou8
  clear Ou9
  try clear cP0_0
  have cP0_0 : World.cell? (w26) ⟨w.heap.size, 0, none⟩ = some (.int .i64 aX_W) := XP0.out.cell 0
  try clear cP0_1
  have cP0_1 : World.cell? (w26) ⟨w.heap.size, 1, none⟩ = some (.int .i64 aX_H) := XP0.out.cell 1
  try clear cP0_2
  have cP0_2 : World.cell? (w26) ⟨w.heap.size, 2, none⟩ = some (.slice aX_Cells_a aX_Cells_L.length aX_Cells_cap) := XP0.out.cell 2
  try clear cP1_0
  have cP1_0 : World.cell? (w26) ⟨w.heap.size + 1, 0, none⟩ = some (.int .i64 aR_Most) := XP1.out.cell 0
  try clear cP1_1
  have cP1_1 : World.cell? (w26) ⟨w.heap.size + 1, 1, none⟩ = some (.int .i64 aR_Window) := XP1.out.cell 1
  try clear cP2_0
  have cP2_0 : World.cell? (w26) ⟨w.heap.size + 1 + 1, 0, none⟩ = some (.int .i64 aP_At) := XP2.out.cell 0
  try clear cP2_1
  have cP2_1 : World.cell? (w26) ⟨w.heap.size + 1 + 1, 1, none⟩ = some (.int .i64 aP_Food) := XP2.out.cell 1
  try clear cP2_2
  have cP2_2 : World.cell? (w26) ⟨w.heap.size + 1 + 1, 2, none⟩ = some (.slice aP_Crew_a aP_Crew_L.length aP_Crew_cap) := XP2.out.cell 2
  try clear cP2_3
  have cP2_3 : World.cell? (w26) ⟨w.heap.size + 1 + 1, 3, none⟩ = some (.slice aP_Past_a aP_Past_L.length aP_Past_cap) := XP2.out.cell 3
  try clear cB6_0
  have cB6_0 : World.cell? (w26) ⟨w11.heap.size, 0, none⟩ = some (.int .i64 aX_W) := XB6.out.cell 0
  try clear cB6_1
  have cB6_1 : World.cell? (w26) ⟨w11.heap.size, 1, none⟩ = some (.int .i64 aX_H) := XB6.out.cell 1
  try clear cB6_2
  have cB6_2 : World.cell? (w26) ⟨w11.heap.size, 2, none⟩ = some (.slice u5_a u5_n u5_c) := XB6.out.cell 2
  try clear cB10_0
  have cB10_0 : World.cell? (w26) ⟨w14.heap.size, 0, none⟩ = some (.int .i64 aP_At) := XB10.out.cell 0
  try clear cB10_1
  have cB10_1 : World.cell? (w26) ⟨w14.heap.size, 1, none⟩ = some (.int .i64 aP_Food) := XB10.out.cell 1
  try clear cB10_2
  have cB10_2 : World.cell? (w26) ⟨w14.heap.size, 2, none⟩ = some (.slice u8_a u8_n u8_c) := XB10.out.cell 2
  try clear cB10_3
  have cB10_3 : World.cell? (w26) ⟨w14.heap.size, 3, none⟩ = some (.slice u9_a u9_n u9_c) := XB10.out.cell 3
  go_wp2
  go_ret
  exact ⟨rfl, HB28.out⟩

set_option maxRecDepth 100000 in
/-- What the walk gives, for every argument. -/
theorem contract (H : Type) (enc : TypeId × Value → H) (W : World) (base : Nat) (args : Array Value) (ds gs : List (DataW H)) (before : List MemPlace)
    (hval : ∀ (j : Nat) t v, Try.f5.params[j]? = some t → args[j]? = some v → Value.okWide Try.prog W .any base t v)
    (hW : DataW.Whole enc Try.prog Try.f5.params.toList Rows.fnExactPlanFoodSpec.vars false W args.toList ds gs before) :
    Calls Try.prog 5 args W fun e W' => ∃ v, e = .returned v ∧ Rows.fnExactPlanFoodSpec.post enc Try.prog Try.f5 false true false false W args v W' := by
  have hW' := hW
  obtain ⟨p, q, hA0, hV, rfl, hfz, hnd⟩ := hW
  have hA : DataW.TrodAll enc Try.prog W 0 (fun _ => true) true Try.f5.params.toList args.toList ds p := hA0
  rw [Try.params5] at hA hval
  obtain ⟨v0, vs0, d0, ds0, p0, q0, hargs, rfl, rfl, h0, r0⟩ := trodAll_cons hA
  obtain ⟨v1, vs1, d1, ds1, p1, q1, rfl, rfl, rfl, h1, r1⟩ := trodAll_cons r0
  obtain ⟨v2, vs2, d2, ds2, p2, q2, rfl, rfl, rfl, h2, r2⟩ := trodAll_cons r1
  obtain ⟨v3, vs3, d3, ds3, p3, q3, rfl, rfl, rfl, h3, r3⟩ := trodAll_cons r2
  obtain ⟨v4, vs4, d4, ds4, p4, q4, rfl, rfl, rfl, h4, r4⟩ := trodAll_cons r3
  obtain ⟨rfl, rfl, rfl⟩ := trodAll_nil r4
  obtain rfl : args = #[v0, v1, v2, v3, v4] := by cases args; simp_all
  obtain ⟨rfl, rfl⟩ := trodVars_none hV
  have k0 := h0
  have lt0 : ∀ x ∈ p0, x.block < W.heap.size := by obtain ⟨m, hm⟩ := k0; exact DataW.trod_lt m _ _ _ hm
  obtain ⟨f0_0, f0_1, f0_2, y0_0, y0_1, y0_2, fn0, rfl, rfl, rfl, g0_0, g0_1, g0_2⟩ := Go.Joins.open_agg3 Try.underlying24 (by kernel_rfl) (by kernel_rfl) (hval 0 24 v0 rfl rfl) h0
  obtain ⟨x0_0, rfl, w0_0⟩ := Kit.field_int Try.underlying3 g0_0
  obtain ⟨x0_1, rfl, w0_1⟩ := Kit.field_int Try.underlying3 g0_1
  obtain ⟨a0_2, l0_2, c0_2, z0_2, rfl, w0_2⟩ := Kit.field_row Try.underlying22 Try.underlying3 (by kernel_rfl) g0_2
  obtain ⟨a1, rfl, rfl, rfl, w1⟩ := open_int Try.underlying3 (hval 1 3 v1 rfl rfl) h1
  obtain ⟨a2, len2, cap2, rfl⟩ := okWide_slice Try.underlying25 (hval 2 25 v2 rfl rfl)
  have k2 := h2
  have lt2 : ∀ x ∈ p2, x.block < W.heap.size := by obtain ⟨m, hm⟩ := k2; exact DataW.trod_lt m _ _ _ hm
  obtain ⟨z2, w2⟩ := Rg.row_openG (e := Rg.encP) Try.underlying25 (by kernel_rfl) (Rg.encP_open Try.underlying75 (by kernel_rfl) Try.underlying3 Try.underlying3) h2
  have k3 := h3
  have lt3 : ∀ x ∈ p3, x.block < W.heap.size := by obtain ⟨m, hm⟩ := k3; exact DataW.trod_lt m _ _ _ hm
  obtain ⟨f3_0, f3_1, y3_0, y3_1, fn3, rfl, rfl, rfl, g3_0, g3_1⟩ := Go.Joins.open_agg2 Try.underlying42 (by kernel_rfl) (by kernel_rfl) (hval 3 42 v3 rfl rfl) h3
  obtain ⟨x3_0, rfl, w3_0⟩ := Kit.field_int Try.underlying3 g3_0
  obtain ⟨x3_1, rfl, w3_1⟩ := Kit.field_int Try.underlying3 g3_1
  have k4 := h4
  have lt4 : ∀ x ∈ p4, x.block < W.heap.size := by obtain ⟨m, hm⟩ := k4; exact DataW.trod_lt m _ _ _ hm
  obtain ⟨f4_0, f4_1, f4_2, f4_3, y4_0, y4_1, y4_2, y4_3, fn4, rfl, rfl, rfl, g4_0, g4_1, g4_2, g4_3⟩ := Go.Joins.open_agg4 Try.underlying46 (by kernel_rfl) (by kernel_rfl) (hval 4 46 v4 rfl rfl) h4
  obtain ⟨x4_0, rfl, w4_0⟩ := Kit.field_int Try.underlying3 g4_0
  obtain ⟨x4_1, rfl, w4_1⟩ := Kit.field_int Try.underlying3 g4_1
  obtain ⟨a4_2, l4_2, c4_2, z4_2, rfl, w4_2⟩ := Rg.field_rowG (e := Rg.encM) Try.underlying43 (by kernel_rfl) (Rg.encM_open Try.underlying115 (by kernel_rfl) Try.underlying3 Try.underlying3 Try.underlying3 Try.underlying4) g4_2
  obtain ⟨a4_3, l4_3, c4_3, z4_3, rfl, w4_3⟩ := Rg.field_rowG (e := Rg.encB) Try.underlying44 (by kernel_rfl) (Rg.encB_open Try.underlying4) g4_3
  clear hA0
  refine (walk W x0_0 w0_0 x0_1 w0_1 a0_2 l0_2 c0_2 z0_2 w0_2 a1 w1 a2 len2 cap2 z2 w2 x3_0 w3_0 x3_1 w3_1 x4_0 w4_0 x4_1 w4_1 a4_2 l4_2 c4_2 z4_2 w4_2 a4_3 l4_3 c4_3 z4_3 w4_3).mono fun e W' ⟨he, bel⟩ => ?_
  subst he
  exact ⟨_, rfl, _, _, _, [], _, [], hW', trodAll_mk1 (shut_bool Try.underlying4 _), (trodAll_cons_mk (Below.trod laidOut (by kernel_rfl) (of_decide_eq_true (by kernel_rfl)) k0 bel lt0) (trodAll_cons_mk (shut_int Try.underlying3 w1) (trodAll_cons_mk (Below.trod laidOut (by kernel_rfl) (of_decide_eq_true (by kernel_rfl)) k2 bel lt2) (trodAll_cons_mk (Below.trod laidOut (by kernel_rfl) (of_decide_eq_true (by kernel_rfl)) k3 bel lt3) (trodAll_cons_mk (Below.trod laidOut (by kernel_rfl) (of_decide_eq_true (by kernel_rfl)) k4 bel lt4) trodAll_mk0))))), rfl, bel.frame _, fun h => by cases h⟩

noncomputable def laidWorld (os : Os) : World := World.holding Try.prog os ⟨#[], #[], []⟩
theorem reads (os : Os) {H : Type} (enc : TypeId × Value → H) : ∃ places, DataW.whole enc Try.prog ((laidWorld os).forCall (fun _ _ => 0) ⟨#[], #[.agg #[.int .i64 0, .int .i64 0, .slice none 0 0], .int .i64 0, .slice none 0 0, .agg #[.int .i64 0, .int .i64 0], .agg #[.int .i64 0, .int .i64 0, .slice none 0 0, .slice none 0 0]], []⟩).memory Try.f5.params.toList Rows.fnExactPlanFoodSpec.vars false (#[.agg #[.int .i64 0, .int .i64 0, .slice none 0 0], .int .i64 0, .slice none 0 0, .agg #[.int .i64 0, .int .i64 0], .agg #[.int .i64 0, .int .i64 0, .slice none 0 0, .slice none 0 0]] : Array Value).toList 8 = some ([.agg [.lit (.int .i64 0), .lit (.int .i64 0), .nil], .lit (.int .i64 0), .nil, .agg [.lit (.int .i64 0), .lit (.int .i64 0)], .agg [.lit (.int .i64 0), .lit (.int .i64 0), .nil, .nil]], [], places) :=
  ⟨[], by kernel_rfl⟩

set_option maxRecDepth 100000 in
theorem lifted (os : Os) (started : os.Started) (H : Type) (enc : TypeId × Value → H) (F : Stop.Interp) :
    ReturnsInHanded {} Try.checked os 5 .any ((OpenSpec.ofChange Rows.fnExactPlanFoodSpec).preRow enc Try.prog Try.f5 Rows.fnExactPlanFoodRow.domain false Rows.fnExactPlanFoodRow.laid) (((OpenSpec.ofChange Rows.fnExactPlanFoodSpec).at F).post enc Try.prog Try.f5 false true false false) := by
  obtain ⟨places, hx⟩ := reads os enc
  refine returnsInHanded_of_row (C := Try.checked) (s := (OpenSpec.ofChange Rows.fnExactPlanFoodSpec)) own started (by kernel_rfl) Try.func5
    (witness_row_at (enc := enc) (C := Try.checked) false (laidWorld os) #[.agg #[.int .i64 0, .int .i64 0, .slice none 0 0], .int .i64 0, .slice none 0 0, .agg #[.int .i64 0, .int .i64 0], .agg #[.int .i64 0, .int .i64 0, .slice none 0 0, .slice none 0 0]] rfl (by kernel_rfl) (by kernel_rfl) (by kernel_rfl)
      (OpenSpec.preRow_of_cond 8 hx (by kernel_rfl) (fun k hk => by cases hk) (by kernel_rfl) (laidMetH_nil _ _))) ?_
  intro W base args ds gs before hval hW _ _ _ _ _ _
  exact contract H enc W base args ds gs before hval hW

set_option maxRecDepth 100000 in
theorem said : Rows.FnExactPlanFoodSaid :=
  OpenClaim.holds_of_cond 5 Try.f5 rfl rfl rfl rfl rfl rfl rfl ⟨rfl, rfl, rfl, rfl, rfl⟩ rfl rfl rfl rfl rfl (by kernel_rfl) Try.func5 (by kernel_rfl)
    (of_decide_eq_true (by kernel_rfl)) (by unfold Func.isWrapper; first | (rw [if_pos (by decide +kernel)]; kernel_rfl) | (rw [if_neg (by decide +kernel)]; exact ⟨rfl, rfl⟩))
    (fun os started H enc _ F => by rw [OpenClaim.pre_eq_preRow]; exact lifted os started H enc F)

theorem proved : Rows.FnExactPlanFoodSaid := said
#print axioms proved
end Go.Proofs.Ytbpiojnehomljaa.fnExactPlanFood

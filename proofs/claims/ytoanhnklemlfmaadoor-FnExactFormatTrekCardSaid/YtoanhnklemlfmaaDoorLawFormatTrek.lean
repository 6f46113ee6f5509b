/- The law FnExactFormatTrek: the program's FormatTrek answers as its model, for every argument; it writes into no argument, and its answer owns its memory. No condition. -/
import Derived.Deep.RegionHeld3
import Derived.Test.YtoanhnklemlfmaaDoorCards
import Derived.Test.YtoanhnklemlfmaaDoorTie
import Derived.Test.YtoanhnklemlfmaaDoorG2
import Derived.Test.YtoanhnklemlfmaaDoorG6
import Derived.Test.YtoanhnklemlfmaaDoorTrekM
import Derived.Test.YtoanhnklemlfmaaDoorTrekN
import Derived.Test.YtoanhnklemlfmaaDoorFtk
import Derived.WalkKit
import Derived.ProofKit
import Derived.OpenShut
import Derived.ShutString
import Derived.ChangeOld
import Derived.Below
import Derived.Deep.DeepHandedRow
import Derived.Deep.DeepWitnessRowRef
import Derived.Lib.LaidTab
import Derived.Stop.LaidErr
import Derived.SevenTiedAt
import Derived.RowKitTokens
namespace Go.Proofs.YtoanhnklemlfmaaDoor.fnExactFormatTrek
open Go.ChangeShapes Go.WideShapes Go.ChangeAt Go.RowKit
open Go.ChangeMaps (open_string shut_string)
set_option linter.unusedVariables false

theorem own : ownKnob Tryd.prog.godebug = none := by kernel_rfl
theorem laidOut : laidOutB Tryd.prog = true := by kernel_rfl

theorem gTab : Tryd.prog.globalNamed "internal/strconv.uint64pow10" = some 1 := by kernel_rfl
theorem gTabType : (Tryd.prog.globals[1]?).map (·.type) = some 202 := by kernel_rfl
theorem cellsA : Tryd.prog.cellsOf 202 = 20 := by kernel_rfl
theorem cellsU : Tryd.prog.cellsOf 141 = 1 := by kernel_rfl
theorem table {W : World} (h : laidMetH Tryd.prog Rows.fnExactFormatTrekRow.laid W) : Fmt.Pow10 W :=
  Lib.tabIs_of_head (rest := []) gTab gTabType Tryd.underlying202 Tryd.underlying141 cellsU cellsA (laidMet.tail (laidMet.tail h))
open Kit Rw
set_option maxRecDepth 100000 in
set_option maxHeartbeats 4000000 in
theorem walk (w : World) (aT_Land_W : Int) (aT_Land_W_h : (Lit.int .i64 aT_Land_W).wf = true) (aT_Land_H : Int) (aT_Land_H_h : (Lit.int .i64 aT_Land_H).wf = true) (aT_Land_Cells_a : Option Addr) (aT_Land_Cells_len aT_Land_Cells_cap : Nat) (aT_Land_Cells_z : List Int) (aT_Land_Cells_h : Kit.IsRow .i64 w aT_Land_Cells_a aT_Land_Cells_len aT_Land_Cells_cap aT_Land_Cells_z) (aT_Base : Int) (aT_Base_h : (Lit.int .i64 aT_Base).wf = true) (aT_Rule_Most : Int) (aT_Rule_Most_h : (Lit.int .i64 aT_Rule_Most).wf = true) (aT_Rule_Window : Int) (aT_Rule_Window_h : (Lit.int .i64 aT_Rule_Window).wf = true) (aT_Depots_a : Option Addr) (aT_Depots_len aT_Depots_cap : Nat) (aT_Depots_L : List (Int × Int)) (aT_Depots_h : aT_Depots_L.length = aT_Depots_len ∧ Rg.SeesG Rg.encP w (.slice aT_Depots_a aT_Depots_len aT_Depots_cap) aT_Depots_L) (aT_Party_At : Int) (aT_Party_At_h : (Lit.int .i64 aT_Party_At).wf = true) (aT_Party_Food : Int) (aT_Party_Food_h : (Lit.int .i64 aT_Party_Food).wf = true) (aT_Party_Crew_a : Option Addr) (aT_Party_Crew_len aT_Party_Crew_cap : Nat) (aT_Party_Crew_L : List Rg.Mem) (aT_Party_Crew_h : aT_Party_Crew_L.length = aT_Party_Crew_len ∧ Rg.SeesG Rg.encM w (.slice aT_Party_Crew_a aT_Party_Crew_len aT_Party_Crew_cap) aT_Party_Crew_L) (aT_Party_Past_a : Option Addr) (aT_Party_Past_len aT_Party_Past_cap : Nat) (aT_Party_Past_L : List Bool) (aT_Party_Past_h : aT_Party_Past_L.length = aT_Party_Past_len ∧ Rg.SeesG Rg.encB w (.slice aT_Party_Past_a aT_Party_Past_len aT_Party_Past_cap) aT_Party_Past_L) (aT_Journal_a : Option Addr) (aT_Journal_len aT_Journal_cap : Nat) (aT_Journal_L : List Rg.I4) (aT_Journal_h : aT_Journal_L.length = aT_Journal_len ∧ Rg.SeesG Rg.enc4 w (.slice aT_Journal_a aT_Journal_len aT_Journal_cap) aT_Journal_L) (aT_Day : Int) (aT_Day_h : (Lit.int .i64 aT_Day).wf = true) (aT_Given : Int) (aT_Given_h : (Lit.int .i64 aT_Given).wf = true) (aT_Eaten : Int) (aT_Eaten_h : (Lit.int .i64 aT_Eaten).wf = true) (hL : laidMetH Tryd.prog Rows.fnExactFormatTrekRow.laid w) :
    Calls Tryd.prog 11 #[.agg #[.int .i64 aT_Land_W, .int .i64 aT_Land_H, .slice aT_Land_Cells_a aT_Land_Cells_len aT_Land_Cells_cap, .int .i64 aT_Base, .int .i64 aT_Rule_Most, .int .i64 aT_Rule_Window, .slice aT_Depots_a aT_Depots_len aT_Depots_cap, .int .i64 aT_Party_At, .int .i64 aT_Party_Food, .slice aT_Party_Crew_a aT_Party_Crew_len aT_Party_Crew_cap, .slice aT_Party_Past_a aT_Party_Past_len aT_Party_Past_cap, .slice aT_Journal_a aT_Journal_len aT_Journal_cap, .int .i64 aT_Day, .int .i64 aT_Given, .int .i64 aT_Eaten]] w fun e w' => e = .returned (.bool true) ∧ Below w.heap.size w w' := by
  have HTB := Lib.hid (table hL); clear hL
  obtain ⟨aT_Depots_e, aT_Depots_s0⟩ := aT_Depots_h; have aT_Depots_S := Lib.hid aT_Depots_s0; have aT_Depots_len0 := aT_Depots_s0.len; subst aT_Depots_e; clear aT_Depots_s0
  obtain ⟨aT_Party_Crew_e, aT_Party_Crew_s0⟩ := aT_Party_Crew_h; have aT_Party_Crew_S := Lib.hid aT_Party_Crew_s0; have aT_Party_Crew_len0 := aT_Party_Crew_s0.len; subst aT_Party_Crew_e; clear aT_Party_Crew_s0
  obtain ⟨aT_Party_Past_e, aT_Party_Past_s0⟩ := aT_Party_Past_h; have aT_Party_Past_S := Lib.hid aT_Party_Past_s0; have aT_Party_Past_len0 := aT_Party_Past_s0.len; subst aT_Party_Past_e; clear aT_Party_Past_s0
  obtain ⟨aT_Journal_e, aT_Journal_s0⟩ := aT_Journal_h; have aT_Journal_S := Lib.hid aT_Journal_s0; have aT_Journal_len0 := aT_Journal_s0.len; subst aT_Journal_e; clear aT_Journal_s0
  have aT_Land_Cells_g := Lib.hid aT_Land_Cells_h; clear aT_Land_Cells_h
  obtain ⟨aT_Land_Cells_L, aT_Land_Cells_e, aT_Land_Cells_s0⟩ := IsRow.sees aT_Land_Cells_g.out
  have aT_Land_Cells_S := Lib.hid aT_Land_Cells_s0; have aT_Land_Cells_len0 := aT_Land_Cells_s0.len; subst aT_Land_Cells_e; clear aT_Land_Cells_s0 aT_Land_Cells_g
  have aT_Land_W_H := Lib.hid aT_Land_W_h; have aT_Land_W_b := i64_of aT_Land_W_h; clear aT_Land_W_h
  have aT_Land_H_H := Lib.hid aT_Land_H_h; have aT_Land_H_b := i64_of aT_Land_H_h; clear aT_Land_H_h
  have aT_Base_H := Lib.hid aT_Base_h; have aT_Base_b := i64_of aT_Base_h; clear aT_Base_h
  have aT_Rule_Most_H := Lib.hid aT_Rule_Most_h; have aT_Rule_Most_b := i64_of aT_Rule_Most_h; clear aT_Rule_Most_h
  have aT_Rule_Window_H := Lib.hid aT_Rule_Window_h; have aT_Rule_Window_b := i64_of aT_Rule_Window_h; clear aT_Rule_Window_h
  have aT_Party_At_H := Lib.hid aT_Party_At_h; have aT_Party_At_b := i64_of aT_Party_At_h; clear aT_Party_At_h
  have aT_Party_Food_H := Lib.hid aT_Party_Food_h; have aT_Party_Food_b := i64_of aT_Party_Food_h; clear aT_Party_Food_h
  have aT_Day_H := Lib.hid aT_Day_h; have aT_Day_b := i64_of aT_Day_h; clear aT_Day_h
  have aT_Given_H := Lib.hid aT_Given_h; have aT_Given_b := i64_of aT_Given_h; clear aT_Given_h
  have aT_Eaten_H := Lib.hid aT_Eaten_h; have aT_Eaten_b := i64_of aT_Eaten_h; clear aT_Eaten_h
  by_cases aT_l : (aT_Land_Cells_L.length : Int) + (aT_Depots_L.length : Int) + (aT_Party_Crew_L.length : Int) + (aT_Party_Past_L.length : Int) + (aT_Journal_L.length : Int) ≤ (1048576 : Int)
  rotate_left
  ·
    have HB0 : Hid (Below w.heap.size w w) := Below.refl _ _
    have hgb := World.grownBy_alloc w (.cells #[.int .i64 aT_Land_W, .int .i64 aT_Land_H, .slice aT_Land_Cells_a aT_Land_Cells_L.length aT_Land_Cells_cap, .int .i64 aT_Base, .int .i64 aT_Rule_Most, .int .i64 aT_Rule_Window, .slice aT_Depots_a aT_Depots_L.length aT_Depots_cap, .int .i64 aT_Party_At, .int .i64 aT_Party_Food, .slice aT_Party_Crew_a aT_Party_Crew_L.length aT_Party_Crew_cap, .slice aT_Party_Past_a aT_Party_Past_L.length aT_Party_Past_cap, .slice aT_Journal_a aT_Journal_L.length aT_Journal_cap, .int .i64 aT_Day, .int .i64 aT_Given, .int .i64 aT_Eaten] 68 (0, 0)) none
    have HB1 := Lib.hid (HB0.out.grown hgb HB0.out.size (fun _ h => by cases h)); clear HB0
    have XP0 := Lib.hid (box_new w #[.int .i64 aT_Land_W, .int .i64 aT_Land_H, .slice aT_Land_Cells_a aT_Land_Cells_L.length aT_Land_Cells_cap, .int .i64 aT_Base, .int .i64 aT_Rule_Most, .int .i64 aT_Rule_Window, .slice aT_Depots_a aT_Depots_L.length aT_Depots_cap, .int .i64 aT_Party_At, .int .i64 aT_Party_Food, .slice aT_Party_Crew_a aT_Party_Crew_L.length aT_Party_Crew_cap, .slice aT_Party_Past_a aT_Party_Past_L.length aT_Party_Past_cap, .slice aT_Journal_a aT_Journal_L.length aT_Journal_cap, .int .i64 aT_Day, .int .i64 aT_Given, .int .i64 aT_Eaten] 68); clear hgb
    go_enter Tryd.func11, Tryd.ntmps11
    try clear cP0_0
    have cP0_0 : World.cell? (w.alloc (.cells #[.int .i64 aT_Land_W, .int .i64 aT_Land_H, .slice aT_Land_Cells_a aT_Land_Cells_L.length aT_Land_Cells_cap, .int .i64 aT_Base, .int .i64 aT_Rule_Most, .int .i64 aT_Rule_Window, .slice aT_Depots_a aT_Depots_L.length aT_Depots_cap, .int .i64 aT_Party_At, .int .i64 aT_Party_Food, .slice aT_Party_Crew_a aT_Party_Crew_L.length aT_Party_Crew_cap, .slice aT_Party_Past_a aT_Party_Past_L.length aT_Party_Past_cap, .slice aT_Journal_a aT_Journal_L.length aT_Journal_cap, .int .i64 aT_Day, .int .i64 aT_Given, .int .i64 aT_Eaten] 68 (0, 0))) ⟨w.heap.size, 0, none⟩ = some (.int .i64 aT_Land_W) := XP0.out.cell 0
    try clear cP0_1
    have cP0_1 : World.cell? (w.alloc (.cells #[.int .i64 aT_Land_W, .int .i64 aT_Land_H, .slice aT_Land_Cells_a aT_Land_Cells_L.length aT_Land_Cells_cap, .int .i64 aT_Base, .int .i64 aT_Rule_Most, .int .i64 aT_Rule_Window, .slice aT_Depots_a aT_Depots_L.length aT_Depots_cap, .int .i64 aT_Party_At, .int .i64 aT_Party_Food, .slice aT_Party_Crew_a aT_Party_Crew_L.length aT_Party_Crew_cap, .slice aT_Party_Past_a aT_Party_Past_L.length aT_Party_Past_cap, .slice aT_Journal_a aT_Journal_L.length aT_Journal_cap, .int .i64 aT_Day, .int .i64 aT_Given, .int .i64 aT_Eaten] 68 (0, 0))) ⟨w.heap.size, 1, none⟩ = some (.int .i64 aT_Land_H) := XP0.out.cell 1
    try clear cP0_2
    have cP0_2 : World.cell? (w.alloc (.cells #[.int .i64 aT_Land_W, .int .i64 aT_Land_H, .slice aT_Land_Cells_a aT_Land_Cells_L.length aT_Land_Cells_cap, .int .i64 aT_Base, .int .i64 aT_Rule_Most, .int .i64 aT_Rule_Window, .slice aT_Depots_a aT_Depots_L.length aT_Depots_cap, .int .i64 aT_Party_At, .int .i64 aT_Party_Food, .slice aT_Party_Crew_a aT_Party_Crew_L.length aT_Party_Crew_cap, .slice aT_Party_Past_a aT_Party_Past_L.length aT_Party_Past_cap, .slice aT_Journal_a aT_Journal_L.length aT_Journal_cap, .int .i64 aT_Day, .int .i64 aT_Given, .int .i64 aT_Eaten] 68 (0, 0))) ⟨w.heap.size, 2, none⟩ = some (.slice aT_Land_Cells_a aT_Land_Cells_L.length aT_Land_Cells_cap) := XP0.out.cell 2
    try clear cP0_3
    have cP0_3 : World.cell? (w.alloc (.cells #[.int .i64 aT_Land_W, .int .i64 aT_Land_H, .slice aT_Land_Cells_a aT_Land_Cells_L.length aT_Land_Cells_cap, .int .i64 aT_Base, .int .i64 aT_Rule_Most, .int .i64 aT_Rule_Window, .slice aT_Depots_a aT_Depots_L.length aT_Depots_cap, .int .i64 aT_Party_At, .int .i64 aT_Party_Food, .slice aT_Party_Crew_a aT_Party_Crew_L.length aT_Party_Crew_cap, .slice aT_Party_Past_a aT_Party_Past_L.length aT_Party_Past_cap, .slice aT_Journal_a aT_Journal_L.length aT_Journal_cap, .int .i64 aT_Day, .int .i64 aT_Given, .int .i64 aT_Eaten] 68 (0, 0))) ⟨w.heap.size, 3, none⟩ = some (.int .i64 aT_Base) := XP0.out.cell 3
    try clear cP0_4
    have cP0_4 : World.cell? (w.alloc (.cells #[.int .i64 aT_Land_W, .int .i64 aT_Land_H, .slice aT_Land_Cells_a aT_Land_Cells_L.length aT_Land_Cells_cap, .int .i64 aT_Base, .int .i64 aT_Rule_Most, .int .i64 aT_Rule_Window, .slice aT_Depots_a aT_Depots_L.length aT_Depots_cap, .int .i64 aT_Party_At, .int .i64 aT_Party_Food, .slice aT_Party_Crew_a aT_Party_Crew_L.length aT_Party_Crew_cap, .slice aT_Party_Past_a aT_Party_Past_L.length aT_Party_Past_cap, .slice aT_Journal_a aT_Journal_L.length aT_Journal_cap, .int .i64 aT_Day, .int .i64 aT_Given, .int .i64 aT_Eaten] 68 (0, 0))) ⟨w.heap.size, 4, none⟩ = some (.int .i64 aT_Rule_Most) := XP0.out.cell 4
    try clear cP0_5
    have cP0_5 : World.cell? (w.alloc (.cells #[.int .i64 aT_Land_W, .int .i64 aT_Land_H, .slice aT_Land_Cells_a aT_Land_Cells_L.length aT_Land_Cells_cap, .int .i64 aT_Base, .int .i64 aT_Rule_Most, .int .i64 aT_Rule_Window, .slice aT_Depots_a aT_Depots_L.length aT_Depots_cap, .int .i64 aT_Party_At, .int .i64 aT_Party_Food, .slice aT_Party_Crew_a aT_Party_Crew_L.length aT_Party_Crew_cap, .slice aT_Party_Past_a aT_Party_Past_L.length aT_Party_Past_cap, .slice aT_Journal_a aT_Journal_L.length aT_Journal_cap, .int .i64 aT_Day, .int .i64 aT_Given, .int .i64 aT_Eaten] 68 (0, 0))) ⟨w.heap.size, 5, none⟩ = some (.int .i64 aT_Rule_Window) := XP0.out.cell 5
    try clear cP0_6
    have cP0_6 : World.cell? (w.alloc (.cells #[.int .i64 aT_Land_W, .int .i64 aT_Land_H, .slice aT_Land_Cells_a aT_Land_Cells_L.length aT_Land_Cells_cap, .int .i64 aT_Base, .int .i64 aT_Rule_Most, .int .i64 aT_Rule_Window, .slice aT_Depots_a aT_Depots_L.length aT_Depots_cap, .int .i64 aT_Party_At, .int .i64 aT_Party_Food, .slice aT_Party_Crew_a aT_Party_Crew_L.length aT_Party_Crew_cap, .slice aT_Party_Past_a aT_Party_Past_L.length aT_Party_Past_cap, .slice aT_Journal_a aT_Journal_L.length aT_Journal_cap, .int .i64 aT_Day, .int .i64 aT_Given, .int .i64 aT_Eaten] 68 (0, 0))) ⟨w.heap.size, 6, none⟩ = some (.slice aT_Depots_a aT_Depots_L.length aT_Depots_cap) := XP0.out.cell 6
    try clear cP0_7
    have cP0_7 : World.cell? (w.alloc (.cells #[.int .i64 aT_Land_W, .int .i64 aT_Land_H, .slice aT_Land_Cells_a aT_Land_Cells_L.length aT_Land_Cells_cap, .int .i64 aT_Base, .int .i64 aT_Rule_Most, .int .i64 aT_Rule_Window, .slice aT_Depots_a aT_Depots_L.length aT_Depots_cap, .int .i64 aT_Party_At, .int .i64 aT_Party_Food, .slice aT_Party_Crew_a aT_Party_Crew_L.length aT_Party_Crew_cap, .slice aT_Party_Past_a aT_Party_Past_L.length aT_Party_Past_cap, .slice aT_Journal_a aT_Journal_L.length aT_Journal_cap, .int .i64 aT_Day, .int .i64 aT_Given, .int .i64 aT_Eaten] 68 (0, 0))) ⟨w.heap.size, 7, none⟩ = some (.int .i64 aT_Party_At) := XP0.out.cell 7
    try clear cP0_8
    have cP0_8 : World.cell? (w.alloc (.cells #[.int .i64 aT_Land_W, .int .i64 aT_Land_H, .slice aT_Land_Cells_a aT_Land_Cells_L.length aT_Land_Cells_cap, .int .i64 aT_Base, .int .i64 aT_Rule_Most, .int .i64 aT_Rule_Window, .slice aT_Depots_a aT_Depots_L.length aT_Depots_cap, .int .i64 aT_Party_At, .int .i64 aT_Party_Food, .slice aT_Party_Crew_a aT_Party_Crew_L.length aT_Party_Crew_cap, .slice aT_Party_Past_a aT_Party_Past_L.length aT_Party_Past_cap, .slice aT_Journal_a aT_Journal_L.length aT_Journal_cap, .int .i64 aT_Day, .int .i64 aT_Given, .int .i64 aT_Eaten] 68 (0, 0))) ⟨w.heap.size, 8, none⟩ = some (.int .i64 aT_Party_Food) := XP0.out.cell 8
    try clear cP0_9
    have cP0_9 : World.cell? (w.alloc (.cells #[.int .i64 aT_Land_W, .int .i64 aT_Land_H, .slice aT_Land_Cells_a aT_Land_Cells_L.length aT_Land_Cells_cap, .int .i64 aT_Base, .int .i64 aT_Rule_Most, .int .i64 aT_Rule_Window, .slice aT_Depots_a aT_Depots_L.length aT_Depots_cap, .int .i64 aT_Party_At, .int .i64 aT_Party_Food, .slice aT_Party_Crew_a aT_Party_Crew_L.length aT_Party_Crew_cap, .slice aT_Party_Past_a aT_Party_Past_L.length aT_Party_Past_cap, .slice aT_Journal_a aT_Journal_L.length aT_Journal_cap, .int .i64 aT_Day, .int .i64 aT_Given, .int .i64 aT_Eaten] 68 (0, 0))) ⟨w.heap.size, 9, none⟩ = some (.slice aT_Party_Crew_a aT_Party_Crew_L.length aT_Party_Crew_cap) := XP0.out.cell 9
    try clear cP0_10
    have cP0_10 : World.cell? (w.alloc (.cells #[.int .i64 aT_Land_W, .int .i64 aT_Land_H, .slice aT_Land_Cells_a aT_Land_Cells_L.length aT_Land_Cells_cap, .int .i64 aT_Base, .int .i64 aT_Rule_Most, .int .i64 aT_Rule_Window, .slice aT_Depots_a aT_Depots_L.length aT_Depots_cap, .int .i64 aT_Party_At, .int .i64 aT_Party_Food, .slice aT_Party_Crew_a aT_Party_Crew_L.length aT_Party_Crew_cap, .slice aT_Party_Past_a aT_Party_Past_L.length aT_Party_Past_cap, .slice aT_Journal_a aT_Journal_L.length aT_Journal_cap, .int .i64 aT_Day, .int .i64 aT_Given, .int .i64 aT_Eaten] 68 (0, 0))) ⟨w.heap.size, 10, none⟩ = some (.slice aT_Party_Past_a aT_Party_Past_L.length aT_Party_Past_cap) := XP0.out.cell 10
    try clear cP0_11
    have cP0_11 : World.cell? (w.alloc (.cells #[.int .i64 aT_Land_W, .int .i64 aT_Land_H, .slice aT_Land_Cells_a aT_Land_Cells_L.length aT_Land_Cells_cap, .int .i64 aT_Base, .int .i64 aT_Rule_Most, .int .i64 aT_Rule_Window, .slice aT_Depots_a aT_Depots_L.length aT_Depots_cap, .int .i64 aT_Party_At, .int .i64 aT_Party_Food, .slice aT_Party_Crew_a aT_Party_Crew_L.length aT_Party_Crew_cap, .slice aT_Party_Past_a aT_Party_Past_L.length aT_Party_Past_cap, .slice aT_Journal_a aT_Journal_L.length aT_Journal_cap, .int .i64 aT_Day, .int .i64 aT_Given, .int .i64 aT_Eaten] 68 (0, 0))) ⟨w.heap.size, 11, none⟩ = some (.slice aT_Journal_a aT_Journal_L.length aT_Journal_cap) := XP0.out.cell 11
    try clear cP0_12
    have cP0_12 : World.cell? (w.alloc (.cells #[.int .i64 aT_Land_W, .int .i64 aT_Land_H, .slice aT_Land_Cells_a aT_Land_Cells_L.length aT_Land_Cells_cap, .int .i64 aT_Base, .int .i64 aT_Rule_Most, .int .i64 aT_Rule_Window, .slice aT_Depots_a aT_Depots_L.length aT_Depots_cap, .int .i64 aT_Party_At, .int .i64 aT_Party_Food, .slice aT_Party_Crew_a aT_Party_Crew_L.length aT_Party_Crew_cap, .slice aT_Party_Past_a aT_Party_Past_L.length aT_Party_Past_cap, .slice aT_Journal_a aT_Journal_L.length aT_Journal_cap, .int .i64 aT_Day, .int .i64 aT_Given, .int .i64 aT_Eaten] 68 (0, 0))) ⟨w.heap.size, 12, none⟩ = some (.int .i64 aT_Day) := XP0.out.cell 12
    try clear cP0_13
    have cP0_13 : World.cell? (w.alloc (.cells #[.int .i64 aT_Land_W, .int .i64 aT_Land_H, .slice aT_Land_Cells_a aT_Land_Cells_L.length aT_Land_Cells_cap, .int .i64 aT_Base, .int .i64 aT_Rule_Most, .int .i64 aT_Rule_Window, .slice aT_Depots_a aT_Depots_L.length aT_Depots_cap, .int .i64 aT_Party_At, .int .i64 aT_Party_Food, .slice aT_Party_Crew_a aT_Party_Crew_L.length aT_Party_Crew_cap, .slice aT_Party_Past_a aT_Party_Past_L.length aT_Party_Past_cap, .slice aT_Journal_a aT_Journal_L.length aT_Journal_cap, .int .i64 aT_Day, .int .i64 aT_Given, .int .i64 aT_Eaten] 68 (0, 0))) ⟨w.heap.size, 13, none⟩ = some (.int .i64 aT_Given) := XP0.out.cell 13
    try clear cP0_14
    have cP0_14 : World.cell? (w.alloc (.cells #[.int .i64 aT_Land_W, .int .i64 aT_Land_H, .slice aT_Land_Cells_a aT_Land_Cells_L.length aT_Land_Cells_cap, .int .i64 aT_Base, .int .i64 aT_Rule_Most, .int .i64 aT_Rule_Window, .slice aT_Depots_a aT_Depots_L.length aT_Depots_cap, .int .i64 aT_Party_At, .int .i64 aT_Party_Food, .slice aT_Party_Crew_a aT_Party_Crew_L.length aT_Party_Crew_cap, .slice aT_Party_Past_a aT_Party_Past_L.length aT_Party_Past_cap, .slice aT_Journal_a aT_Journal_L.length aT_Journal_cap, .int .i64 aT_Day, .int .i64 aT_Given, .int .i64 aT_Eaten] 68 (0, 0))) ⟨w.heap.size, 14, none⟩ = some (.int .i64 aT_Eaten) := XP0.out.cell 14
    go_wp2_with fail
    generalize w.alloc (.cells #[.int .i64 aT_Land_W, .int .i64 aT_Land_H, .slice aT_Land_Cells_a aT_Land_Cells_L.length aT_Land_Cells_cap, .int .i64 aT_Base, .int .i64 aT_Rule_Most, .int .i64 aT_Rule_Window, .slice aT_Depots_a aT_Depots_L.length aT_Depots_cap, .int .i64 aT_Party_At, .int .i64 aT_Party_Food, .slice aT_Party_Crew_a aT_Party_Crew_L.length aT_Party_Crew_cap, .slice aT_Party_Past_a aT_Party_Past_L.length aT_Party_Past_cap, .slice aT_Journal_a aT_Journal_L.length aT_Journal_cap, .int .i64 aT_Day, .int .i64 aT_Given, .int .i64 aT_Eaten] 68 (0, 0)) = w1 at *
    refine (TrekL.szTrek_no w1 aT_Land_W aT_Land_H aT_Base aT_Rule_Most aT_Rule_Window aT_Party_At aT_Party_Food aT_Day aT_Given aT_Eaten _ _ _ _ _ _ _ _ _ _ (1048576 : Int) (aT_Land_Cells_S.out.below HB1.out) (aT_Depots_S.out.below HB1.out) (aT_Party_Crew_S.out.below HB1.out) (aT_Party_Past_S.out.below HB1.out) (aT_Journal_S.out.below HB1.out) (by omega) (by omega) (by omega)).mono ?_
    rintro e w2 ⟨rfl, hg⟩
    have HB2 := Lib.hid (HB1.out.grown hg HB1.out.size (fun _ h => by cases h)); clear HB1
    have XP0 := Lib.hid (XP0.out.grown hg)
    clear hg
    try clear cP0_0
    have cP0_0 : World.cell? (w2) ⟨w.heap.size, 0, none⟩ = some (.int .i64 aT_Land_W) := XP0.out.cell 0
    try clear cP0_1
    have cP0_1 : World.cell? (w2) ⟨w.heap.size, 1, none⟩ = some (.int .i64 aT_Land_H) := XP0.out.cell 1
    try clear cP0_2
    have cP0_2 : World.cell? (w2) ⟨w.heap.size, 2, none⟩ = some (.slice aT_Land_Cells_a aT_Land_Cells_L.length aT_Land_Cells_cap) := XP0.out.cell 2
    try clear cP0_3
    have cP0_3 : World.cell? (w2) ⟨w.heap.size, 3, none⟩ = some (.int .i64 aT_Base) := XP0.out.cell 3
    try clear cP0_4
    have cP0_4 : World.cell? (w2) ⟨w.heap.size, 4, none⟩ = some (.int .i64 aT_Rule_Most) := XP0.out.cell 4
    try clear cP0_5
    have cP0_5 : World.cell? (w2) ⟨w.heap.size, 5, none⟩ = some (.int .i64 aT_Rule_Window) := XP0.out.cell 5
    try clear cP0_6
    have cP0_6 : World.cell? (w2) ⟨w.heap.size, 6, none⟩ = some (.slice aT_Depots_a aT_Depots_L.length aT_Depots_cap) := XP0.out.cell 6
    try clear cP0_7
    have cP0_7 : World.cell? (w2) ⟨w.heap.size, 7, none⟩ = some (.int .i64 aT_Party_At) := XP0.out.cell 7
    try clear cP0_8
    have cP0_8 : World.cell? (w2) ⟨w.heap.size, 8, none⟩ = some (.int .i64 aT_Party_Food) := XP0.out.cell 8
    try clear cP0_9
    have cP0_9 : World.cell? (w2) ⟨w.heap.size, 9, none⟩ = some (.slice aT_Party_Crew_a aT_Party_Crew_L.length aT_Party_Crew_cap) := XP0.out.cell 9
    try clear cP0_10
    have cP0_10 : World.cell? (w2) ⟨w.heap.size, 10, none⟩ = some (.slice aT_Party_Past_a aT_Party_Past_L.length aT_Party_Past_cap) := XP0.out.cell 10
    try clear cP0_11
    have cP0_11 : World.cell? (w2) ⟨w.heap.size, 11, none⟩ = some (.slice aT_Journal_a aT_Journal_L.length aT_Journal_cap) := XP0.out.cell 11
    try clear cP0_12
    have cP0_12 : World.cell? (w2) ⟨w.heap.size, 12, none⟩ = some (.int .i64 aT_Day) := XP0.out.cell 12
    try clear cP0_13
    have cP0_13 : World.cell? (w2) ⟨w.heap.size, 13, none⟩ = some (.int .i64 aT_Given) := XP0.out.cell 13
    try clear cP0_14
    have cP0_14 : World.cell? (w2) ⟨w.heap.size, 14, none⟩ = some (.int .i64 aT_Eaten) := XP0.out.cell 14
    go_wp2
    go_ret
    exact ⟨rfl, HB2.out⟩
  have HB0 : Hid (Below w.heap.size w w) := Below.refl _ _
  have hgb := World.grownBy_alloc w (.cells #[.int .i64 aT_Land_W, .int .i64 aT_Land_H, .slice aT_Land_Cells_a aT_Land_Cells_L.length aT_Land_Cells_cap, .int .i64 aT_Base, .int .i64 aT_Rule_Most, .int .i64 aT_Rule_Window, .slice aT_Depots_a aT_Depots_L.length aT_Depots_cap, .int .i64 aT_Party_At, .int .i64 aT_Party_Food, .slice aT_Party_Crew_a aT_Party_Crew_L.length aT_Party_Crew_cap, .slice aT_Party_Past_a aT_Party_Past_L.length aT_Party_Past_cap, .slice aT_Journal_a aT_Journal_L.length aT_Journal_cap, .int .i64 aT_Day, .int .i64 aT_Given, .int .i64 aT_Eaten] 68 (0, 0)) none
  have HB1 := Lib.hid (HB0.out.grown hgb HB0.out.size (fun _ h => by cases h)); clear HB0
  have XP0 := Lib.hid (box_new w #[.int .i64 aT_Land_W, .int .i64 aT_Land_H, .slice aT_Land_Cells_a aT_Land_Cells_L.length aT_Land_Cells_cap, .int .i64 aT_Base, .int .i64 aT_Rule_Most, .int .i64 aT_Rule_Window, .slice aT_Depots_a aT_Depots_L.length aT_Depots_cap, .int .i64 aT_Party_At, .int .i64 aT_Party_Food, .slice aT_Party_Crew_a aT_Party_Crew_L.length aT_Party_Crew_cap, .slice aT_Party_Past_a aT_Party_Past_L.length aT_Party_Past_cap, .slice aT_Journal_a aT_Journal_L.length aT_Journal_cap, .int .i64 aT_Day, .int .i64 aT_Given, .int .i64 aT_Eaten] 68); clear hgb
  go_enter Tryd.func11, Tryd.ntmps11
  try clear cP0_0
  have cP0_0 : World.cell? (w.alloc (.cells #[.int .i64 aT_Land_W, .int .i64 aT_Land_H, .slice aT_Land_Cells_a aT_Land_Cells_L.length aT_Land_Cells_cap, .int .i64 aT_Base, .int .i64 aT_Rule_Most, .int .i64 aT_Rule_Window, .slice aT_Depots_a aT_Depots_L.length aT_Depots_cap, .int .i64 aT_Party_At, .int .i64 aT_Party_Food, .slice aT_Party_Crew_a aT_Party_Crew_L.length aT_Party_Crew_cap, .slice aT_Party_Past_a aT_Party_Past_L.length aT_Party_Past_cap, .slice aT_Journal_a aT_Journal_L.length aT_Journal_cap, .int .i64 aT_Day, .int .i64 aT_Given, .int .i64 aT_Eaten] 68 (0, 0))) ⟨w.heap.size, 0, none⟩ = some (.int .i64 aT_Land_W) := XP0.out.cell 0
  try clear cP0_1
  have cP0_1 : World.cell? (w.alloc (.cells #[.int .i64 aT_Land_W, .int .i64 aT_Land_H, .slice aT_Land_Cells_a aT_Land_Cells_L.length aT_Land_Cells_cap, .int .i64 aT_Base, .int .i64 aT_Rule_Most, .int .i64 aT_Rule_Window, .slice aT_Depots_a aT_Depots_L.length aT_Depots_cap, .int .i64 aT_Party_At, .int .i64 aT_Party_Food, .slice aT_Party_Crew_a aT_Party_Crew_L.length aT_Party_Crew_cap, .slice aT_Party_Past_a aT_Party_Past_L.length aT_Party_Past_cap, .slice aT_Journal_a aT_Journal_L.length aT_Journal_cap, .int .i64 aT_Day, .int .i64 aT_Given, .int .i64 aT_Eaten] 68 (0, 0))) ⟨w.heap.size, 1, none⟩ = some (.int .i64 aT_Land_H) := XP0.out.cell 1
  try clear cP0_2
  have cP0_2 : World.cell? (w.alloc (.cells #[.int .i64 aT_Land_W, .int .i64 aT_Land_H, .slice aT_Land_Cells_a aT_Land_Cells_L.length aT_Land_Cells_cap, .int .i64 aT_Base, .int .i64 aT_Rule_Most, .int .i64 aT_Rule_Window, .slice aT_Depots_a aT_Depots_L.length aT_Depots_cap, .int .i64 aT_Party_At, .int .i64 aT_Party_Food, .slice aT_Party_Crew_a aT_Party_Crew_L.length aT_Party_Crew_cap, .slice aT_Party_Past_a aT_Party_Past_L.length aT_Party_Past_cap, .slice aT_Journal_a aT_Journal_L.length aT_Journal_cap, .int .i64 aT_Day, .int .i64 aT_Given, .int .i64 aT_Eaten] 68 (0, 0))) ⟨w.heap.size, 2, none⟩ = some (.slice aT_Land_Cells_a aT_Land_Cells_L.length aT_Land_Cells_cap) := XP0.out.cell 2
  try clear cP0_3
  have cP0_3 : World.cell? (w.alloc (.cells #[.int .i64 aT_Land_W, .int .i64 aT_Land_H, .slice aT_Land_Cells_a aT_Land_Cells_L.length aT_Land_Cells_cap, .int .i64 aT_Base, .int .i64 aT_Rule_Most, .int .i64 aT_Rule_Window, .slice aT_Depots_a aT_Depots_L.length aT_Depots_cap, .int .i64 aT_Party_At, .int .i64 aT_Party_Food, .slice aT_Party_Crew_a aT_Party_Crew_L.length aT_Party_Crew_cap, .slice aT_Party_Past_a aT_Party_Past_L.length aT_Party_Past_cap, .slice aT_Journal_a aT_Journal_L.length aT_Journal_cap, .int .i64 aT_Day, .int .i64 aT_Given, .int .i64 aT_Eaten] 68 (0, 0))) ⟨w.heap.size, 3, none⟩ = some (.int .i64 aT_Base) := XP0.out.cell 3
  try clear cP0_4
  have cP0_4 : World.cell? (w.alloc (.cells #[.int .i64 aT_Land_W, .int .i64 aT_Land_H, .slice aT_Land_Cells_a aT_Land_Cells_L.length aT_Land_Cells_cap, .int .i64 aT_Base, .int .i64 aT_Rule_Most, .int .i64 aT_Rule_Window, .slice aT_Depots_a aT_Depots_L.length aT_Depots_cap, .int .i64 aT_Party_At, .int .i64 aT_Party_Food, .slice aT_Party_Crew_a aT_Party_Crew_L.length aT_Party_Crew_cap, .slice aT_Party_Past_a aT_Party_Past_L.length aT_Party_Past_cap, .slice aT_Journal_a aT_Journal_L.length aT_Journal_cap, .int .i64 aT_Day, .int .i64 aT_Given, .int .i64 aT_Eaten] 68 (0, 0))) ⟨w.heap.size, 4, none⟩ = some (.int .i64 aT_Rule_Most) := XP0.out.cell 4
  try clear cP0_5
  have cP0_5 : World.cell? (w.alloc (.cells #[.int .i64 aT_Land_W, .int .i64 aT_Land_H, .slice aT_Land_Cells_a aT_Land_Cells_L.length aT_Land_Cells_cap, .int .i64 aT_Base, .int .i64 aT_Rule_Most, .int .i64 aT_Rule_Window, .slice aT_Depots_a aT_Depots_L.length aT_Depots_cap, .int .i64 aT_Party_At, .int .i64 aT_Party_Food, .slice aT_Party_Crew_a aT_Party_Crew_L.length aT_Party_Crew_cap, .slice aT_Party_Past_a aT_Party_Past_L.length aT_Party_Past_cap, .slice aT_Journal_a aT_Journal_L.length aT_Journal_cap, .int .i64 aT_Day, .int .i64 aT_Given, .int .i64 aT_Eaten] 68 (0, 0))) ⟨w.heap.size, 5, none⟩ = some (.int .i64 aT_Rule_Window) := XP0.out.cell 5
  try clear cP0_6
  have cP0_6 : World.cell? (w.alloc (.cells #[.int .i64 aT_Land_W, .int .i64 aT_Land_H, .slice aT_Land_Cells_a aT_Land_Cells_L.length aT_Land_Cells_cap, .int .i64 aT_Base, .int .i64 aT_Rule_Most, .int .i64 aT_Rule_Window, .slice aT_Depots_a aT_Depots_L.length aT_Depots_cap, .int .i64 aT_Party_At, .int .i64 aT_Party_Food, .slice aT_Party_Crew_a aT_Party_Crew_L.length aT_Party_Crew_cap, .slice aT_Party_Past_a aT_Party_Past_L.length aT_Party_Past_cap, .slice aT_Journal_a aT_Journal_L.length aT_Journal_cap, .int .i64 aT_Day, .int .i64 aT_Given, .int .i64 aT_Eaten] 68 (0, 0))) ⟨w.heap.size, 6, none⟩ = some (.slice aT_Depots_a aT_Depots_L.length aT_Depots_cap) := XP0.out.cell 6
  try clear cP0_7
  have cP0_7 : World.cell? (w.alloc (.cells #[.int .i64 aT_Land_W, .int .i64 aT_Land_H, .slice aT_Land_Cells_a aT_Land_Cells_L.length aT_Land_Cells_cap, .int .i64 aT_Base, .int .i64 aT_Rule_Most, .int .i64 aT_Rule_Window, .slice aT_Depots_a aT_Depots_L.length aT_Depots_cap, .int .i64 aT_Party_At, .int .i64 aT_Party_Food, .slice aT_Party_Crew_a aT_Party_Crew_L.length aT_Party_Crew_cap, .slice aT_Party_Past_a aT_Party_Past_L.length aT_Party_Past_cap, .slice aT_Journal_a aT_Journal_L.length aT_Journal_cap, .int .i64 aT_Day, .int .i64 aT_Given, .int .i64 aT_Eaten] 68 (0, 0))) ⟨w.heap.size, 7, none⟩ = some (.int .i64 aT_Party_At) := XP0.out.cell 7
  try clear cP0_8
  have cP0_8 : World.cell? (w.alloc (.cells #[.int .i64 aT_Land_W, .int .i64 aT_Land_H, .slice aT_Land_Cells_a aT_Land_Cells_L.length aT_Land_Cells_cap, .int .i64 aT_Base, .int .i64 aT_Rule_Most, .int .i64 aT_Rule_Window, .slice aT_Depots_a aT_Depots_L.length aT_Depots_cap, .int .i64 aT_Party_At, .int .i64 aT_Party_Food, .slice aT_Party_Crew_a aT_Party_Crew_L.length aT_Party_Crew_cap, .slice aT_Party_Past_a aT_Party_Past_L.length aT_Party_Past_cap, .slice aT_Journal_a aT_Journal_L.length aT_Journal_cap, .int .i64 aT_Day, .int .i64 aT_Given, .int .i64 aT_Eaten] 68 (0, 0))) ⟨w.heap.size, 8, none⟩ = some (.int .i64 aT_Party_Food) := XP0.out.cell 8
  try clear cP0_9
  have cP0_9 : World.cell? (w.alloc (.cells #[.int .i64 aT_Land_W, .int .i64 aT_Land_H, .slice aT_Land_Cells_a aT_Land_Cells_L.length aT_Land_Cells_cap, .int .i64 aT_Base, .int .i64 aT_Rule_Most, .int .i64 aT_Rule_Window, .slice aT_Depots_a aT_Depots_L.length aT_Depots_cap, .int .i64 aT_Party_At, .int .i64 aT_Party_Food, .slice aT_Party_Crew_a aT_Party_Crew_L.length aT_Party_Crew_cap, .slice aT_Party_Past_a aT_Party_Past_L.length aT_Party_Past_cap, .slice aT_Journal_a aT_Journal_L.length aT_Journal_cap, .int .i64 aT_Day, .int .i64 aT_Given, .int .i64 aT_Eaten] 68 (0, 0))) ⟨w.heap.size, 9, none⟩ = some (.slice aT_Party_Crew_a aT_Party_Crew_L.length aT_Party_Crew_cap) := XP0.out.cell 9
  try clear cP0_10
  have cP0_10 : World.cell? (w.alloc (.cells #[.int .i64 aT_Land_W, .int .i64 aT_Land_H, .slice aT_Land_Cells_a aT_Land_Cells_L.length aT_Land_Cells_cap, .int .i64 aT_Base, .int .i64 aT_Rule_Most, .int .i64 aT_Rule_Window, .slice aT_Depots_a aT_Depots_L.length aT_Depots_cap, .int .i64 aT_Party_At, .int .i64 aT_Party_Food, .slice aT_Party_Crew_a aT_Party_Crew_L.length aT_Party_Crew_cap, .slice aT_Party_Past_a aT_Party_Past_L.length aT_Party_Past_cap, .slice aT_Journal_a aT_Journal_L.length aT_Journal_cap, .int .i64 aT_Day, .int .i64 aT_Given, .int .i64 aT_Eaten] 68 (0, 0))) ⟨w.heap.size, 10, none⟩ = some (.slice aT_Party_Past_a aT_Party_Past_L.length aT_Party_Past_cap) := XP0.out.cell 10
  try clear cP0_11
  have cP0_11 : World.cell? (w.alloc (.cells #[.int .i64 aT_Land_W, .int .i64 aT_Land_H, .slice aT_Land_Cells_a aT_Land_Cells_L.length aT_Land_Cells_cap, .int .i64 aT_Base, .int .i64 aT_Rule_Most, .int .i64 aT_Rule_Window, .slice aT_Depots_a aT_Depots_L.length aT_Depots_cap, .int .i64 aT_Party_At, .int .i64 aT_Party_Food, .slice aT_Party_Crew_a aT_Party_Crew_L.length aT_Party_Crew_cap, .slice aT_Party_Past_a aT_Party_Past_L.length aT_Party_Past_cap, .slice aT_Journal_a aT_Journal_L.length aT_Journal_cap, .int .i64 aT_Day, .int .i64 aT_Given, .int .i64 aT_Eaten] 68 (0, 0))) ⟨w.heap.size, 11, none⟩ = some (.slice aT_Journal_a aT_Journal_L.length aT_Journal_cap) := XP0.out.cell 11
  try clear cP0_12
  have cP0_12 : World.cell? (w.alloc (.cells #[.int .i64 aT_Land_W, .int .i64 aT_Land_H, .slice aT_Land_Cells_a aT_Land_Cells_L.length aT_Land_Cells_cap, .int .i64 aT_Base, .int .i64 aT_Rule_Most, .int .i64 aT_Rule_Window, .slice aT_Depots_a aT_Depots_L.length aT_Depots_cap, .int .i64 aT_Party_At, .int .i64 aT_Party_Food, .slice aT_Party_Crew_a aT_Party_Crew_L.length aT_Party_Crew_cap, .slice aT_Party_Past_a aT_Party_Past_L.length aT_Party_Past_cap, .slice aT_Journal_a aT_Journal_L.length aT_Journal_cap, .int .i64 aT_Day, .int .i64 aT_Given, .int .i64 aT_Eaten] 68 (0, 0))) ⟨w.heap.size, 12, none⟩ = some (.int .i64 aT_Day) := XP0.out.cell 12
  try clear cP0_13
  have cP0_13 : World.cell? (w.alloc (.cells #[.int .i64 aT_Land_W, .int .i64 aT_Land_H, .slice aT_Land_Cells_a aT_Land_Cells_L.length aT_Land_Cells_cap, .int .i64 aT_Base, .int .i64 aT_Rule_Most, .int .i64 aT_Rule_Window, .slice aT_Depots_a aT_Depots_L.length aT_Depots_cap, .int .i64 aT_Party_At, .int .i64 aT_Party_Food, .slice aT_Party_Crew_a aT_Party_Crew_L.length aT_Party_Crew_cap, .slice aT_Party_Past_a aT_Party_Past_L.length aT_Party_Past_cap, .slice aT_Journal_a aT_Journal_L.length aT_Journal_cap, .int .i64 aT_Day, .int .i64 aT_Given, .int .i64 aT_Eaten] 68 (0, 0))) ⟨w.heap.size, 13, none⟩ = some (.int .i64 aT_Given) := XP0.out.cell 13
  try clear cP0_14
  have cP0_14 : World.cell? (w.alloc (.cells #[.int .i64 aT_Land_W, .int .i64 aT_Land_H, .slice aT_Land_Cells_a aT_Land_Cells_L.length aT_Land_Cells_cap, .int .i64 aT_Base, .int .i64 aT_Rule_Most, .int .i64 aT_Rule_Window, .slice aT_Depots_a aT_Depots_L.length aT_Depots_cap, .int .i64 aT_Party_At, .int .i64 aT_Party_Food, .slice aT_Party_Crew_a aT_Party_Crew_L.length aT_Party_Crew_cap, .slice aT_Party_Past_a aT_Party_Past_L.length aT_Party_Past_cap, .slice aT_Journal_a aT_Journal_L.length aT_Journal_cap, .int .i64 aT_Day, .int .i64 aT_Given, .int .i64 aT_Eaten] 68 (0, 0))) ⟨w.heap.size, 14, none⟩ = some (.int .i64 aT_Eaten) := XP0.out.cell 14
  go_wp2_with fail
  generalize w.alloc (.cells #[.int .i64 aT_Land_W, .int .i64 aT_Land_H, .slice aT_Land_Cells_a aT_Land_Cells_L.length aT_Land_Cells_cap, .int .i64 aT_Base, .int .i64 aT_Rule_Most, .int .i64 aT_Rule_Window, .slice aT_Depots_a aT_Depots_L.length aT_Depots_cap, .int .i64 aT_Party_At, .int .i64 aT_Party_Food, .slice aT_Party_Crew_a aT_Party_Crew_L.length aT_Party_Crew_cap, .slice aT_Party_Past_a aT_Party_Past_L.length aT_Party_Past_cap, .slice aT_Journal_a aT_Journal_L.length aT_Journal_cap, .int .i64 aT_Day, .int .i64 aT_Given, .int .i64 aT_Eaten] 68 (0, 0)) = w1 at *
  refine (TrekL.szTrek_yes w1 aT_Land_W aT_Land_H aT_Base aT_Rule_Most aT_Rule_Window aT_Party_At aT_Party_Food aT_Day aT_Given aT_Eaten _ _ _ _ _ _ _ _ _ _ (1048576 : Int) (aT_Land_Cells_S.out.below HB1.out) (aT_Depots_S.out.below HB1.out) (aT_Party_Crew_S.out.below HB1.out) (aT_Party_Past_S.out.below HB1.out) (aT_Journal_S.out.below HB1.out) (by omega) (by omega) (by omega)).mono ?_
  rintro e w2 ⟨rfl, hg⟩
  have HB2 := Lib.hid (HB1.out.grown hg HB1.out.size (fun _ h => by cases h)); clear HB1
  have XP0 := Lib.hid (XP0.out.grown hg)
  clear hg
  try clear cP0_0
  have cP0_0 : World.cell? (w2) ⟨w.heap.size, 0, none⟩ = some (.int .i64 aT_Land_W) := XP0.out.cell 0
  try clear cP0_1
  have cP0_1 : World.cell? (w2) ⟨w.heap.size, 1, none⟩ = some (.int .i64 aT_Land_H) := XP0.out.cell 1
  try clear cP0_2
  have cP0_2 : World.cell? (w2) ⟨w.heap.size, 2, none⟩ = some (.slice aT_Land_Cells_a aT_Land_Cells_L.length aT_Land_Cells_cap) := XP0.out.cell 2
  try clear cP0_3
  have cP0_3 : World.cell? (w2) ⟨w.heap.size, 3, none⟩ = some (.int .i64 aT_Base) := XP0.out.cell 3
  try clear cP0_4
  have cP0_4 : World.cell? (w2) ⟨w.heap.size, 4, none⟩ = some (.int .i64 aT_Rule_Most) := XP0.out.cell 4
  try clear cP0_5
  have cP0_5 : World.cell? (w2) ⟨w.heap.size, 5, none⟩ = some (.int .i64 aT_Rule_Window) := XP0.out.cell 5
  try clear cP0_6
  have cP0_6 : World.cell? (w2) ⟨w.heap.size, 6, none⟩ = some (.slice aT_Depots_a aT_Depots_L.length aT_Depots_cap) := XP0.out.cell 6
  try clear cP0_7
  have cP0_7 : World.cell? (w2) ⟨w.heap.size, 7, none⟩ = some (.int .i64 aT_Party_At) := XP0.out.cell 7
  try clear cP0_8
  have cP0_8 : World.cell? (w2) ⟨w.heap.size, 8, none⟩ = some (.int .i64 aT_Party_Food) := XP0.out.cell 8
  try clear cP0_9
  have cP0_9 : World.cell? (w2) ⟨w.heap.size, 9, none⟩ = some (.slice aT_Party_Crew_a aT_Party_Crew_L.length aT_Party_Crew_cap) := XP0.out.cell 9
  try clear cP0_10
  have cP0_10 : World.cell? (w2) ⟨w.heap.size, 10, none⟩ = some (.slice aT_Party_Past_a aT_Party_Past_L.length aT_Party_Past_cap) := XP0.out.cell 10
  try clear cP0_11
  have cP0_11 : World.cell? (w2) ⟨w.heap.size, 11, none⟩ = some (.slice aT_Journal_a aT_Journal_L.length aT_Journal_cap) := XP0.out.cell 11
  try clear cP0_12
  have cP0_12 : World.cell? (w2) ⟨w.heap.size, 12, none⟩ = some (.int .i64 aT_Day) := XP0.out.cell 12
  try clear cP0_13
  have cP0_13 : World.cell? (w2) ⟨w.heap.size, 13, none⟩ = some (.int .i64 aT_Given) := XP0.out.cell 13
  try clear cP0_14
  have cP0_14 : World.cell? (w2) ⟨w.heap.size, 14, none⟩ = some (.int .i64 aT_Eaten) := XP0.out.cell 14
  go_wp2_with fail
  refine (TrekL.toTrek_any w2 aT_Land_W aT_Land_H aT_Base aT_Rule_Most aT_Rule_Window aT_Party_At aT_Party_Food aT_Day aT_Given aT_Eaten _ _ _ _ _ _ _ _ _ _ (aT_Land_Cells_S.out.below HB2.out) (aT_Depots_S.out.below HB2.out) (aT_Party_Crew_S.out.below HB2.out) (aT_Party_Past_S.out.below HB2.out) (aT_Journal_S.out.below HB2.out) (by omega) (by omega) (by omega) (by omega) (by omega)).mono ?_
  rintro e w3 ⟨u1, u2, u3, u4, u5, rfl, ho1, ho2, ho3, ho4, ho5, hap, hg⟩
  have D_u1_P0 := Lib.hid (ho1.off XP0.out.lt)
  have Ou1 := Lib.hid (ho1.lower HB2.out.size)
  have D_u2_P0 := Lib.hid (ho2.off XP0.out.lt)
  have Ou2 := Lib.hid (ho2.lower HB2.out.size)
  have D_u3_P0 := Lib.hid (ho3.off XP0.out.lt)
  have Ou3 := Lib.hid (ho3.lower HB2.out.size)
  have D_u4_P0 := Lib.hid (ho4.off XP0.out.lt)
  have Ou4 := Lib.hid (ho4.lower HB2.out.size)
  have D_u5_P0 := Lib.hid (ho5.off XP0.out.lt)
  have Ou5 := Lib.hid (ho5.lower HB2.out.size)
  simp only [TrekL.ApN, List.mem_cons, List.not_mem_nil, or_false, forall_eq_or_imp, forall_eq] at hap
  obtain ⟨⟨x43, x42, x41, x40⟩, ⟨x32, x31, x30⟩, ⟨x21, x20⟩, x10, _⟩ := hap
  have A_u2_u1 := Lib.hid x10; clear x10
  have A_u3_u1 := Lib.hid x20; clear x20
  have A_u3_u2 := Lib.hid x21; clear x21
  have A_u4_u1 := Lib.hid x30; clear x30
  have A_u4_u2 := Lib.hid x31; clear x31
  have A_u4_u3 := Lib.hid x32; clear x32
  have A_u5_u1 := Lib.hid x40; clear x40
  have A_u5_u2 := Lib.hid x41; clear x41
  have A_u5_u3 := Lib.hid x42; clear x42
  have A_u5_u4 := Lib.hid x43; clear x43
  have hap := trivial
  have HB3 := Lib.hid (HB2.out.grown hg HB2.out.size (fun _ h => by cases h)); clear HB2
  have XP0 := Lib.hid (XP0.out.grown hg)
  clear ho1 ho2 ho3 ho4 ho5 hap hg
  try clear cP0_0
  have cP0_0 : World.cell? (w3) ⟨w.heap.size, 0, none⟩ = some (.int .i64 aT_Land_W) := XP0.out.cell 0
  try clear cP0_1
  have cP0_1 : World.cell? (w3) ⟨w.heap.size, 1, none⟩ = some (.int .i64 aT_Land_H) := XP0.out.cell 1
  try clear cP0_2
  have cP0_2 : World.cell? (w3) ⟨w.heap.size, 2, none⟩ = some (.slice aT_Land_Cells_a aT_Land_Cells_L.length aT_Land_Cells_cap) := XP0.out.cell 2
  try clear cP0_3
  have cP0_3 : World.cell? (w3) ⟨w.heap.size, 3, none⟩ = some (.int .i64 aT_Base) := XP0.out.cell 3
  try clear cP0_4
  have cP0_4 : World.cell? (w3) ⟨w.heap.size, 4, none⟩ = some (.int .i64 aT_Rule_Most) := XP0.out.cell 4
  try clear cP0_5
  have cP0_5 : World.cell? (w3) ⟨w.heap.size, 5, none⟩ = some (.int .i64 aT_Rule_Window) := XP0.out.cell 5
  try clear cP0_6
  have cP0_6 : World.cell? (w3) ⟨w.heap.size, 6, none⟩ = some (.slice aT_Depots_a aT_Depots_L.length aT_Depots_cap) := XP0.out.cell 6
  try clear cP0_7
  have cP0_7 : World.cell? (w3) ⟨w.heap.size, 7, none⟩ = some (.int .i64 aT_Party_At) := XP0.out.cell 7
  try clear cP0_8
  have cP0_8 : World.cell? (w3) ⟨w.heap.size, 8, none⟩ = some (.int .i64 aT_Party_Food) := XP0.out.cell 8
  try clear cP0_9
  have cP0_9 : World.cell? (w3) ⟨w.heap.size, 9, none⟩ = some (.slice aT_Party_Crew_a aT_Party_Crew_L.length aT_Party_Crew_cap) := XP0.out.cell 9
  try clear cP0_10
  have cP0_10 : World.cell? (w3) ⟨w.heap.size, 10, none⟩ = some (.slice aT_Party_Past_a aT_Party_Past_L.length aT_Party_Past_cap) := XP0.out.cell 10
  try clear cP0_11
  have cP0_11 : World.cell? (w3) ⟨w.heap.size, 11, none⟩ = some (.slice aT_Journal_a aT_Journal_L.length aT_Journal_cap) := XP0.out.cell 11
  try clear cP0_12
  have cP0_12 : World.cell? (w3) ⟨w.heap.size, 12, none⟩ = some (.int .i64 aT_Day) := XP0.out.cell 12
  try clear cP0_13
  have cP0_13 : World.cell? (w3) ⟨w.heap.size, 13, none⟩ = some (.int .i64 aT_Given) := XP0.out.cell 13
  try clear cP0_14
  have cP0_14 : World.cell? (w3) ⟨w.heap.size, 14, none⟩ = some (.int .i64 aT_Eaten) := XP0.out.cell 14
  go_wp2_with fail
  refine (Ftk.sTrek_any w3 aT_Land_W aT_Land_H aT_Base aT_Rule_Most aT_Rule_Window aT_Party_At aT_Party_Food aT_Day aT_Given aT_Eaten _ _ _ _ _ aT_Depots_L aT_Journal_L (Ou2.out.sees) (Ou5.out.sees) ⟨aT_Party_Food_H.out, aT_Day_H.out, aT_Given_H.out, aT_Eaten_H.out⟩ (by (try simp only [LawsBo.marksB_len, LawsI.marksI_len, LawsM.marksM_len, LawsP.marksP_len, LawsQ.marksQ_len]); omega) (by (try simp only [LawsBo.marksB_len, LawsI.marksI_len, LawsM.marksM_len, LawsP.marksP_len, LawsQ.marksQ_len]); omega)).mono ?_
  rintro e w4 ⟨rfl, hg⟩
  have HB4 := Lib.hid (HB3.out.grown hg HB3.out.size (fun _ h => by cases h)); clear HB3
  have Ou1 := Lib.hid (Ou1.out.grown hg)
  have Ou2 := Lib.hid (Ou2.out.grown hg)
  have Ou3 := Lib.hid (Ou3.out.grown hg)
  have Ou4 := Lib.hid (Ou4.out.grown hg)
  have Ou5 := Lib.hid (Ou5.out.grown hg)
  have XP0 := Lib.hid (XP0.out.grown hg)
  clear hg
  clear Ou1
  clear Ou2
  clear Ou3
  clear Ou4
  clear Ou5
  try clear cP0_0
  have cP0_0 : World.cell? (w4) ⟨w.heap.size, 0, none⟩ = some (.int .i64 aT_Land_W) := XP0.out.cell 0
  try clear cP0_1
  have cP0_1 : World.cell? (w4) ⟨w.heap.size, 1, none⟩ = some (.int .i64 aT_Land_H) := XP0.out.cell 1
  try clear cP0_2
  have cP0_2 : World.cell? (w4) ⟨w.heap.size, 2, none⟩ = some (.slice aT_Land_Cells_a aT_Land_Cells_L.length aT_Land_Cells_cap) := XP0.out.cell 2
  try clear cP0_3
  have cP0_3 : World.cell? (w4) ⟨w.heap.size, 3, none⟩ = some (.int .i64 aT_Base) := XP0.out.cell 3
  try clear cP0_4
  have cP0_4 : World.cell? (w4) ⟨w.heap.size, 4, none⟩ = some (.int .i64 aT_Rule_Most) := XP0.out.cell 4
  try clear cP0_5
  have cP0_5 : World.cell? (w4) ⟨w.heap.size, 5, none⟩ = some (.int .i64 aT_Rule_Window) := XP0.out.cell 5
  try clear cP0_6
  have cP0_6 : World.cell? (w4) ⟨w.heap.size, 6, none⟩ = some (.slice aT_Depots_a aT_Depots_L.length aT_Depots_cap) := XP0.out.cell 6
  try clear cP0_7
  have cP0_7 : World.cell? (w4) ⟨w.heap.size, 7, none⟩ = some (.int .i64 aT_Party_At) := XP0.out.cell 7
  try clear cP0_8
  have cP0_8 : World.cell? (w4) ⟨w.heap.size, 8, none⟩ = some (.int .i64 aT_Party_Food) := XP0.out.cell 8
  try clear cP0_9
  have cP0_9 : World.cell? (w4) ⟨w.heap.size, 9, none⟩ = some (.slice aT_Party_Crew_a aT_Party_Crew_L.length aT_Party_Crew_cap) := XP0.out.cell 9
  try clear cP0_10
  have cP0_10 : World.cell? (w4) ⟨w.heap.size, 10, none⟩ = some (.slice aT_Party_Past_a aT_Party_Past_L.length aT_Party_Past_cap) := XP0.out.cell 10
  try clear cP0_11
  have cP0_11 : World.cell? (w4) ⟨w.heap.size, 11, none⟩ = some (.slice aT_Journal_a aT_Journal_L.length aT_Journal_cap) := XP0.out.cell 11
  try clear cP0_12
  have cP0_12 : World.cell? (w4) ⟨w.heap.size, 12, none⟩ = some (.int .i64 aT_Day) := XP0.out.cell 12
  try clear cP0_13
  have cP0_13 : World.cell? (w4) ⟨w.heap.size, 13, none⟩ = some (.int .i64 aT_Given) := XP0.out.cell 13
  try clear cP0_14
  have cP0_14 : World.cell? (w4) ⟨w.heap.size, 14, none⟩ = some (.int .i64 aT_Eaten) := XP0.out.cell 14
  go_wp2_with fail
  refine (TrekL.toTrek_any w4 aT_Land_W aT_Land_H aT_Base aT_Rule_Most aT_Rule_Window aT_Party_At aT_Party_Food aT_Day aT_Given aT_Eaten _ _ _ _ _ _ _ _ _ _ (aT_Land_Cells_S.out.below HB4.out) (aT_Depots_S.out.below HB4.out) (aT_Party_Crew_S.out.below HB4.out) (aT_Party_Past_S.out.below HB4.out) (aT_Journal_S.out.below HB4.out) (by omega) (by omega) (by omega) (by omega) (by omega)).mono ?_
  rintro e w5 ⟨u6, u7, u8, u9, u10, rfl, ho1, ho2, ho3, ho4, ho5, hap, hg⟩
  have D_u6_P0 := Lib.hid (ho1.off XP0.out.lt)
  have Ou6 := Lib.hid (ho1.lower HB4.out.size)
  have D_u7_P0 := Lib.hid (ho2.off XP0.out.lt)
  have Ou7 := Lib.hid (ho2.lower HB4.out.size)
  have D_u8_P0 := Lib.hid (ho3.off XP0.out.lt)
  have Ou8 := Lib.hid (ho3.lower HB4.out.size)
  have D_u9_P0 := Lib.hid (ho4.off XP0.out.lt)
  have Ou9 := Lib.hid (ho4.lower HB4.out.size)
  have D_u10_P0 := Lib.hid (ho5.off XP0.out.lt)
  have Ou10 := Lib.hid (ho5.lower HB4.out.size)
  simp only [TrekL.ApN, List.mem_cons, List.not_mem_nil, or_false, forall_eq_or_imp, forall_eq] at hap
  obtain ⟨⟨x43, x42, x41, x40⟩, ⟨x32, x31, x30⟩, ⟨x21, x20⟩, x10, _⟩ := hap
  have A_u7_u6 := Lib.hid x10; clear x10
  have A_u8_u6 := Lib.hid x20; clear x20
  have A_u8_u7 := Lib.hid x21; clear x21
  have A_u9_u6 := Lib.hid x30; clear x30
  have A_u9_u7 := Lib.hid x31; clear x31
  have A_u9_u8 := Lib.hid x32; clear x32
  have A_u10_u6 := Lib.hid x40; clear x40
  have A_u10_u7 := Lib.hid x41; clear x41
  have A_u10_u8 := Lib.hid x42; clear x42
  have A_u10_u9 := Lib.hid x43; clear x43
  have hap := trivial
  have HB5 := Lib.hid (HB4.out.grown hg HB4.out.size (fun _ h => by cases h)); clear HB4
  have XP0 := Lib.hid (XP0.out.grown hg)
  clear ho1 ho2 ho3 ho4 ho5 hap hg
  obtain ⟨u6_a, u6_n, u6_c, hu6, Nu6⟩ := Ou6.out.sees.shape; subst hu6
  obtain ⟨u7_a, u7_n, u7_c, hu7, Nu7⟩ := Ou7.out.sees.shape; subst hu7
  obtain ⟨u8_a, u8_n, u8_c, hu8, Nu8⟩ := Ou8.out.sees.shape; subst hu8
  obtain ⟨u9_a, u9_n, u9_c, hu9, Nu9⟩ := Ou9.out.sees.shape; subst hu9
  obtain ⟨u10_a, u10_n, u10_c, hu10, Nu10⟩ := Ou10.out.sees.shape; subst hu10
  have hgb := World.grownBy_alloc w5 (.cells #[.int .i64 aT_Land_W, .int .i64 aT_Land_H, .slice u6_a u6_n u6_c, .int .i64 aT_Base, .int .i64 aT_Rule_Most, .int .i64 aT_Rule_Window, .slice u7_a u7_n u7_c, .int .i64 aT_Party_At, .int .i64 aT_Party_Food, .slice u8_a u8_n u8_c, .slice u9_a u9_n u9_c, .slice u10_a u10_n u10_c, .int .i64 aT_Day, .int .i64 aT_Given, .int .i64 aT_Eaten] 73 (0, 0)) none
  have D_u6_B11 := Lib.hid (Ou6.out.off' (Nat.le_refl _))
  have D_u7_B11 := Lib.hid (Ou7.out.off' (Nat.le_refl _))
  have D_u8_B11 := Lib.hid (Ou8.out.off' (Nat.le_refl _))
  have D_u9_B11 := Lib.hid (Ou9.out.off' (Nat.le_refl _))
  have D_u10_B11 := Lib.hid (Ou10.out.off' (Nat.le_refl _))
  have HB6 := Lib.hid (HB5.out.grown hgb HB5.out.size (fun _ h => by cases h)); clear HB5
  have Ou6 := Lib.hid (Ou6.out.grown hgb)
  have Ou7 := Lib.hid (Ou7.out.grown hgb)
  have Ou8 := Lib.hid (Ou8.out.grown hgb)
  have Ou9 := Lib.hid (Ou9.out.grown hgb)
  have Ou10 := Lib.hid (Ou10.out.grown hgb)
  have XP0 := Lib.hid (XP0.out.grown hgb)
  have XB11 := Lib.hid (box_new w5 #[.int .i64 aT_Land_W, .int .i64 aT_Land_H, .slice u6_a u6_n u6_c, .int .i64 aT_Base, .int .i64 aT_Rule_Most, .int .i64 aT_Rule_Window, .slice u7_a u7_n u7_c, .int .i64 aT_Party_At, .int .i64 aT_Party_Food, .slice u8_a u8_n u8_c, .slice u9_a u9_n u9_c, .slice u10_a u10_n u10_c, .int .i64 aT_Day, .int .i64 aT_Given, .int .i64 aT_Eaten] 73); clear hgb
  try clear cP0_0
  have cP0_0 : World.cell? (w5.alloc (.cells #[.int .i64 aT_Land_W, .int .i64 aT_Land_H, .slice u6_a u6_n u6_c, .int .i64 aT_Base, .int .i64 aT_Rule_Most, .int .i64 aT_Rule_Window, .slice u7_a u7_n u7_c, .int .i64 aT_Party_At, .int .i64 aT_Party_Food, .slice u8_a u8_n u8_c, .slice u9_a u9_n u9_c, .slice u10_a u10_n u10_c, .int .i64 aT_Day, .int .i64 aT_Given, .int .i64 aT_Eaten] 73 (0, 0))) ⟨w.heap.size, 0, none⟩ = some (.int .i64 aT_Land_W) := XP0.out.cell 0
  try clear cP0_1
  have cP0_1 : World.cell? (w5.alloc (.cells #[.int .i64 aT_Land_W, .int .i64 aT_Land_H, .slice u6_a u6_n u6_c, .int .i64 aT_Base, .int .i64 aT_Rule_Most, .int .i64 aT_Rule_Window, .slice u7_a u7_n u7_c, .int .i64 aT_Party_At, .int .i64 aT_Party_Food, .slice u8_a u8_n u8_c, .slice u9_a u9_n u9_c, .slice u10_a u10_n u10_c, .int .i64 aT_Day, .int .i64 aT_Given, .int .i64 aT_Eaten] 73 (0, 0))) ⟨w.heap.size, 1, none⟩ = some (.int .i64 aT_Land_H) := XP0.out.cell 1
  try clear cP0_2
  have cP0_2 : World.cell? (w5.alloc (.cells #[.int .i64 aT_Land_W, .int .i64 aT_Land_H, .slice u6_a u6_n u6_c, .int .i64 aT_Base, .int .i64 aT_Rule_Most, .int .i64 aT_Rule_Window, .slice u7_a u7_n u7_c, .int .i64 aT_Party_At, .int .i64 aT_Party_Food, .slice u8_a u8_n u8_c, .slice u9_a u9_n u9_c, .slice u10_a u10_n u10_c, .int .i64 aT_Day, .int .i64 aT_Given, .int .i64 aT_Eaten] 73 (0, 0))) ⟨w.heap.size, 2, none⟩ = some (.slice aT_Land_Cells_a aT_Land_Cells_L.length aT_Land_Cells_cap) := XP0.out.cell 2
  try clear cP0_3
  have cP0_3 : World.cell? (w5.alloc (.cells #[.int .i64 aT_Land_W, .int .i64 aT_Land_H, .slice u6_a u6_n u6_c, .int .i64 aT_Base, .int .i64 aT_Rule_Most, .int .i64 aT_Rule_Window, .slice u7_a u7_n u7_c, .int .i64 aT_Party_At, .int .i64 aT_Party_Food, .slice u8_a u8_n u8_c, .slice u9_a u9_n u9_c, .slice u10_a u10_n u10_c, .int .i64 aT_Day, .int .i64 aT_Given, .int .i64 aT_Eaten] 73 (0, 0))) ⟨w.heap.size, 3, none⟩ = some (.int .i64 aT_Base) := XP0.out.cell 3
  try clear cP0_4
  have cP0_4 : World.cell? (w5.alloc (.cells #[.int .i64 aT_Land_W, .int .i64 aT_Land_H, .slice u6_a u6_n u6_c, .int .i64 aT_Base, .int .i64 aT_Rule_Most, .int .i64 aT_Rule_Window, .slice u7_a u7_n u7_c, .int .i64 aT_Party_At, .int .i64 aT_Party_Food, .slice u8_a u8_n u8_c, .slice u9_a u9_n u9_c, .slice u10_a u10_n u10_c, .int .i64 aT_Day, .int .i64 aT_Given, .int .i64 aT_Eaten] 73 (0, 0))) ⟨w.heap.size, 4, none⟩ = some (.int .i64 aT_Rule_Most) := XP0.out.cell 4
  try clear cP0_5
  have cP0_5 : World.cell? (w5.alloc (.cells #[.int .i64 aT_Land_W, .int .i64 aT_Land_H, .slice u6_a u6_n u6_c, .int .i64 aT_Base, .int .i64 aT_Rule_Most, .int .i64 aT_Rule_Window, .slice u7_a u7_n u7_c, .int .i64 aT_Party_At, .int .i64 aT_Party_Food, .slice u8_a u8_n u8_c, .slice u9_a u9_n u9_c, .slice u10_a u10_n u10_c, .int .i64 aT_Day, .int .i64 aT_Given, .int .i64 aT_Eaten] 73 (0, 0))) ⟨w.heap.size, 5, none⟩ = some (.int .i64 aT_Rule_Window) := XP0.out.cell 5
  try clear cP0_6
  have cP0_6 : World.cell? (w5.alloc (.cells #[.int .i64 aT_Land_W, .int .i64 aT_Land_H, .slice u6_a u6_n u6_c, .int .i64 aT_Base, .int .i64 aT_Rule_Most, .int .i64 aT_Rule_Window, .slice u7_a u7_n u7_c, .int .i64 aT_Party_At, .int .i64 aT_Party_Food, .slice u8_a u8_n u8_c, .slice u9_a u9_n u9_c, .slice u10_a u10_n u10_c, .int .i64 aT_Day, .int .i64 aT_Given, .int .i64 aT_Eaten] 73 (0, 0))) ⟨w.heap.size, 6, none⟩ = some (.slice aT_Depots_a aT_Depots_L.length aT_Depots_cap) := XP0.out.cell 6
  try clear cP0_7
  have cP0_7 : World.cell? (w5.alloc (.cells #[.int .i64 aT_Land_W, .int .i64 aT_Land_H, .slice u6_a u6_n u6_c, .int .i64 aT_Base, .int .i64 aT_Rule_Most, .int .i64 aT_Rule_Window, .slice u7_a u7_n u7_c, .int .i64 aT_Party_At, .int .i64 aT_Party_Food, .slice u8_a u8_n u8_c, .slice u9_a u9_n u9_c, .slice u10_a u10_n u10_c, .int .i64 aT_Day, .int .i64 aT_Given, .int .i64 aT_Eaten] 73 (0, 0))) ⟨w.heap.size, 7, none⟩ = some (.int .i64 aT_Party_At) := XP0.out.cell 7
  try clear cP0_8
  have cP0_8 : World.cell? (w5.alloc (.cells #[.int .i64 aT_Land_W, .int .i64 aT_Land_H, .slice u6_a u6_n u6_c, .int .i64 aT_Base, .int .i64 aT_Rule_Most, .int .i64 aT_Rule_Window, .slice u7_a u7_n u7_c, .int .i64 aT_Party_At, .int .i64 aT_Party_Food, .slice u8_a u8_n u8_c, .slice u9_a u9_n u9_c, .slice u10_a u10_n u10_c, .int .i64 aT_Day, .int .i64 aT_Given, .int .i64 aT_Eaten] 73 (0, 0))) ⟨w.heap.size, 8, none⟩ = some (.int .i64 aT_Party_Food) := XP0.out.cell 8
  try clear cP0_9
  have cP0_9 : World.cell? (w5.alloc (.cells #[.int .i64 aT_Land_W, .int .i64 aT_Land_H, .slice u6_a u6_n u6_c, .int .i64 aT_Base, .int .i64 aT_Rule_Most, .int .i64 aT_Rule_Window, .slice u7_a u7_n u7_c, .int .i64 aT_Party_At, .int .i64 aT_Party_Food, .slice u8_a u8_n u8_c, .slice u9_a u9_n u9_c, .slice u10_a u10_n u10_c, .int .i64 aT_Day, .int .i64 aT_Given, .int .i64 aT_Eaten] 73 (0, 0))) ⟨w.heap.size, 9, none⟩ = some (.slice aT_Party_Crew_a aT_Party_Crew_L.length aT_Party_Crew_cap) := XP0.out.cell 9
  try clear cP0_10
  have cP0_10 : World.cell? (w5.alloc (.cells #[.int .i64 aT_Land_W, .int .i64 aT_Land_H, .slice u6_a u6_n u6_c, .int .i64 aT_Base, .int .i64 aT_Rule_Most, .int .i64 aT_Rule_Window, .slice u7_a u7_n u7_c, .int .i64 aT_Party_At, .int .i64 aT_Party_Food, .slice u8_a u8_n u8_c, .slice u9_a u9_n u9_c, .slice u10_a u10_n u10_c, .int .i64 aT_Day, .int .i64 aT_Given, .int .i64 aT_Eaten] 73 (0, 0))) ⟨w.heap.size, 10, none⟩ = some (.slice aT_Party_Past_a aT_Party_Past_L.length aT_Party_Past_cap) := XP0.out.cell 10
  try clear cP0_11
  have cP0_11 : World.cell? (w5.alloc (.cells #[.int .i64 aT_Land_W, .int .i64 aT_Land_H, .slice u6_a u6_n u6_c, .int .i64 aT_Base, .int .i64 aT_Rule_Most, .int .i64 aT_Rule_Window, .slice u7_a u7_n u7_c, .int .i64 aT_Party_At, .int .i64 aT_Party_Food, .slice u8_a u8_n u8_c, .slice u9_a u9_n u9_c, .slice u10_a u10_n u10_c, .int .i64 aT_Day, .int .i64 aT_Given, .int .i64 aT_Eaten] 73 (0, 0))) ⟨w.heap.size, 11, none⟩ = some (.slice aT_Journal_a aT_Journal_L.length aT_Journal_cap) := XP0.out.cell 11
  try clear cP0_12
  have cP0_12 : World.cell? (w5.alloc (.cells #[.int .i64 aT_Land_W, .int .i64 aT_Land_H, .slice u6_a u6_n u6_c, .int .i64 aT_Base, .int .i64 aT_Rule_Most, .int .i64 aT_Rule_Window, .slice u7_a u7_n u7_c, .int .i64 aT_Party_At, .int .i64 aT_Party_Food, .slice u8_a u8_n u8_c, .slice u9_a u9_n u9_c, .slice u10_a u10_n u10_c, .int .i64 aT_Day, .int .i64 aT_Given, .int .i64 aT_Eaten] 73 (0, 0))) ⟨w.heap.size, 12, none⟩ = some (.int .i64 aT_Day) := XP0.out.cell 12
  try clear cP0_13
  have cP0_13 : World.cell? (w5.alloc (.cells #[.int .i64 aT_Land_W, .int .i64 aT_Land_H, .slice u6_a u6_n u6_c, .int .i64 aT_Base, .int .i64 aT_Rule_Most, .int .i64 aT_Rule_Window, .slice u7_a u7_n u7_c, .int .i64 aT_Party_At, .int .i64 aT_Party_Food, .slice u8_a u8_n u8_c, .slice u9_a u9_n u9_c, .slice u10_a u10_n u10_c, .int .i64 aT_Day, .int .i64 aT_Given, .int .i64 aT_Eaten] 73 (0, 0))) ⟨w.heap.size, 13, none⟩ = some (.int .i64 aT_Given) := XP0.out.cell 13
  try clear cP0_14
  have cP0_14 : World.cell? (w5.alloc (.cells #[.int .i64 aT_Land_W, .int .i64 aT_Land_H, .slice u6_a u6_n u6_c, .int .i64 aT_Base, .int .i64 aT_Rule_Most, .int .i64 aT_Rule_Window, .slice u7_a u7_n u7_c, .int .i64 aT_Party_At, .int .i64 aT_Party_Food, .slice u8_a u8_n u8_c, .slice u9_a u9_n u9_c, .slice u10_a u10_n u10_c, .int .i64 aT_Day, .int .i64 aT_Given, .int .i64 aT_Eaten] 73 (0, 0))) ⟨w.heap.size, 14, none⟩ = some (.int .i64 aT_Eaten) := XP0.out.cell 14
  try clear cB11_0
  have cB11_0 : World.cell? (w5.alloc (.cells #[.int .i64 aT_Land_W, .int .i64 aT_Land_H, .slice u6_a u6_n u6_c, .int .i64 aT_Base, .int .i64 aT_Rule_Most, .int .i64 aT_Rule_Window, .slice u7_a u7_n u7_c, .int .i64 aT_Party_At, .int .i64 aT_Party_Food, .slice u8_a u8_n u8_c, .slice u9_a u9_n u9_c, .slice u10_a u10_n u10_c, .int .i64 aT_Day, .int .i64 aT_Given, .int .i64 aT_Eaten] 73 (0, 0))) ⟨w5.heap.size, 0, none⟩ = some (.int .i64 aT_Land_W) := XB11.out.cell 0
  try clear cB11_1
  have cB11_1 : World.cell? (w5.alloc (.cells #[.int .i64 aT_Land_W, .int .i64 aT_Land_H, .slice u6_a u6_n u6_c, .int .i64 aT_Base, .int .i64 aT_Rule_Most, .int .i64 aT_Rule_Window, .slice u7_a u7_n u7_c, .int .i64 aT_Party_At, .int .i64 aT_Party_Food, .slice u8_a u8_n u8_c, .slice u9_a u9_n u9_c, .slice u10_a u10_n u10_c, .int .i64 aT_Day, .int .i64 aT_Given, .int .i64 aT_Eaten] 73 (0, 0))) ⟨w5.heap.size, 1, none⟩ = some (.int .i64 aT_Land_H) := XB11.out.cell 1
  try clear cB11_2
  have cB11_2 : World.cell? (w5.alloc (.cells #[.int .i64 aT_Land_W, .int .i64 aT_Land_H, .slice u6_a u6_n u6_c, .int .i64 aT_Base, .int .i64 aT_Rule_Most, .int .i64 aT_Rule_Window, .slice u7_a u7_n u7_c, .int .i64 aT_Party_At, .int .i64 aT_Party_Food, .slice u8_a u8_n u8_c, .slice u9_a u9_n u9_c, .slice u10_a u10_n u10_c, .int .i64 aT_Day, .int .i64 aT_Given, .int .i64 aT_Eaten] 73 (0, 0))) ⟨w5.heap.size, 2, none⟩ = some (.slice u6_a u6_n u6_c) := XB11.out.cell 2
  try clear cB11_3
  have cB11_3 : World.cell? (w5.alloc (.cells #[.int .i64 aT_Land_W, .int .i64 aT_Land_H, .slice u6_a u6_n u6_c, .int .i64 aT_Base, .int .i64 aT_Rule_Most, .int .i64 aT_Rule_Window, .slice u7_a u7_n u7_c, .int .i64 aT_Party_At, .int .i64 aT_Party_Food, .slice u8_a u8_n u8_c, .slice u9_a u9_n u9_c, .slice u10_a u10_n u10_c, .int .i64 aT_Day, .int .i64 aT_Given, .int .i64 aT_Eaten] 73 (0, 0))) ⟨w5.heap.size, 3, none⟩ = some (.int .i64 aT_Base) := XB11.out.cell 3
  try clear cB11_4
  have cB11_4 : World.cell? (w5.alloc (.cells #[.int .i64 aT_Land_W, .int .i64 aT_Land_H, .slice u6_a u6_n u6_c, .int .i64 aT_Base, .int .i64 aT_Rule_Most, .int .i64 aT_Rule_Window, .slice u7_a u7_n u7_c, .int .i64 aT_Party_At, .int .i64 aT_Party_Food, .slice u8_a u8_n u8_c, .slice u9_a u9_n u9_c, .slice u10_a u10_n u10_c, .int .i64 aT_Day, .int .i64 aT_Given, .int .i64 aT_Eaten] 73 (0, 0))) ⟨w5.heap.size, 4, none⟩ = some (.int .i64 aT_Rule_Most) := XB11.out.cell 4
  try clear cB11_5
  have cB11_5 : World.cell? (w5.alloc (.cells #[.int .i64 aT_Land_W, .int .i64 aT_Land_H, .slice u6_a u6_n u6_c, .int .i64 aT_Base, .int .i64 aT_Rule_Most, .int .i64 aT_Rule_Window, .slice u7_a u7_n u7_c, .int .i64 aT_Party_At, .int .i64 aT_Party_Food, .slice u8_a u8_n u8_c, .slice u9_a u9_n u9_c, .slice u10_a u10_n u10_c, .int .i64 aT_Day, .int .i64 aT_Given, .int .i64 aT_Eaten] 73 (0, 0))) ⟨w5.heap.size, 5, none⟩ = some (.int .i64 aT_Rule_Window) := XB11.out.cell 5
  try clear cB11_6
  have cB11_6 : World.cell? (w5.alloc (.cells #[.int .i64 aT_Land_W, .int .i64 aT_Land_H, .slice u6_a u6_n u6_c, .int .i64 aT_Base, .int .i64 aT_Rule_Most, .int .i64 aT_Rule_Window, .slice u7_a u7_n u7_c, .int .i64 aT_Party_At, .int .i64 aT_Party_Food, .slice u8_a u8_n u8_c, .slice u9_a u9_n u9_c, .slice u10_a u10_n u10_c, .int .i64 aT_Day, .int .i64 aT_Given, .int .i64 aT_Eaten] 73 (0, 0))) ⟨w5.heap.size, 6, none⟩ = some (.slice u7_a u7_n u7_c) := XB11.out.cell 6
  try clear cB11_7
  have cB11_7 : World.cell? (w5.alloc (.cells #[.int .i64 aT_Land_W, .int .i64 aT_Land_H, .slice u6_a u6_n u6_c, .int .i64 aT_Base, .int .i64 aT_Rule_Most, .int .i64 aT_Rule_Window, .slice u7_a u7_n u7_c, .int .i64 aT_Party_At, .int .i64 aT_Party_Food, .slice u8_a u8_n u8_c, .slice u9_a u9_n u9_c, .slice u10_a u10_n u10_c, .int .i64 aT_Day, .int .i64 aT_Given, .int .i64 aT_Eaten] 73 (0, 0))) ⟨w5.heap.size, 7, none⟩ = some (.int .i64 aT_Party_At) := XB11.out.cell 7
  try clear cB11_8
  have cB11_8 : World.cell? (w5.alloc (.cells #[.int .i64 aT_Land_W, .int .i64 aT_Land_H, .slice u6_a u6_n u6_c, .int .i64 aT_Base, .int .i64 aT_Rule_Most, .int .i64 aT_Rule_Window, .slice u7_a u7_n u7_c, .int .i64 aT_Party_At, .int .i64 aT_Party_Food, .slice u8_a u8_n u8_c, .slice u9_a u9_n u9_c, .slice u10_a u10_n u10_c, .int .i64 aT_Day, .int .i64 aT_Given, .int .i64 aT_Eaten] 73 (0, 0))) ⟨w5.heap.size, 8, none⟩ = some (.int .i64 aT_Party_Food) := XB11.out.cell 8
  try clear cB11_9
  have cB11_9 : World.cell? (w5.alloc (.cells #[.int .i64 aT_Land_W, .int .i64 aT_Land_H, .slice u6_a u6_n u6_c, .int .i64 aT_Base, .int .i64 aT_Rule_Most, .int .i64 aT_Rule_Window, .slice u7_a u7_n u7_c, .int .i64 aT_Party_At, .int .i64 aT_Party_Food, .slice u8_a u8_n u8_c, .slice u9_a u9_n u9_c, .slice u10_a u10_n u10_c, .int .i64 aT_Day, .int .i64 aT_Given, .int .i64 aT_Eaten] 73 (0, 0))) ⟨w5.heap.size, 9, none⟩ = some (.slice u8_a u8_n u8_c) := XB11.out.cell 9
  try clear cB11_10
  have cB11_10 : World.cell? (w5.alloc (.cells #[.int .i64 aT_Land_W, .int .i64 aT_Land_H, .slice u6_a u6_n u6_c, .int .i64 aT_Base, .int .i64 aT_Rule_Most, .int .i64 aT_Rule_Window, .slice u7_a u7_n u7_c, .int .i64 aT_Party_At, .int .i64 aT_Party_Food, .slice u8_a u8_n u8_c, .slice u9_a u9_n u9_c, .slice u10_a u10_n u10_c, .int .i64 aT_Day, .int .i64 aT_Given, .int .i64 aT_Eaten] 73 (0, 0))) ⟨w5.heap.size, 10, none⟩ = some (.slice u9_a u9_n u9_c) := XB11.out.cell 10
  try clear cB11_11
  have cB11_11 : World.cell? (w5.alloc (.cells #[.int .i64 aT_Land_W, .int .i64 aT_Land_H, .slice u6_a u6_n u6_c, .int .i64 aT_Base, .int .i64 aT_Rule_Most, .int .i64 aT_Rule_Window, .slice u7_a u7_n u7_c, .int .i64 aT_Party_At, .int .i64 aT_Party_Food, .slice u8_a u8_n u8_c, .slice u9_a u9_n u9_c, .slice u10_a u10_n u10_c, .int .i64 aT_Day, .int .i64 aT_Given, .int .i64 aT_Eaten] 73 (0, 0))) ⟨w5.heap.size, 11, none⟩ = some (.slice u10_a u10_n u10_c) := XB11.out.cell 11
  try clear cB11_12
  have cB11_12 : World.cell? (w5.alloc (.cells #[.int .i64 aT_Land_W, .int .i64 aT_Land_H, .slice u6_a u6_n u6_c, .int .i64 aT_Base, .int .i64 aT_Rule_Most, .int .i64 aT_Rule_Window, .slice u7_a u7_n u7_c, .int .i64 aT_Party_At, .int .i64 aT_Party_Food, .slice u8_a u8_n u8_c, .slice u9_a u9_n u9_c, .slice u10_a u10_n u10_c, .int .i64 aT_Day, .int .i64 aT_Given, .int .i64 aT_Eaten] 73 (0, 0))) ⟨w5.heap.size, 12, none⟩ = some (.int .i64 aT_Day) := XB11.out.cell 12
  try clear cB11_13
  have cB11_13 : World.cell? (w5.alloc (.cells #[.int .i64 aT_Land_W, .int .i64 aT_Land_H, .slice u6_a u6_n u6_c, .int .i64 aT_Base, .int .i64 aT_Rule_Most, .int .i64 aT_Rule_Window, .slice u7_a u7_n u7_c, .int .i64 aT_Party_At, .int .i64 aT_Party_Food, .slice u8_a u8_n u8_c, .slice u9_a u9_n u9_c, .slice u10_a u10_n u10_c, .int .i64 aT_Day, .int .i64 aT_Given, .int .i64 aT_Eaten] 73 (0, 0))) ⟨w5.heap.size, 13, none⟩ = some (.int .i64 aT_Given) := XB11.out.cell 13
  try clear cB11_14
  have cB11_14 : World.cell? (w5.alloc (.cells #[.int .i64 aT_Land_W, .int .i64 aT_Land_H, .slice u6_a u6_n u6_c, .int .i64 aT_Base, .int .i64 aT_Rule_Most, .int .i64 aT_Rule_Window, .slice u7_a u7_n u7_c, .int .i64 aT_Party_At, .int .i64 aT_Party_Food, .slice u8_a u8_n u8_c, .slice u9_a u9_n u9_c, .slice u10_a u10_n u10_c, .int .i64 aT_Day, .int .i64 aT_Given, .int .i64 aT_Eaten] 73 (0, 0))) ⟨w5.heap.size, 14, none⟩ = some (.int .i64 aT_Eaten) := XB11.out.cell 14
  go_wp2_with fail
  generalize w5.alloc (.cells #[.int .i64 aT_Land_W, .int .i64 aT_Land_H, .slice u6_a u6_n u6_c, .int .i64 aT_Base, .int .i64 aT_Rule_Most, .int .i64 aT_Rule_Window, .slice u7_a u7_n u7_c, .int .i64 aT_Party_At, .int .i64 aT_Party_Food, .slice u8_a u8_n u8_c, .slice u9_a u9_n u9_c, .slice u10_a u10_n u10_c, .int .i64 aT_Day, .int .i64 aT_Given, .int .i64 aT_Eaten] 73 (0, 0)) = w6 at *
  refine (Ftk.iTrek_any w6 aT_Land_W aT_Land_H aT_Base aT_Rule_Most aT_Rule_Window aT_Party_At aT_Party_Food aT_Day aT_Given aT_Eaten _ _ _ _ _ aT_Depots_L aT_Journal_L (Ou7.out.sees) (Ou10.out.sees) ⟨aT_Party_Food_H.out, aT_Day_H.out, aT_Given_H.out, aT_Eaten_H.out⟩ (by (try simp only [LawsBo.marksB_len, LawsI.marksI_len, LawsM.marksM_len, LawsP.marksP_len, LawsQ.marksQ_len]); omega) (by (try simp only [LawsBo.marksB_len, LawsI.marksI_len, LawsM.marksM_len, LawsP.marksP_len, LawsQ.marksQ_len]); omega) (HTB.out.below HB6.out (Nat.le_refl _))).mono ?_
  rintro e w7 ⟨rfl, hg⟩
  have HB7 := Lib.hid (HB6.out.grown hg HB6.out.size (fun _ h => by cases h)); clear HB6
  have Ou6 := Lib.hid (Ou6.out.grown hg)
  have Ou7 := Lib.hid (Ou7.out.grown hg)
  have Ou8 := Lib.hid (Ou8.out.grown hg)
  have Ou9 := Lib.hid (Ou9.out.grown hg)
  have Ou10 := Lib.hid (Ou10.out.grown hg)
  have XP0 := Lib.hid (XP0.out.grown hg)
  have XB11 := Lib.hid (XB11.out.grown hg)
  clear hg
  try clear cP0_0
  have cP0_0 : World.cell? (w7) ⟨w.heap.size, 0, none⟩ = some (.int .i64 aT_Land_W) := XP0.out.cell 0
  try clear cP0_1
  have cP0_1 : World.cell? (w7) ⟨w.heap.size, 1, none⟩ = some (.int .i64 aT_Land_H) := XP0.out.cell 1
  try clear cP0_2
  have cP0_2 : World.cell? (w7) ⟨w.heap.size, 2, none⟩ = some (.slice aT_Land_Cells_a aT_Land_Cells_L.length aT_Land_Cells_cap) := XP0.out.cell 2
  try clear cP0_3
  have cP0_3 : World.cell? (w7) ⟨w.heap.size, 3, none⟩ = some (.int .i64 aT_Base) := XP0.out.cell 3
  try clear cP0_4
  have cP0_4 : World.cell? (w7) ⟨w.heap.size, 4, none⟩ = some (.int .i64 aT_Rule_Most) := XP0.out.cell 4
  try clear cP0_5
  have cP0_5 : World.cell? (w7) ⟨w.heap.size, 5, none⟩ = some (.int .i64 aT_Rule_Window) := XP0.out.cell 5
  try clear cP0_6
  have cP0_6 : World.cell? (w7) ⟨w.heap.size, 6, none⟩ = some (.slice aT_Depots_a aT_Depots_L.length aT_Depots_cap) := XP0.out.cell 6
  try clear cP0_7
  have cP0_7 : World.cell? (w7) ⟨w.heap.size, 7, none⟩ = some (.int .i64 aT_Party_At) := XP0.out.cell 7
  try clear cP0_8
  have cP0_8 : World.cell? (w7) ⟨w.heap.size, 8, none⟩ = some (.int .i64 aT_Party_Food) := XP0.out.cell 8
  try clear cP0_9
  have cP0_9 : World.cell? (w7) ⟨w.heap.size, 9, none⟩ = some (.slice aT_Party_Crew_a aT_Party_Crew_L.length aT_Party_Crew_cap) := XP0.out.cell 9
  try clear cP0_10
  have cP0_10 : World.cell? (w7) ⟨w.heap.size, 10, none⟩ = some (.slice aT_Party_Past_a aT_Party_Past_L.length aT_Party_Past_cap) := XP0.out.cell 10
  try clear cP0_11
  have cP0_11 : World.cell? (w7) ⟨w.heap.size, 11, none⟩ = some (.slice aT_Journal_a aT_Journal_L.length aT_Journal_cap) := XP0.out.cell 11
  try clear cP0_12
  have cP0_12 : World.cell? (w7) ⟨w.heap.size, 12, none⟩ = some (.int .i64 aT_Day) := XP0.out.cell 12
  try clear cP0_13
  have cP0_13 : World.cell? (w7) ⟨w.heap.size, 13, none⟩ = some (.int .i64 aT_Given) := XP0.out.cell 13
  try clear cP0_14
  have cP0_14 : World.cell? (w7) ⟨w.heap.size, 14, none⟩ = some (.int .i64 aT_Eaten) := XP0.out.cell 14
  try clear cB11_0
  have cB11_0 : World.cell? (w7) ⟨w5.heap.size, 0, none⟩ = some (.int .i64 aT_Land_W) := XB11.out.cell 0
  try clear cB11_1
  have cB11_1 : World.cell? (w7) ⟨w5.heap.size, 1, none⟩ = some (.int .i64 aT_Land_H) := XB11.out.cell 1
  try clear cB11_2
  have cB11_2 : World.cell? (w7) ⟨w5.heap.size, 2, none⟩ = some (.slice u6_a u6_n u6_c) := XB11.out.cell 2
  try clear cB11_3
  have cB11_3 : World.cell? (w7) ⟨w5.heap.size, 3, none⟩ = some (.int .i64 aT_Base) := XB11.out.cell 3
  try clear cB11_4
  have cB11_4 : World.cell? (w7) ⟨w5.heap.size, 4, none⟩ = some (.int .i64 aT_Rule_Most) := XB11.out.cell 4
  try clear cB11_5
  have cB11_5 : World.cell? (w7) ⟨w5.heap.size, 5, none⟩ = some (.int .i64 aT_Rule_Window) := XB11.out.cell 5
  try clear cB11_6
  have cB11_6 : World.cell? (w7) ⟨w5.heap.size, 6, none⟩ = some (.slice u7_a u7_n u7_c) := XB11.out.cell 6
  try clear cB11_7
  have cB11_7 : World.cell? (w7) ⟨w5.heap.size, 7, none⟩ = some (.int .i64 aT_Party_At) := XB11.out.cell 7
  try clear cB11_8
  have cB11_8 : World.cell? (w7) ⟨w5.heap.size, 8, none⟩ = some (.int .i64 aT_Party_Food) := XB11.out.cell 8
  try clear cB11_9
  have cB11_9 : World.cell? (w7) ⟨w5.heap.size, 9, none⟩ = some (.slice u8_a u8_n u8_c) := XB11.out.cell 9
  try clear cB11_10
  have cB11_10 : World.cell? (w7) ⟨w5.heap.size, 10, none⟩ = some (.slice u9_a u9_n u9_c) := XB11.out.cell 10
  try clear cB11_11
  have cB11_11 : World.cell? (w7) ⟨w5.heap.size, 11, none⟩ = some (.slice u10_a u10_n u10_c) := XB11.out.cell 11
  try clear cB11_12
  have cB11_12 : World.cell? (w7) ⟨w5.heap.size, 12, none⟩ = some (.int .i64 aT_Day) := XB11.out.cell 12
  try clear cB11_13
  have cB11_13 : World.cell? (w7) ⟨w5.heap.size, 13, none⟩ = some (.int .i64 aT_Given) := XB11.out.cell 13
  try clear cB11_14
  have cB11_14 : World.cell? (w7) ⟨w5.heap.size, 14, none⟩ = some (.int .i64 aT_Eaten) := XB11.out.cell 14
  go_wp2_with fail
  have hgd := grown_drew (World.grownBy.refl w7 none)
  have HB8 := Lib.hid (HB7.out.grown hgd HB7.out.size (fun _ h => by cases h)); clear HB7
  have Ou6 := Lib.hid (Ou6.out.grown hgd)
  have Ou7 := Lib.hid (Ou7.out.grown hgd)
  have Ou8 := Lib.hid (Ou8.out.grown hgd)
  have Ou9 := Lib.hid (Ou9.out.grown hgd)
  have Ou10 := Lib.hid (Ou10.out.grown hgd)
  have XP0 := Lib.hid (XP0.out.grown hgd)
  have XB11 := Lib.hid (XB11.out.grown hgd)
  clear hgd
  try clear cB11_0
  have cB11_0 : World.cell? ((World.drew w7)) ⟨w5.heap.size, 0, none⟩ = some (.int .i64 aT_Land_W) := XB11.out.cell 0
  try clear cB11_1
  have cB11_1 : World.cell? ((World.drew w7)) ⟨w5.heap.size, 1, none⟩ = some (.int .i64 aT_Land_H) := XB11.out.cell 1
  try clear cB11_2
  have cB11_2 : World.cell? ((World.drew w7)) ⟨w5.heap.size, 2, none⟩ = some (.slice u6_a u6_n u6_c) := XB11.out.cell 2
  try clear cB11_3
  have cB11_3 : World.cell? ((World.drew w7)) ⟨w5.heap.size, 3, none⟩ = some (.int .i64 aT_Base) := XB11.out.cell 3
  try clear cB11_4
  have cB11_4 : World.cell? ((World.drew w7)) ⟨w5.heap.size, 4, none⟩ = some (.int .i64 aT_Rule_Most) := XB11.out.cell 4
  try clear cB11_5
  have cB11_5 : World.cell? ((World.drew w7)) ⟨w5.heap.size, 5, none⟩ = some (.int .i64 aT_Rule_Window) := XB11.out.cell 5
  try clear cB11_6
  have cB11_6 : World.cell? ((World.drew w7)) ⟨w5.heap.size, 6, none⟩ = some (.slice u7_a u7_n u7_c) := XB11.out.cell 6
  try clear cB11_7
  have cB11_7 : World.cell? ((World.drew w7)) ⟨w5.heap.size, 7, none⟩ = some (.int .i64 aT_Party_At) := XB11.out.cell 7
  try clear cB11_8
  have cB11_8 : World.cell? ((World.drew w7)) ⟨w5.heap.size, 8, none⟩ = some (.int .i64 aT_Party_Food) := XB11.out.cell 8
  try clear cB11_9
  have cB11_9 : World.cell? ((World.drew w7)) ⟨w5.heap.size, 9, none⟩ = some (.slice u8_a u8_n u8_c) := XB11.out.cell 9
  try clear cB11_10
  have cB11_10 : World.cell? ((World.drew w7)) ⟨w5.heap.size, 10, none⟩ = some (.slice u9_a u9_n u9_c) := XB11.out.cell 10
  try clear cB11_11
  have cB11_11 : World.cell? ((World.drew w7)) ⟨w5.heap.size, 11, none⟩ = some (.slice u10_a u10_n u10_c) := XB11.out.cell 11
  try clear cB11_12
  have cB11_12 : World.cell? ((World.drew w7)) ⟨w5.heap.size, 12, none⟩ = some (.int .i64 aT_Day) := XB11.out.cell 12
  try clear cB11_13
  have cB11_13 : World.cell? ((World.drew w7)) ⟨w5.heap.size, 13, none⟩ = some (.int .i64 aT_Given) := XB11.out.cell 13
  try clear cB11_14
  have cB11_14 : World.cell? ((World.drew w7)) ⟨w5.heap.size, 14, none⟩ = some (.int .i64 aT_Eaten) := XB11.out.cell 14
  try clear cP0_0
  have cP0_0 : World.cell? ((World.drew w7)) ⟨w.heap.size, 0, none⟩ = some (.int .i64 aT_Land_W) := XP0.out.cell 0
  try clear cP0_1
  have cP0_1 : World.cell? ((World.drew w7)) ⟨w.heap.size, 1, none⟩ = some (.int .i64 aT_Land_H) := XP0.out.cell 1
  try clear cP0_2
  have cP0_2 : World.cell? ((World.drew w7)) ⟨w.heap.size, 2, none⟩ = some (.slice aT_Land_Cells_a aT_Land_Cells_L.length aT_Land_Cells_cap) := XP0.out.cell 2
  try clear cP0_3
  have cP0_3 : World.cell? ((World.drew w7)) ⟨w.heap.size, 3, none⟩ = some (.int .i64 aT_Base) := XP0.out.cell 3
  try clear cP0_4
  have cP0_4 : World.cell? ((World.drew w7)) ⟨w.heap.size, 4, none⟩ = some (.int .i64 aT_Rule_Most) := XP0.out.cell 4
  try clear cP0_5
  have cP0_5 : World.cell? ((World.drew w7)) ⟨w.heap.size, 5, none⟩ = some (.int .i64 aT_Rule_Window) := XP0.out.cell 5
  try clear cP0_6
  have cP0_6 : World.cell? ((World.drew w7)) ⟨w.heap.size, 6, none⟩ = some (.slice aT_Depots_a aT_Depots_L.length aT_Depots_cap) := XP0.out.cell 6
  try clear cP0_7
  have cP0_7 : World.cell? ((World.drew w7)) ⟨w.heap.size, 7, none⟩ = some (.int .i64 aT_Party_At) := XP0.out.cell 7
  try clear cP0_8
  have cP0_8 : World.cell? ((World.drew w7)) ⟨w.heap.size, 8, none⟩ = some (.int .i64 aT_Party_Food) := XP0.out.cell 8
  try clear cP0_9
  have cP0_9 : World.cell? ((World.drew w7)) ⟨w.heap.size, 9, none⟩ = some (.slice aT_Party_Crew_a aT_Party_Crew_L.length aT_Party_Crew_cap) := XP0.out.cell 9
  try clear cP0_10
  have cP0_10 : World.cell? ((World.drew w7)) ⟨w.heap.size, 10, none⟩ = some (.slice aT_Party_Past_a aT_Party_Past_L.length aT_Party_Past_cap) := XP0.out.cell 10
  try clear cP0_11
  have cP0_11 : World.cell? ((World.drew w7)) ⟨w.heap.size, 11, none⟩ = some (.slice aT_Journal_a aT_Journal_L.length aT_Journal_cap) := XP0.out.cell 11
  try clear cP0_12
  have cP0_12 : World.cell? ((World.drew w7)) ⟨w.heap.size, 12, none⟩ = some (.int .i64 aT_Day) := XP0.out.cell 12
  try clear cP0_13
  have cP0_13 : World.cell? ((World.drew w7)) ⟨w.heap.size, 13, none⟩ = some (.int .i64 aT_Given) := XP0.out.cell 13
  try clear cP0_14
  have cP0_14 : World.cell? ((World.drew w7)) ⟨w.heap.size, 14, none⟩ = some (.int .i64 aT_Eaten) := XP0.out.cell 14
  refine wp_region_held_drew (S := fun w' => w'.cell? ⟨w5.heap.size, 0, none⟩ = some (.int .i64 aT_Land_W) ∧ w'.cell? ⟨w5.heap.size, 1, none⟩ = some (.int .i64 aT_Land_H) ∧ w'.cell? ⟨w5.heap.size, 2, none⟩ = some (.slice u6_a u6_n u6_c) ∧ w'.cell? ⟨w5.heap.size, 3, none⟩ = some (.int .i64 aT_Base) ∧ w'.cell? ⟨w5.heap.size, 4, none⟩ = some (.int .i64 aT_Rule_Most) ∧ w'.cell? ⟨w5.heap.size, 5, none⟩ = some (.int .i64 aT_Rule_Window) ∧ w'.cell? ⟨w5.heap.size, 6, none⟩ = some (.slice u7_a u7_n u7_c) ∧ w'.cell? ⟨w5.heap.size, 7, none⟩ = some (.int .i64 aT_Party_At) ∧ w'.cell? ⟨w5.heap.size, 8, none⟩ = some (.int .i64 aT_Party_Food) ∧ w'.cell? ⟨w5.heap.size, 9, none⟩ = some (.slice u8_a u8_n u8_c) ∧ w'.cell? ⟨w5.heap.size, 10, none⟩ = some (.slice u9_a u9_n u9_c) ∧ w'.cell? ⟨w5.heap.size, 11, none⟩ = some (.slice u10_a u10_n u10_c) ∧ w'.cell? ⟨w5.heap.size, 12, none⟩ = some (.int .i64 aT_Day) ∧ w'.cell? ⟨w5.heap.size, 13, none⟩ = some (.int .i64 aT_Given) ∧ w'.cell? ⟨w5.heap.size, 14, none⟩ = some (.int .i64 aT_Eaten) ∧ w'.cell? ⟨w.heap.size, 0, none⟩ = some (.int .i64 aT_Land_W) ∧ w'.cell? ⟨w.heap.size, 1, none⟩ = some (.int .i64 aT_Land_H) ∧ w'.cell? ⟨w.heap.size, 2, none⟩ = some (.slice aT_Land_Cells_a aT_Land_Cells_L.length aT_Land_Cells_cap) ∧ w'.cell? ⟨w.heap.size, 3, none⟩ = some (.int .i64 aT_Base) ∧ w'.cell? ⟨w.heap.size, 4, none⟩ = some (.int .i64 aT_Rule_Most) ∧ w'.cell? ⟨w.heap.size, 5, none⟩ = some (.int .i64 aT_Rule_Window) ∧ w'.cell? ⟨w.heap.size, 6, none⟩ = some (.slice aT_Depots_a aT_Depots_L.length aT_Depots_cap) ∧ w'.cell? ⟨w.heap.size, 7, none⟩ = some (.int .i64 aT_Party_At) ∧ w'.cell? ⟨w.heap.size, 8, none⟩ = some (.int .i64 aT_Party_Food) ∧ w'.cell? ⟨w.heap.size, 9, none⟩ = some (.slice aT_Party_Crew_a aT_Party_Crew_L.length aT_Party_Crew_cap) ∧ w'.cell? ⟨w.heap.size, 10, none⟩ = some (.slice aT_Party_Past_a aT_Party_Past_L.length aT_Party_Past_cap) ∧ w'.cell? ⟨w.heap.size, 11, none⟩ = some (.slice aT_Journal_a aT_Journal_L.length aT_Journal_cap) ∧ w'.cell? ⟨w.heap.size, 12, none⟩ = some (.int .i64 aT_Day) ∧ w'.cell? ⟨w.heap.size, 13, none⟩ = some (.int .i64 aT_Given) ∧ w'.cell? ⟨w.heap.size, 14, none⟩ = some (.int .i64 aT_Eaten)) (by kernel_rfl) ⟨cB11_0, cB11_1, cB11_2, cB11_3, cB11_4, cB11_5, cB11_6, cB11_7, cB11_8, cB11_9, cB11_10, cB11_11, cB11_12, cB11_13, cB11_14, cP0_0, cP0_1, cP0_2, cP0_3, cP0_4, cP0_5, cP0_6, cP0_7, cP0_8, cP0_9, cP0_10, cP0_11, cP0_12, cP0_13, cP0_14⟩ (fun hHeld => ?_)
  refine wpAnyH_take (i := 0) (v := ?_) rfl (by kernel_rfl) (by kernel_rfl) (by kernel_rfl) (fun _ _ _ h => h) (Or.inl ⟨by rfl, ?_⟩) (by assumption) ?_; rotate_left; (focus (intro wS hSw; (try dsimp only at hSw); go_simp <;> with_reducible rfl)); (try simp only [Act.put, List.getElem_toArray, List.getElem_cons_succ, List.getElem_cons_zero, List.setIfInBounds_toArray, List.set_cons_zero, List.set_cons_succ])
  refine wpAnyH_take (i := 1) (v := ?_) rfl (by kernel_rfl) (by kernel_rfl) (by kernel_rfl) (fun _ _ _ h => h) (Or.inl ⟨by rfl, ?_⟩) (by assumption) ?_; rotate_left; (focus (intro wS hSw; (try dsimp only at hSw); go_simp <;> with_reducible rfl)); (try simp only [Act.put, List.getElem_toArray, List.getElem_cons_succ, List.getElem_cons_zero, List.setIfInBounds_toArray, List.set_cons_zero, List.set_cons_succ])
  refine wpAnyH_ready (rs := [2]) (by kernel_rfl) (by simp) ?_; refine AllReadyH.cons rfl (fun K hK => ?_) AllReadyH.nil; go_simp; (go_at_call 46; refine (TrekL.toTrek_any (World.drew w7) aT_Land_W aT_Land_H aT_Base aT_Rule_Most aT_Rule_Window aT_Party_At aT_Party_Food aT_Day aT_Given aT_Eaten _ _ _ _ _ _ _ _ _ _ (aT_Land_Cells_S.out.below HB8.out) (aT_Depots_S.out.below HB8.out) (aT_Party_Crew_S.out.below HB8.out) (aT_Party_Past_S.out.below HB8.out) (aT_Journal_S.out.below HB8.out) (by omega) (by omega) (by omega) (by omega) (by omega)).mono ?_; rintro e w9 ⟨u12, u13, u14, u15, u16, rfl, ho1, ho2, ho3, ho4, ho5, hap, hg⟩; have A_u12_u6 := Lib.hid (Rg.apart_lt ho1.lt Ou6.out.lt (Nat.le_refl _)); have A_u12_u7 := Lib.hid (Rg.apart_lt ho1.lt Ou7.out.lt (Nat.le_refl _)); have A_u12_u8 := Lib.hid (Rg.apart_lt ho1.lt Ou8.out.lt (Nat.le_refl _)); have A_u12_u9 := Lib.hid (Rg.apart_lt ho1.lt Ou9.out.lt (Nat.le_refl _)); have A_u12_u10 := Lib.hid (Rg.apart_lt ho1.lt Ou10.out.lt (Nat.le_refl _)); have D_u12_P0 := Lib.hid (ho1.off XP0.out.lt); have D_u12_B11 := Lib.hid (ho1.off XB11.out.lt); have Ou12 := Lib.hid (ho1.lower HB8.out.size); have A_u13_u6 := Lib.hid (Rg.apart_lt ho2.lt Ou6.out.lt (Nat.le_refl _)); have A_u13_u7 := Lib.hid (Rg.apart_lt ho2.lt Ou7.out.lt (Nat.le_refl _)); have A_u13_u8 := Lib.hid (Rg.apart_lt ho2.lt Ou8.out.lt (Nat.le_refl _)); have A_u13_u9 := Lib.hid (Rg.apart_lt ho2.lt Ou9.out.lt (Nat.le_refl _)); have A_u13_u10 := Lib.hid (Rg.apart_lt ho2.lt Ou10.out.lt (Nat.le_refl _)); have D_u13_P0 := Lib.hid (ho2.off XP0.out.lt); have D_u13_B11 := Lib.hid (ho2.off XB11.out.lt); have Ou13 := Lib.hid (ho2.lower HB8.out.size); have A_u14_u6 := Lib.hid (Rg.apart_lt ho3.lt Ou6.out.lt (Nat.le_refl _)); have A_u14_u7 := Lib.hid (Rg.apart_lt ho3.lt Ou7.out.lt (Nat.le_refl _)); have A_u14_u8 := Lib.hid (Rg.apart_lt ho3.lt Ou8.out.lt (Nat.le_refl _)); have A_u14_u9 := Lib.hid (Rg.apart_lt ho3.lt Ou9.out.lt (Nat.le_refl _)); have A_u14_u10 := Lib.hid (Rg.apart_lt ho3.lt Ou10.out.lt (Nat.le_refl _)); have D_u14_P0 := Lib.hid (ho3.off XP0.out.lt); have D_u14_B11 := Lib.hid (ho3.off XB11.out.lt); have Ou14 := Lib.hid (ho3.lower HB8.out.size); have A_u15_u6 := Lib.hid (Rg.apart_lt ho4.lt Ou6.out.lt (Nat.le_refl _)); have A_u15_u7 := Lib.hid (Rg.apart_lt ho4.lt Ou7.out.lt (Nat.le_refl _)); have A_u15_u8 := Lib.hid (Rg.apart_lt ho4.lt Ou8.out.lt (Nat.le_refl _)); have A_u15_u9 := Lib.hid (Rg.apart_lt ho4.lt Ou9.out.lt (Nat.le_refl _)); have A_u15_u10 := Lib.hid (Rg.apart_lt ho4.lt Ou10.out.lt (Nat.le_refl _)); have D_u15_P0 := Lib.hid (ho4.off XP0.out.lt); have D_u15_B11 := Lib.hid (ho4.off XB11.out.lt); have Ou15 := Lib.hid (ho4.lower HB8.out.size); have A_u16_u6 := Lib.hid (Rg.apart_lt ho5.lt Ou6.out.lt (Nat.le_refl _)); have A_u16_u7 := Lib.hid (Rg.apart_lt ho5.lt Ou7.out.lt (Nat.le_refl _)); have A_u16_u8 := Lib.hid (Rg.apart_lt ho5.lt Ou8.out.lt (Nat.le_refl _)); have A_u16_u9 := Lib.hid (Rg.apart_lt ho5.lt Ou9.out.lt (Nat.le_refl _)); have A_u16_u10 := Lib.hid (Rg.apart_lt ho5.lt Ou10.out.lt (Nat.le_refl _)); have D_u16_P0 := Lib.hid (ho5.off XP0.out.lt); have D_u16_B11 := Lib.hid (ho5.off XB11.out.lt); have Ou16 := Lib.hid (ho5.lower HB8.out.size); simp only [TrekL.ApN, List.mem_cons, List.not_mem_nil, or_false, forall_eq_or_imp, forall_eq] at hap; obtain ⟨⟨x43, x42, x41, x40⟩, ⟨x32, x31, x30⟩, ⟨x21, x20⟩, x10, _⟩ := hap; have A_u13_u12 := Lib.hid x10; clear x10; have A_u14_u12 := Lib.hid x20; clear x20; have A_u14_u13 := Lib.hid x21; clear x21; have A_u15_u12 := Lib.hid x30; clear x30; have A_u15_u13 := Lib.hid x31; clear x31; have A_u15_u14 := Lib.hid x32; clear x32; have A_u16_u12 := Lib.hid x40; clear x40; have A_u16_u13 := Lib.hid x41; clear x41; have A_u16_u14 := Lib.hid x42; clear x42; have A_u16_u15 := Lib.hid x43; clear x43; have hap := trivial; have HB9 := Lib.hid (HB8.out.grown hg HB8.out.size (fun _ h => by cases h)); clear HB8; have Ou6 := Lib.hid (Ou6.out.grown hg); have Ou7 := Lib.hid (Ou7.out.grown hg); have Ou8 := Lib.hid (Ou8.out.grown hg); have Ou9 := Lib.hid (Ou9.out.grown hg); have Ou10 := Lib.hid (Ou10.out.grown hg); have XP0 := Lib.hid (XP0.out.grown hg); have XB11 := Lib.hid (XB11.out.grown hg); clear ho1 ho2 ho3 ho4 ho5 hap hg)
  refine hK.out _ _ ?_ (fun hHeld => ?_)
  · exact ⟨XB11.out.cell 0, XB11.out.cell 1, XB11.out.cell 2, XB11.out.cell 3, XB11.out.cell 4, XB11.out.cell 5, XB11.out.cell 6, XB11.out.cell 7, XB11.out.cell 8, XB11.out.cell 9, XB11.out.cell 10, XB11.out.cell 11, XB11.out.cell 12, XB11.out.cell 13, XB11.out.cell 14, XP0.out.cell 0, XP0.out.cell 1, XP0.out.cell 2, XP0.out.cell 3, XP0.out.cell 4, XP0.out.cell 5, XP0.out.cell 6, XP0.out.cell 7, XP0.out.cell 8, XP0.out.cell 9, XP0.out.cell 10, XP0.out.cell 11, XP0.out.cell 12, XP0.out.cell 13, XP0.out.cell 14⟩
  clear hK K
  (try simp only [Act.put, List.getElem_toArray, List.getElem_cons_succ, List.getElem_cons_zero, List.setIfInBounds_toArray, List.set_cons_zero, List.set_cons_succ])
  refine wpAnyH_ready (rs := [3]) (by kernel_rfl) (by simp) ?_; refine AllReadyH.cons rfl (fun K hK => ?_) AllReadyH.nil; go_simp; (go_at_call 48; refine (TrekL.eqTrek_same w9 aT_Land_W aT_Land_H aT_Base aT_Rule_Most aT_Rule_Window aT_Party_At aT_Party_Food aT_Day aT_Given aT_Eaten _ _ _ _ _ _ _ _ _ _ _ _ _ _ _ (Ou6.out.sees) (Ou7.out.sees) (Ou8.out.sees) (Ou9.out.sees) (Ou10.out.sees) (Ou12.out.sees) (Ou13.out.sees) (Ou14.out.sees) (Ou15.out.sees) (Ou16.out.sees)).mono ?_; rintro e w10 ⟨rfl, hg⟩; have HB10 := Lib.hid (HB9.out.grown hg HB9.out.size (fun _ h => by cases h)); clear HB9; have Ou6 := Lib.hid (Ou6.out.grown hg); have Ou7 := Lib.hid (Ou7.out.grown hg); have Ou8 := Lib.hid (Ou8.out.grown hg); have Ou9 := Lib.hid (Ou9.out.grown hg); have Ou10 := Lib.hid (Ou10.out.grown hg); have Ou12 := Lib.hid (Ou12.out.grown hg); have Ou13 := Lib.hid (Ou13.out.grown hg); have Ou14 := Lib.hid (Ou14.out.grown hg); have Ou15 := Lib.hid (Ou15.out.grown hg); have Ou16 := Lib.hid (Ou16.out.grown hg); have XP0 := Lib.hid (XP0.out.grown hg); have XB11 := Lib.hid (XB11.out.grown hg); clear hg)
  refine hK.out _ _ ?_ (fun hHeld => ?_)
  · exact ⟨XB11.out.cell 0, XB11.out.cell 1, XB11.out.cell 2, XB11.out.cell 3, XB11.out.cell 4, XB11.out.cell 5, XB11.out.cell 6, XB11.out.cell 7, XB11.out.cell 8, XB11.out.cell 9, XB11.out.cell 10, XB11.out.cell 11, XB11.out.cell 12, XB11.out.cell 13, XB11.out.cell 14, XP0.out.cell 0, XP0.out.cell 1, XP0.out.cell 2, XP0.out.cell 3, XP0.out.cell 4, XP0.out.cell 5, XP0.out.cell 6, XP0.out.cell 7, XP0.out.cell 8, XP0.out.cell 9, XP0.out.cell 10, XP0.out.cell 11, XP0.out.cell 12, XP0.out.cell 13, XP0.out.cell 14⟩
  clear hK K
  (try simp only [Act.put, List.getElem_toArray, List.getElem_cons_succ, List.getElem_cons_zero, List.setIfInBounds_toArray, List.set_cons_zero, List.set_cons_succ])
  refine wpAnyH_take (i := 4) (v := ?_) rfl (by kernel_rfl) (by kernel_rfl) (by kernel_rfl) (fun _ _ _ h => h) (Or.inl ⟨by rfl, ?_⟩) (by assumption) ?_; rotate_left; (focus (intro wS hSw; (try dsimp only at hSw); go_simp <;> with_reducible rfl)); (try simp only [Act.put, List.getElem_toArray, List.getElem_cons_succ, List.getElem_cons_zero, List.setIfInBounds_toArray, List.set_cons_zero, List.set_cons_succ])
  refine wpAnyH_done (by kernel_rfl) ?_ _
  (try simp only [Act.put, List.getElem_toArray, List.getElem_cons_succ, List.getElem_cons_zero, List.setIfInBounds_toArray, List.set_cons_zero, List.set_cons_succ])
  clear Ou12
  clear Ou13
  clear Ou14
  clear Ou15
  clear Ou16
  clear Ou6
  clear Ou7
  clear Ou8
  clear Ou9
  clear Ou10
  try clear cP0_0
  have cP0_0 : World.cell? (w10) ⟨w.heap.size, 0, none⟩ = some (.int .i64 aT_Land_W) := XP0.out.cell 0
  try clear cP0_1
  have cP0_1 : World.cell? (w10) ⟨w.heap.size, 1, none⟩ = some (.int .i64 aT_Land_H) := XP0.out.cell 1
  try clear cP0_2
  have cP0_2 : World.cell? (w10) ⟨w.heap.size, 2, none⟩ = some (.slice aT_Land_Cells_a aT_Land_Cells_L.length aT_Land_Cells_cap) := XP0.out.cell 2
  try clear cP0_3
  have cP0_3 : World.cell? (w10) ⟨w.heap.size, 3, none⟩ = some (.int .i64 aT_Base) := XP0.out.cell 3
  try clear cP0_4
  have cP0_4 : World.cell? (w10) ⟨w.heap.size, 4, none⟩ = some (.int .i64 aT_Rule_Most) := XP0.out.cell 4
  try clear cP0_5
  have cP0_5 : World.cell? (w10) ⟨w.heap.size, 5, none⟩ = some (.int .i64 aT_Rule_Window) := XP0.out.cell 5
  try clear cP0_6
  have cP0_6 : World.cell? (w10) ⟨w.heap.size, 6, none⟩ = some (.slice aT_Depots_a aT_Depots_L.length aT_Depots_cap) := XP0.out.cell 6
  try clear cP0_7
  have cP0_7 : World.cell? (w10) ⟨w.heap.size, 7, none⟩ = some (.int .i64 aT_Party_At) := XP0.out.cell 7
  try clear cP0_8
  have cP0_8 : World.cell? (w10) ⟨w.heap.size, 8, none⟩ = some (.int .i64 aT_Party_Food) := XP0.out.cell 8
  try clear cP0_9
  have cP0_9 : World.cell? (w10) ⟨w.heap.size, 9, none⟩ = some (.slice aT_Party_Crew_a aT_Party_Crew_L.length aT_Party_Crew_cap) := XP0.out.cell 9
  try clear cP0_10
  have cP0_10 : World.cell? (w10) ⟨w.heap.size, 10, none⟩ = some (.slice aT_Party_Past_a aT_Party_Past_L.length aT_Party_Past_cap) := XP0.out.cell 10
  try clear cP0_11
  have cP0_11 : World.cell? (w10) ⟨w.heap.size, 11, none⟩ = some (.slice aT_Journal_a aT_Journal_L.length aT_Journal_cap) := XP0.out.cell 11
  try clear cP0_12
  have cP0_12 : World.cell? (w10) ⟨w.heap.size, 12, none⟩ = some (.int .i64 aT_Day) := XP0.out.cell 12
  try clear cP0_13
  have cP0_13 : World.cell? (w10) ⟨w.heap.size, 13, none⟩ = some (.int .i64 aT_Given) := XP0.out.cell 13
  try clear cP0_14
  have cP0_14 : World.cell? (w10) ⟨w.heap.size, 14, none⟩ = some (.int .i64 aT_Eaten) := XP0.out.cell 14
  try clear cB11_0
  have cB11_0 : World.cell? (w10) ⟨w5.heap.size, 0, none⟩ = some (.int .i64 aT_Land_W) := XB11.out.cell 0
  try clear cB11_1
  have cB11_1 : World.cell? (w10) ⟨w5.heap.size, 1, none⟩ = some (.int .i64 aT_Land_H) := XB11.out.cell 1
  try clear cB11_2
  have cB11_2 : World.cell? (w10) ⟨w5.heap.size, 2, none⟩ = some (.slice u6_a u6_n u6_c) := XB11.out.cell 2
  try clear cB11_3
  have cB11_3 : World.cell? (w10) ⟨w5.heap.size, 3, none⟩ = some (.int .i64 aT_Base) := XB11.out.cell 3
  try clear cB11_4
  have cB11_4 : World.cell? (w10) ⟨w5.heap.size, 4, none⟩ = some (.int .i64 aT_Rule_Most) := XB11.out.cell 4
  try clear cB11_5
  have cB11_5 : World.cell? (w10) ⟨w5.heap.size, 5, none⟩ = some (.int .i64 aT_Rule_Window) := XB11.out.cell 5
  try clear cB11_6
  have cB11_6 : World.cell? (w10) ⟨w5.heap.size, 6, none⟩ = some (.slice u7_a u7_n u7_c) := XB11.out.cell 6
  try clear cB11_7
  have cB11_7 : World.cell? (w10) ⟨w5.heap.size, 7, none⟩ = some (.int .i64 aT_Party_At) := XB11.out.cell 7
  try clear cB11_8
  have cB11_8 : World.cell? (w10) ⟨w5.heap.size, 8, none⟩ = some (.int .i64 aT_Party_Food) := XB11.out.cell 8
  try clear cB11_9
  have cB11_9 : World.cell? (w10) ⟨w5.heap.size, 9, none⟩ = some (.slice u8_a u8_n u8_c) := XB11.out.cell 9
  try clear cB11_10
  have cB11_10 : World.cell? (w10) ⟨w5.heap.size, 10, none⟩ = some (.slice u9_a u9_n u9_c) := XB11.out.cell 10
  try clear cB11_11
  have cB11_11 : World.cell? (w10) ⟨w5.heap.size, 11, none⟩ = some (.slice u10_a u10_n u10_c) := XB11.out.cell 11
  try clear cB11_12
  have cB11_12 : World.cell? (w10) ⟨w5.heap.size, 12, none⟩ = some (.int .i64 aT_Day) := XB11.out.cell 12
  try clear cB11_13
  have cB11_13 : World.cell? (w10) ⟨w5.heap.size, 13, none⟩ = some (.int .i64 aT_Given) := XB11.out.cell 13
  try clear cB11_14
  have cB11_14 : World.cell? (w10) ⟨w5.heap.size, 14, none⟩ = some (.int .i64 aT_Eaten) := XB11.out.cell 14
  go_wp2
  go_ret
  exact ⟨rfl, HB10.out⟩

set_option maxRecDepth 100000 in
/-- What the walk gives, for every argument. -/
theorem contract (H : Type) (enc : TypeId × Value → H) (W : World) (base : Nat) (args : Array Value) (ds gs : List (DataW H)) (before : List MemPlace)
    (hval : ∀ (j : Nat) t v, Tryd.f11.params[j]? = some t → args[j]? = some v → Value.okWide Tryd.prog W .any base t v)
    (hW : DataW.Whole enc Tryd.prog Tryd.f11.params.toList Rows.fnExactFormatTrekSpec.vars false W args.toList ds gs before) (hL : laidMetH Tryd.prog Rows.fnExactFormatTrekRow.laid W) :
    Calls Tryd.prog 11 args W fun e W' => ∃ v, e = .returned v ∧ Rows.fnExactFormatTrekSpec.post enc Tryd.prog Tryd.f11 false true false false W args v W' := by
  have hW' := hW
  obtain ⟨p, q, hA0, hV, rfl, hfz, hnd⟩ := hW
  have hA : DataW.TrodAll enc Tryd.prog W 0 (fun _ => true) true Tryd.f11.params.toList args.toList ds p := hA0
  rw [Tryd.params11] at hA hval
  obtain ⟨v0, vs0, d0, ds0, p0, q0, hargs, rfl, rfl, h0, r0⟩ := trodAll_cons hA
  obtain ⟨rfl, rfl, rfl⟩ := trodAll_nil r0
  obtain rfl : args = #[v0] := by cases args; simp_all
  obtain ⟨rfl, rfl⟩ := trodVars_none hV
  have k0 := h0
  have lt0 : ∀ x ∈ p0, x.block < W.heap.size := by obtain ⟨m, hm⟩ := k0; exact DataW.trod_lt m _ _ _ hm
  obtain ⟨tW0, tH0, tb0, tm0, trn0, tn0, tf0, tdy0, tgv0, tea0, txa0, tda0, tca0, tpa0, tja0, txn0, txc0, tdn0, tdc0, tcn0, tcc0, tpn0, tpc0, tjn0, tjc0, tX0, tD0, tL0, tP0, tJ0, rfl, tw0_0, tw1_0, tw2_0, tw3_0, tw4_0, tw5_0, tw6_0, tw7_0, tw8_0, tw9_0, tw10_0, tw11_0, tw12_0, tw13_0, tw14_0⟩ := TrekL.open_trek (hval 0 68 v0 rfl rfl) h0
  clear hA0
  refine (walk W tW0 tw0_0 tH0 tw1_0 txa0 txn0 txc0 tX0 tw2_0 tb0 tw3_0 tm0 tw4_0 trn0 tw5_0 tda0 tdn0 tdc0 tD0 tw6_0 tn0 tw7_0 tf0 tw8_0 tca0 tcn0 tcc0 tL0 tw9_0 tpa0 tpn0 tpc0 tP0 tw10_0 tja0 tjn0 tjc0 tJ0 tw11_0 tdy0 tw12_0 tgv0 tw13_0 tea0 tw14_0 hL).mono fun e W' ⟨he, bel⟩ => ?_
  subst he
  exact ⟨_, rfl, _, _, _, [], _, [], hW', trodAll_mk1 (shut_bool Tryd.underlying4 _), (trodAll_cons_mk (Below.trod laidOut (by kernel_rfl) (of_decide_eq_true (by kernel_rfl)) k0 bel lt0) trodAll_mk0), rfl, bel.frame _, fun h => by cases h⟩

/-- So many blocks has the settled world. -/
noncomputable def low : Nat := (World.holding Tryd.prog default ⟨#[], #[], []⟩).heap.size
/-- A world for the witness: the settled one, the listed variables holding what their initialisers lay. -/
noncomputable def laidWorld (os : Os) : World :=
  let w0 := World.holding Tryd.prog os ⟨#[], #[], []⟩
  { w0 with heap := (((w0.heap.modify 2 fun
      | .cells _ t frozen => .cells #[.int .u8 (0), .int .u8 (1), .int .u8 (28), .int .u8 (2), .int .u8 (29), .int .u8 (14), .int .u8 (24), .int .u8 (3), .int .u8 (30), .int .u8 (22), .int .u8 (20), .int .u8 (15), .int .u8 (25), .int .u8 (17), .int .u8 (4), .int .u8 (8), .int .u8 (31), .int .u8 (27), .int .u8 (13), .int .u8 (23), .int .u8 (21), .int .u8 (19), .int .u8 (16), .int .u8 (7), .int .u8 (26), .int .u8 (12), .int .u8 (18), .int .u8 (6), .int .u8 (11), .int .u8 (5), .int .u8 (10), .int .u8 (9)] t frozen
      | o => o).modify 3 fun
      | .cells _ t frozen => .cells #[.int .u8 (0), .int .u8 (1), .int .u8 (56), .int .u8 (2), .int .u8 (57), .int .u8 (49), .int .u8 (28), .int .u8 (3), .int .u8 (61), .int .u8 (58), .int .u8 (42), .int .u8 (50), .int .u8 (38), .int .u8 (29), .int .u8 (17), .int .u8 (4), .int .u8 (62), .int .u8 (47), .int .u8 (59), .int .u8 (36), .int .u8 (45), .int .u8 (43), .int .u8 (51), .int .u8 (22), .int .u8 (53), .int .u8 (39), .int .u8 (33), .int .u8 (30), .int .u8 (24), .int .u8 (18), .int .u8 (12), .int .u8 (5), .int .u8 (63), .int .u8 (55), .int .u8 (48), .int .u8 (27), .int .u8 (60), .int .u8 (41), .int .u8 (37), .int .u8 (16), .int .u8 (46), .int .u8 (35), .int .u8 (44), .int .u8 (21), .int .u8 (52), .int .u8 (32), .int .u8 (23), .int .u8 (11), .int .u8 (54), .int .u8 (26), .int .u8 (40), .int .u8 (15), .int .u8 (34), .int .u8 (20), .int .u8 (31), .int .u8 (10), .int .u8 (25), .int .u8 (14), .int .u8 (19), .int .u8 (9), .int .u8 (13), .int .u8 (8), .int .u8 (7), .int .u8 (6)] t frozen
      | o => o).modify 1 fun
      | .cells _ t frozen => .cells #[.int .u64 (1), .int .u64 (10), .int .u64 (100), .int .u64 (1000), .int .u64 (10000), .int .u64 (100000), .int .u64 (1000000), .int .u64 (10000000), .int .u64 (100000000), .int .u64 (1000000000), .int .u64 (10000000000), .int .u64 (100000000000), .int .u64 (1000000000000), .int .u64 (10000000000000), .int .u64 (100000000000000), .int .u64 (1000000000000000), .int .u64 (10000000000000000), .int .u64 (100000000000000000), .int .u64 (1000000000000000000), .int .u64 (10000000000000000000)] t frozen
      | o => o) }
theorem laid_met (os : Os) : laidMet Tryd.prog Rows.fnExactFormatTrekRow.laid ((laidWorld os).forCall (fun _ _ => 0) ⟨#[], #[.agg #[.int .i64 0, .int .i64 0, .slice none 0 0, .int .i64 0, .int .i64 0, .int .i64 0, .slice none 0 0, .int .i64 0, .int .i64 0, .slice none 0 0, .slice none 0 0, .slice none 0 0, .int .i64 0, .int .i64 0, .int .i64 0]], []⟩).memory :=
  laidMet_of_run' 8 (by kernel_rfl) (by kernel_rfl)
theorem reads (os : Os) {H : Type} (enc : TypeId × Value → H) : ∃ places, DataW.whole enc Tryd.prog ((laidWorld os).forCall (fun _ _ => 0) ⟨#[], #[.agg #[.int .i64 0, .int .i64 0, .slice none 0 0, .int .i64 0, .int .i64 0, .int .i64 0, .slice none 0 0, .int .i64 0, .int .i64 0, .slice none 0 0, .slice none 0 0, .slice none 0 0, .int .i64 0, .int .i64 0, .int .i64 0]], []⟩).memory Tryd.f11.params.toList Rows.fnExactFormatTrekSpec.vars false (#[.agg #[.int .i64 0, .int .i64 0, .slice none 0 0, .int .i64 0, .int .i64 0, .int .i64 0, .slice none 0 0, .int .i64 0, .int .i64 0, .slice none 0 0, .slice none 0 0, .slice none 0 0, .int .i64 0, .int .i64 0, .int .i64 0]] : Array Value).toList 8 = some ([.agg [.agg [.lit (.int .i64 0), .lit (.int .i64 0), .nil], .lit (.int .i64 0), .agg [.lit (.int .i64 0), .lit (.int .i64 0)], .nil, .agg [.lit (.int .i64 0), .lit (.int .i64 0), .nil, .nil], .nil, .lit (.int .i64 0), .lit (.int .i64 0), .lit (.int .i64 0)]], [], places) :=
  ⟨[], by kernel_rfl⟩

set_option maxRecDepth 100000 in
theorem lifted (os : Os) (started : os.Started) (H : Type) (enc : TypeId × Value → H) (F : Stop.Interp) :
    ReturnsInHanded {} Tryd.checked os 11 .any ((OpenSpec.ofChange Rows.fnExactFormatTrekSpec).preRow enc Tryd.prog Tryd.f11 Rows.fnExactFormatTrekRow.domain false Rows.fnExactFormatTrekRow.laid) (((OpenSpec.ofChange Rows.fnExactFormatTrekSpec).at F).post enc Tryd.prog Tryd.f11 false true false false) := by
  obtain ⟨places, hx⟩ := reads os enc
  refine returnsInHanded_of_row (C := Tryd.checked) (s := (OpenSpec.ofChange Rows.fnExactFormatTrekSpec)) own started (by kernel_rfl) Tryd.func11
    (witness_row_at (enc := enc) (C := Tryd.checked) false (laidWorld os) #[.agg #[.int .i64 0, .int .i64 0, .slice none 0 0, .int .i64 0, .int .i64 0, .int .i64 0, .slice none 0 0, .int .i64 0, .int .i64 0, .slice none 0 0, .slice none 0 0, .slice none 0 0, .int .i64 0, .int .i64 0, .int .i64 0]] rfl (by kernel_rfl) (by kernel_rfl) (by kernel_rfl)
      (OpenSpec.preRow_of_cond 8 hx (by kernel_rfl) (fun k hk => by cases hk) (by kernel_rfl) (laid_met os))) ?_
  intro W base args ds gs before hval hW _ _ _ hL _ _
  exact contract H enc W base args ds gs before hval hW hL

set_option maxRecDepth 100000 in
theorem said : Rows.FnExactFormatTrekSaid :=
  OpenClaim.holds_of_cond 11 Tryd.f11 rfl rfl rfl rfl rfl rfl rfl ⟨rfl, rfl, rfl, rfl, rfl⟩ rfl rfl rfl rfl rfl (by kernel_rfl) Tryd.func11 (by kernel_rfl)
    (of_decide_eq_true (by kernel_rfl)) (by unfold Func.isWrapper; first | (rw [if_pos (by decide +kernel)]; kernel_rfl) | (rw [if_neg (by decide +kernel)]; exact ⟨rfl, rfl⟩))
    (fun os started H enc _ F => by rw [OpenClaim.pre_eq_preRow]; exact lifted os started H enc F)

/-- No parameter wants a stand-in. -/
theorem plain (f : FuncId) (fn : Func) (hf : Tryd.pinned.checked.prog.funcNamed "loop.example/g03008/laws.FnExactFormatTrek" = some f) (hfn : Tryd.pinned.checked.prog.funcs[f]? = some fn) :
    true = Tryd.pinned.checked.prog.looks [] ∧ ∀ (j : Nat) t, fn.params[j]? = some t → Tryd.pinned.checked.prog.wantsStandIn t = false := by
  obtain rfl : f = 11 := Option.some.inj ((show Tryd.prog.funcNamed "loop.example/g03008/laws.FnExactFormatTrek" = some 11 by kernel_rfl).symm.trans hf) |>.symm
  obtain rfl : fn = Tryd.f11 := (Option.some.inj (Tryd.func11.symm.trans hfn)).symm
  refine ⟨by kernel_rfl, fun j t ht => ?_⟩
  rw [Tryd.params11] at ht
  have hm := Array.mem_of_getElem? ht
  simp only [List.mem_toArray, List.mem_cons, List.not_mem_nil, or_false] at hm
  subst hm
  exact (show Tryd.prog.wantsStandIn 68 = false by kernel_rfl)
theorem proved : Rows.FnExactFormatTrekCardSaid :=
  Claim7.holds_tied_plain_at .later [] _ _ _ _ said (fun _ h => by cases h) (by kernel_rfl) (fun _ h => by cases h) fnExactFormatTrek_row_tie rfl ⟨rfl, rfl⟩ (by kernel_rfl) rfl plain (by kernel_rfl)
#print axioms proved
end Go.Proofs.YtoanhnklemlfmaaDoor.fnExactFormatTrek

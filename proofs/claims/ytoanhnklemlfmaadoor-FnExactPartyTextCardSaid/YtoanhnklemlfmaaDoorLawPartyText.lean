/- The law FnExactPartyText: the program's PartyText answers as its model, for every argument; it writes into no argument, and its answer owns its memory. No condition. -/
import Derived.Deep.RegionHeld3
import Derived.Test.YtoanhnklemlfmaaDoorCards
import Derived.Test.YtoanhnklemlfmaaDoorTie
import Derived.Test.YtoanhnklemlfmaaDoorFieldG
import Derived.Test.YtoanhnklemlfmaaDoorLandL
import Derived.Test.YtoanhnklemlfmaaDoorPartyL
import Derived.Test.YtoanhnklemlfmaaDoorPtt
import Derived.WalkKit
import Derived.ProofKit
import Derived.OpenShut
import Derived.ShutString
import Derived.ChangeOld
import Derived.Below
import Derived.Deep.DeepHandedRow
import Derived.Deep.DeepWitnessRowRef
import Derived.Lib.LaidTab
import Derived.Stop.LaidErr
import Derived.SevenTiedAt
import Derived.RowKitTokens
namespace Go.Proofs.YtoanhnklemlfmaaDoor.fnExactPartyText
open Go.ChangeShapes Go.WideShapes Go.ChangeAt Go.RowKit
open Go.ChangeMaps (open_string shut_string)
set_option linter.unusedVariables false

theorem own : ownKnob Tryd.prog.godebug = none := by kernel_rfl
theorem laidOut : laidOutB Tryd.prog = true := by kernel_rfl

theorem gTab : Tryd.prog.globalNamed "internal/strconv.uint64pow10" = some 1 := by kernel_rfl
theorem gTabType : (Tryd.prog.globals[1]?).map (·.type) = some 202 := by kernel_rfl
theorem cellsA : Tryd.prog.cellsOf 202 = 20 := by kernel_rfl
theorem cellsU : Tryd.prog.cellsOf 141 = 1 := by kernel_rfl
theorem table {W : World} (h : laidMetH Tryd.prog Rows.fnExactPartyTextRow.laid W) : Fmt.Pow10 W :=
  Lib.tabIs_of_head (rest := []) gTab gTabType Tryd.underlying202 Tryd.underlying141 cellsU cellsA (laidMet.tail (laidMet.tail h))
open Kit Rw
set_option maxRecDepth 100000 in
set_option maxHeartbeats 4000000 in
theorem walk (w : World) (aX_W : Int) (aX_W_h : (Lit.int .i64 aX_W).wf = true) (aX_H : Int) (aX_H_h : (Lit.int .i64 aX_H).wf = true) (aX_Cells_a : Option Addr) (aX_Cells_len aX_Cells_cap : Nat) (aX_Cells_z : List Int) (aX_Cells_h : Kit.IsRow .i64 w aX_Cells_a aX_Cells_len aX_Cells_cap aX_Cells_z) (aP_At : Int) (aP_At_h : (Lit.int .i64 aP_At).wf = true) (aP_Food : Int) (aP_Food_h : (Lit.int .i64 aP_Food).wf = true) (aP_Crew_a : Option Addr) (aP_Crew_len aP_Crew_cap : Nat) (aP_Crew_L : List Rg.Mem) (aP_Crew_h : aP_Crew_L.length = aP_Crew_len ∧ Rg.SeesG Rg.encM w (.slice aP_Crew_a aP_Crew_len aP_Crew_cap) aP_Crew_L) (aP_Past_a : Option Addr) (aP_Past_len aP_Past_cap : Nat) (aP_Past_L : List Bool) (aP_Past_h : aP_Past_L.length = aP_Past_len ∧ Rg.SeesG Rg.encB w (.slice aP_Past_a aP_Past_len aP_Past_cap) aP_Past_L) (hL : laidMetH Tryd.prog Rows.fnExactPartyTextRow.laid w) :
    Calls Tryd.prog 6 #[.agg #[.int .i64 aX_W, .int .i64 aX_H, .slice aX_Cells_a aX_Cells_len aX_Cells_cap], .agg #[.int .i64 aP_At, .int .i64 aP_Food, .slice aP_Crew_a aP_Crew_len aP_Crew_cap, .slice aP_Past_a aP_Past_len aP_Past_cap]] w fun e w' => e = .returned (.bool true) ∧ Below w.heap.size w w' := by
  have HTB := Lib.hid (table hL); clear hL
  obtain ⟨aP_Crew_e, aP_Crew_s0⟩ := aP_Crew_h; have aP_Crew_S := Lib.hid aP_Crew_s0; have aP_Crew_len0 := aP_Crew_s0.len; subst aP_Crew_e; clear aP_Crew_s0
  obtain ⟨aP_Past_e, aP_Past_s0⟩ := aP_Past_h; have aP_Past_S := Lib.hid aP_Past_s0; have aP_Past_len0 := aP_Past_s0.len; subst aP_Past_e; clear aP_Past_s0
  have aX_Cells_g := Lib.hid aX_Cells_h; clear aX_Cells_h
  obtain ⟨aX_Cells_L, aX_Cells_e, aX_Cells_s0⟩ := IsRow.sees aX_Cells_g.out
  have aX_Cells_S := Lib.hid aX_Cells_s0; have aX_Cells_len0 := aX_Cells_s0.len; subst aX_Cells_e; clear aX_Cells_s0 aX_Cells_g
  have aX_W_H := Lib.hid aX_W_h; have aX_W_b := i64_of aX_W_h; clear aX_W_h
  have aX_H_H := Lib.hid aX_H_h; have aX_H_b := i64_of aX_H_h; clear aX_H_h
  have aP_At_H := Lib.hid aP_At_h; have aP_At_b := i64_of aP_At_h; clear aP_At_h
  have aP_Food_H := Lib.hid aP_Food_h; have aP_Food_b := i64_of aP_Food_h; clear aP_Food_h
  by_cases aX_l : (aX_Cells_L.length : Int) ≤ (1048576 : Int)
  rotate_left
  ·
    have HB0 : Hid (Below w.heap.size w w) := Below.refl _ _
    have hgb := World.grownBy_alloc w (.cells #[.int .i64 aX_W, .int .i64 aX_H, .slice aX_Cells_a aX_Cells_L.length aX_Cells_cap] 24 (0, 0)) none
    have HB1 := Lib.hid (HB0.out.grown hgb HB0.out.size (fun _ h => by cases h)); clear HB0
    have XP0 := Lib.hid (box_new w #[.int .i64 aX_W, .int .i64 aX_H, .slice aX_Cells_a aX_Cells_L.length aX_Cells_cap] 24); clear hgb
    have hgb := World.grownBy_alloc (w.alloc (.cells #[.int .i64 aX_W, .int .i64 aX_H, .slice aX_Cells_a aX_Cells_L.length aX_Cells_cap] 24 (0, 0))) (.cells #[.int .i64 aP_At, .int .i64 aP_Food, .slice aP_Crew_a aP_Crew_L.length aP_Crew_cap, .slice aP_Past_a aP_Past_L.length aP_Past_cap] 40 (0, 0)) none
    have HB2 := Lib.hid (HB1.out.grown hgb HB1.out.size (fun _ h => by cases h)); clear HB1
    have XP0 := Lib.hid (XP0.out.grown hgb)
    have XP1 := Lib.hid (box_new (w.alloc (.cells #[.int .i64 aX_W, .int .i64 aX_H, .slice aX_Cells_a aX_Cells_L.length aX_Cells_cap] 24 (0, 0))) #[.int .i64 aP_At, .int .i64 aP_Food, .slice aP_Crew_a aP_Crew_L.length aP_Crew_cap, .slice aP_Past_a aP_Past_L.length aP_Past_cap] 40); clear hgb
    simp only [World.size_alloc] at XP1
    go_enter Tryd.func6, Tryd.ntmps6
    try clear cP0_0
    have cP0_0 : World.cell? ((w.alloc (.cells #[.int .i64 aX_W, .int .i64 aX_H, .slice aX_Cells_a aX_Cells_L.length aX_Cells_cap] 24 (0, 0))).alloc (.cells #[.int .i64 aP_At, .int .i64 aP_Food, .slice aP_Crew_a aP_Crew_L.length aP_Crew_cap, .slice aP_Past_a aP_Past_L.length aP_Past_cap] 40 (0, 0))) ⟨w.heap.size, 0, none⟩ = some (.int .i64 aX_W) := XP0.out.cell 0
    try clear cP0_1
    have cP0_1 : World.cell? ((w.alloc (.cells #[.int .i64 aX_W, .int .i64 aX_H, .slice aX_Cells_a aX_Cells_L.length aX_Cells_cap] 24 (0, 0))).alloc (.cells #[.int .i64 aP_At, .int .i64 aP_Food, .slice aP_Crew_a aP_Crew_L.length aP_Crew_cap, .slice aP_Past_a aP_Past_L.length aP_Past_cap] 40 (0, 0))) ⟨w.heap.size, 1, none⟩ = some (.int .i64 aX_H) := XP0.out.cell 1
    try clear cP0_2
    have cP0_2 : World.cell? ((w.alloc (.cells #[.int .i64 aX_W, .int .i64 aX_H, .slice aX_Cells_a aX_Cells_L.length aX_Cells_cap] 24 (0, 0))).alloc (.cells #[.int .i64 aP_At, .int .i64 aP_Food, .slice aP_Crew_a aP_Crew_L.length aP_Crew_cap, .slice aP_Past_a aP_Past_L.length aP_Past_cap] 40 (0, 0))) ⟨w.heap.size, 2, none⟩ = some (.slice aX_Cells_a aX_Cells_L.length aX_Cells_cap) := XP0.out.cell 2
    try clear cP1_0
    have cP1_0 : World.cell? ((w.alloc (.cells #[.int .i64 aX_W, .int .i64 aX_H, .slice aX_Cells_a aX_Cells_L.length aX_Cells_cap] 24 (0, 0))).alloc (.cells #[.int .i64 aP_At, .int .i64 aP_Food, .slice aP_Crew_a aP_Crew_L.length aP_Crew_cap, .slice aP_Past_a aP_Past_L.length aP_Past_cap] 40 (0, 0))) ⟨w.heap.size + 1, 0, none⟩ = some (.int .i64 aP_At) := XP1.out.cell 0
    try clear cP1_1
    have cP1_1 : World.cell? ((w.alloc (.cells #[.int .i64 aX_W, .int .i64 aX_H, .slice aX_Cells_a aX_Cells_L.length aX_Cells_cap] 24 (0, 0))).alloc (.cells #[.int .i64 aP_At, .int .i64 aP_Food, .slice aP_Crew_a aP_Crew_L.length aP_Crew_cap, .slice aP_Past_a aP_Past_L.length aP_Past_cap] 40 (0, 0))) ⟨w.heap.size + 1, 1, none⟩ = some (.int .i64 aP_Food) := XP1.out.cell 1
    try clear cP1_2
    have cP1_2 : World.cell? ((w.alloc (.cells #[.int .i64 aX_W, .int .i64 aX_H, .slice aX_Cells_a aX_Cells_L.length aX_Cells_cap] 24 (0, 0))).alloc (.cells #[.int .i64 aP_At, .int .i64 aP_Food, .slice aP_Crew_a aP_Crew_L.length aP_Crew_cap, .slice aP_Past_a aP_Past_L.length aP_Past_cap] 40 (0, 0))) ⟨w.heap.size + 1, 2, none⟩ = some (.slice aP_Crew_a aP_Crew_L.length aP_Crew_cap) := XP1.out.cell 2
    try clear cP1_3
    have cP1_3 : World.cell? ((w.alloc (.cells #[.int .i64 aX_W, .int .i64 aX_H, .slice aX_Cells_a aX_Cells_L.length aX_Cells_cap] 24 (0, 0))).alloc (.cells #[.int .i64 aP_At, .int .i64 aP_Food, .slice aP_Crew_a aP_Crew_L.length aP_Crew_cap, .slice aP_Past_a aP_Past_L.length aP_Past_cap] 40 (0, 0))) ⟨w.heap.size + 1, 3, none⟩ = some (.slice aP_Past_a aP_Past_L.length aP_Past_cap) := XP1.out.cell 3
    go_wp2_with fail
    generalize (w.alloc (.cells #[.int .i64 aX_W, .int .i64 aX_H, .slice aX_Cells_a aX_Cells_L.length aX_Cells_cap] 24 (0, 0))).alloc (.cells #[.int .i64 aP_At, .int .i64 aP_Food, .slice aP_Crew_a aP_Crew_L.length aP_Crew_cap, .slice aP_Past_a aP_Past_L.length aP_Past_cap] 40 (0, 0)) = w1 at *
    refine (LandL.szLand_no w1 aX_W aX_H _ _ (1048576 : Int) (aX_Cells_S.out.below HB2.out) (by omega) (by omega) (by omega)).mono ?_
    rintro e w2 ⟨rfl, hg⟩
    have HB3 := Lib.hid (HB2.out.grown hg HB2.out.size (fun _ h => by cases h)); clear HB2
    have XP0 := Lib.hid (XP0.out.grown hg)
    have XP1 := Lib.hid (XP1.out.grown hg)
    clear hg
    try clear cP0_0
    have cP0_0 : World.cell? (w2) ⟨w.heap.size, 0, none⟩ = some (.int .i64 aX_W) := XP0.out.cell 0
    try clear cP0_1
    have cP0_1 : World.cell? (w2) ⟨w.heap.size, 1, none⟩ = some (.int .i64 aX_H) := XP0.out.cell 1
    try clear cP0_2
    have cP0_2 : World.cell? (w2) ⟨w.heap.size, 2, none⟩ = some (.slice aX_Cells_a aX_Cells_L.length aX_Cells_cap) := XP0.out.cell 2
    try clear cP1_0
    have cP1_0 : World.cell? (w2) ⟨w.heap.size + 1, 0, none⟩ = some (.int .i64 aP_At) := XP1.out.cell 0
    try clear cP1_1
    have cP1_1 : World.cell? (w2) ⟨w.heap.size + 1, 1, none⟩ = some (.int .i64 aP_Food) := XP1.out.cell 1
    try clear cP1_2
    have cP1_2 : World.cell? (w2) ⟨w.heap.size + 1, 2, none⟩ = some (.slice aP_Crew_a aP_Crew_L.length aP_Crew_cap) := XP1.out.cell 2
    try clear cP1_3
    have cP1_3 : World.cell? (w2) ⟨w.heap.size + 1, 3, none⟩ = some (.slice aP_Past_a aP_Past_L.length aP_Past_cap) := XP1.out.cell 3
    go_wp2
    go_ret
    exact ⟨rfl, HB3.out⟩
  by_cases aP_l : (aP_Crew_L.length : Int) + (aP_Past_L.length : Int) ≤ ((1048576 : Int) - ((aX_Cells_L.length : Int)))
  rotate_left
  ·
    have HB0 : Hid (Below w.heap.size w w) := Below.refl _ _
    have hgb := World.grownBy_alloc w (.cells #[.int .i64 aX_W, .int .i64 aX_H, .slice aX_Cells_a aX_Cells_L.length aX_Cells_cap] 24 (0, 0)) none
    have HB1 := Lib.hid (HB0.out.grown hgb HB0.out.size (fun _ h => by cases h)); clear HB0
    have XP0 := Lib.hid (box_new w #[.int .i64 aX_W, .int .i64 aX_H, .slice aX_Cells_a aX_Cells_L.length aX_Cells_cap] 24); clear hgb
    have hgb := World.grownBy_alloc (w.alloc (.cells #[.int .i64 aX_W, .int .i64 aX_H, .slice aX_Cells_a aX_Cells_L.length aX_Cells_cap] 24 (0, 0))) (.cells #[.int .i64 aP_At, .int .i64 aP_Food, .slice aP_Crew_a aP_Crew_L.length aP_Crew_cap, .slice aP_Past_a aP_Past_L.length aP_Past_cap] 40 (0, 0)) none
    have HB2 := Lib.hid (HB1.out.grown hgb HB1.out.size (fun _ h => by cases h)); clear HB1
    have XP0 := Lib.hid (XP0.out.grown hgb)
    have XP1 := Lib.hid (box_new (w.alloc (.cells #[.int .i64 aX_W, .int .i64 aX_H, .slice aX_Cells_a aX_Cells_L.length aX_Cells_cap] 24 (0, 0))) #[.int .i64 aP_At, .int .i64 aP_Food, .slice aP_Crew_a aP_Crew_L.length aP_Crew_cap, .slice aP_Past_a aP_Past_L.length aP_Past_cap] 40); clear hgb
    simp only [World.size_alloc] at XP1
    go_enter Tryd.func6, Tryd.ntmps6
    try clear cP0_0
    have cP0_0 : World.cell? ((w.alloc (.cells #[.int .i64 aX_W, .int .i64 aX_H, .slice aX_Cells_a aX_Cells_L.length aX_Cells_cap] 24 (0, 0))).alloc (.cells #[.int .i64 aP_At, .int .i64 aP_Food, .slice aP_Crew_a aP_Crew_L.length aP_Crew_cap, .slice aP_Past_a aP_Past_L.length aP_Past_cap] 40 (0, 0))) ⟨w.heap.size, 0, none⟩ = some (.int .i64 aX_W) := XP0.out.cell 0
    try clear cP0_1
    have cP0_1 : World.cell? ((w.alloc (.cells #[.int .i64 aX_W, .int .i64 aX_H, .slice aX_Cells_a aX_Cells_L.length aX_Cells_cap] 24 (0, 0))).alloc (.cells #[.int .i64 aP_At, .int .i64 aP_Food, .slice aP_Crew_a aP_Crew_L.length aP_Crew_cap, .slice aP_Past_a aP_Past_L.length aP_Past_cap] 40 (0, 0))) ⟨w.heap.size, 1, none⟩ = some (.int .i64 aX_H) := XP0.out.cell 1
    try clear cP0_2
    have cP0_2 : World.cell? ((w.alloc (.cells #[.int .i64 aX_W, .int .i64 aX_H, .slice aX_Cells_a aX_Cells_L.length aX_Cells_cap] 24 (0, 0))).alloc (.cells #[.int .i64 aP_At, .int .i64 aP_Food, .slice aP_Crew_a aP_Crew_L.length aP_Crew_cap, .slice aP_Past_a aP_Past_L.length aP_Past_cap] 40 (0, 0))) ⟨w.heap.size, 2, none⟩ = some (.slice aX_Cells_a aX_Cells_L.length aX_Cells_cap) := XP0.out.cell 2
    try clear cP1_0
    have cP1_0 : World.cell? ((w.alloc (.cells #[.int .i64 aX_W, .int .i64 aX_H, .slice aX_Cells_a aX_Cells_L.length aX_Cells_cap] 24 (0, 0))).alloc (.cells #[.int .i64 aP_At, .int .i64 aP_Food, .slice aP_Crew_a aP_Crew_L.length aP_Crew_cap, .slice aP_Past_a aP_Past_L.length aP_Past_cap] 40 (0, 0))) ⟨w.heap.size + 1, 0, none⟩ = some (.int .i64 aP_At) := XP1.out.cell 0
    try clear cP1_1
    have cP1_1 : World.cell? ((w.alloc (.cells #[.int .i64 aX_W, .int .i64 aX_H, .slice aX_Cells_a aX_Cells_L.length aX_Cells_cap] 24 (0, 0))).alloc (.cells #[.int .i64 aP_At, .int .i64 aP_Food, .slice aP_Crew_a aP_Crew_L.length aP_Crew_cap, .slice aP_Past_a aP_Past_L.length aP_Past_cap] 40 (0, 0))) ⟨w.heap.size + 1, 1, none⟩ = some (.int .i64 aP_Food) := XP1.out.cell 1
    try clear cP1_2
    have cP1_2 : World.cell? ((w.alloc (.cells #[.int .i64 aX_W, .int .i64 aX_H, .slice aX_Cells_a aX_Cells_L.length aX_Cells_cap] 24 (0, 0))).alloc (.cells #[.int .i64 aP_At, .int .i64 aP_Food, .slice aP_Crew_a aP_Crew_L.length aP_Crew_cap, .slice aP_Past_a aP_Past_L.length aP_Past_cap] 40 (0, 0))) ⟨w.heap.size + 1, 2, none⟩ = some (.slice aP_Crew_a aP_Crew_L.length aP_Crew_cap) := XP1.out.cell 2
    try clear cP1_3
    have cP1_3 : World.cell? ((w.alloc (.cells #[.int .i64 aX_W, .int .i64 aX_H, .slice aX_Cells_a aX_Cells_L.length aX_Cells_cap] 24 (0, 0))).alloc (.cells #[.int .i64 aP_At, .int .i64 aP_Food, .slice aP_Crew_a aP_Crew_L.length aP_Crew_cap, .slice aP_Past_a aP_Past_L.length aP_Past_cap] 40 (0, 0))) ⟨w.heap.size + 1, 3, none⟩ = some (.slice aP_Past_a aP_Past_L.length aP_Past_cap) := XP1.out.cell 3
    go_wp2_with fail
    generalize (w.alloc (.cells #[.int .i64 aX_W, .int .i64 aX_H, .slice aX_Cells_a aX_Cells_L.length aX_Cells_cap] 24 (0, 0))).alloc (.cells #[.int .i64 aP_At, .int .i64 aP_Food, .slice aP_Crew_a aP_Crew_L.length aP_Crew_cap, .slice aP_Past_a aP_Past_L.length aP_Past_cap] 40 (0, 0)) = w1 at *
    refine (LandL.szLand_yes w1 aX_W aX_H _ _ (1048576 : Int) (aX_Cells_S.out.below HB2.out) (by omega) (by omega) (by omega)).mono ?_
    rintro e w2 ⟨rfl, hg⟩
    have HB3 := Lib.hid (HB2.out.grown hg HB2.out.size (fun _ h => by cases h)); clear HB2
    have XP0 := Lib.hid (XP0.out.grown hg)
    have XP1 := Lib.hid (XP1.out.grown hg)
    clear hg
    try clear cP0_0
    have cP0_0 : World.cell? (w2) ⟨w.heap.size, 0, none⟩ = some (.int .i64 aX_W) := XP0.out.cell 0
    try clear cP0_1
    have cP0_1 : World.cell? (w2) ⟨w.heap.size, 1, none⟩ = some (.int .i64 aX_H) := XP0.out.cell 1
    try clear cP0_2
    have cP0_2 : World.cell? (w2) ⟨w.heap.size, 2, none⟩ = some (.slice aX_Cells_a aX_Cells_L.length aX_Cells_cap) := XP0.out.cell 2
    try clear cP1_0
    have cP1_0 : World.cell? (w2) ⟨w.heap.size + 1, 0, none⟩ = some (.int .i64 aP_At) := XP1.out.cell 0
    try clear cP1_1
    have cP1_1 : World.cell? (w2) ⟨w.heap.size + 1, 1, none⟩ = some (.int .i64 aP_Food) := XP1.out.cell 1
    try clear cP1_2
    have cP1_2 : World.cell? (w2) ⟨w.heap.size + 1, 2, none⟩ = some (.slice aP_Crew_a aP_Crew_L.length aP_Crew_cap) := XP1.out.cell 2
    try clear cP1_3
    have cP1_3 : World.cell? (w2) ⟨w.heap.size + 1, 3, none⟩ = some (.slice aP_Past_a aP_Past_L.length aP_Past_cap) := XP1.out.cell 3
    go_wp2_with fail
    refine (PartyL.szParty_no w2 aP_At aP_Food _ _ _ _ ((1048576 : Int) - ((aX_Cells_L.length : Int))) (aP_Crew_S.out.below HB3.out) (aP_Past_S.out.below HB3.out) (by omega) (by omega) (by omega)).mono ?_
    rintro e w3 ⟨rfl, hg⟩
    have HB4 := Lib.hid (HB3.out.grown hg HB3.out.size (fun _ h => by cases h)); clear HB3
    have XP0 := Lib.hid (XP0.out.grown hg)
    have XP1 := Lib.hid (XP1.out.grown hg)
    clear hg
    try clear cP0_0
    have cP0_0 : World.cell? (w3) ⟨w.heap.size, 0, none⟩ = some (.int .i64 aX_W) := XP0.out.cell 0
    try clear cP0_1
    have cP0_1 : World.cell? (w3) ⟨w.heap.size, 1, none⟩ = some (.int .i64 aX_H) := XP0.out.cell 1
    try clear cP0_2
    have cP0_2 : World.cell? (w3) ⟨w.heap.size, 2, none⟩ = some (.slice aX_Cells_a aX_Cells_L.length aX_Cells_cap) := XP0.out.cell 2
    try clear cP1_0
    have cP1_0 : World.cell? (w3) ⟨w.heap.size + 1, 0, none⟩ = some (.int .i64 aP_At) := XP1.out.cell 0
    try clear cP1_1
    have cP1_1 : World.cell? (w3) ⟨w.heap.size + 1, 1, none⟩ = some (.int .i64 aP_Food) := XP1.out.cell 1
    try clear cP1_2
    have cP1_2 : World.cell? (w3) ⟨w.heap.size + 1, 2, none⟩ = some (.slice aP_Crew_a aP_Crew_L.length aP_Crew_cap) := XP1.out.cell 2
    try clear cP1_3
    have cP1_3 : World.cell? (w3) ⟨w.heap.size + 1, 3, none⟩ = some (.slice aP_Past_a aP_Past_L.length aP_Past_cap) := XP1.out.cell 3
    go_wp2
    go_ret
    exact ⟨rfl, HB4.out⟩
  have HB0 : Hid (Below w.heap.size w w) := Below.refl _ _
  have hgb := World.grownBy_alloc w (.cells #[.int .i64 aX_W, .int .i64 aX_H, .slice aX_Cells_a aX_Cells_L.length aX_Cells_cap] 24 (0, 0)) none
  have HB1 := Lib.hid (HB0.out.grown hgb HB0.out.size (fun _ h => by cases h)); clear HB0
  have XP0 := Lib.hid (box_new w #[.int .i64 aX_W, .int .i64 aX_H, .slice aX_Cells_a aX_Cells_L.length aX_Cells_cap] 24); clear hgb
  have hgb := World.grownBy_alloc (w.alloc (.cells #[.int .i64 aX_W, .int .i64 aX_H, .slice aX_Cells_a aX_Cells_L.length aX_Cells_cap] 24 (0, 0))) (.cells #[.int .i64 aP_At, .int .i64 aP_Food, .slice aP_Crew_a aP_Crew_L.length aP_Crew_cap, .slice aP_Past_a aP_Past_L.length aP_Past_cap] 40 (0, 0)) none
  have HB2 := Lib.hid (HB1.out.grown hgb HB1.out.size (fun _ h => by cases h)); clear HB1
  have XP0 := Lib.hid (XP0.out.grown hgb)
  have XP1 := Lib.hid (box_new (w.alloc (.cells #[.int .i64 aX_W, .int .i64 aX_H, .slice aX_Cells_a aX_Cells_L.length aX_Cells_cap] 24 (0, 0))) #[.int .i64 aP_At, .int .i64 aP_Food, .slice aP_Crew_a aP_Crew_L.length aP_Crew_cap, .slice aP_Past_a aP_Past_L.length aP_Past_cap] 40); clear hgb
  simp only [World.size_alloc] at XP1
  go_enter Tryd.func6, Tryd.ntmps6
  try clear cP0_0
  have cP0_0 : World.cell? ((w.alloc (.cells #[.int .i64 aX_W, .int .i64 aX_H, .slice aX_Cells_a aX_Cells_L.length aX_Cells_cap] 24 (0, 0))).alloc (.cells #[.int .i64 aP_At, .int .i64 aP_Food, .slice aP_Crew_a aP_Crew_L.length aP_Crew_cap, .slice aP_Past_a aP_Past_L.length aP_Past_cap] 40 (0, 0))) ⟨w.heap.size, 0, none⟩ = some (.int .i64 aX_W) := XP0.out.cell 0
  try clear cP0_1
  have cP0_1 : World.cell? ((w.alloc (.cells #[.int .i64 aX_W, .int .i64 aX_H, .slice aX_Cells_a aX_Cells_L.length aX_Cells_cap] 24 (0, 0))).alloc (.cells #[.int .i64 aP_At, .int .i64 aP_Food, .slice aP_Crew_a aP_Crew_L.length aP_Crew_cap, .slice aP_Past_a aP_Past_L.length aP_Past_cap] 40 (0, 0))) ⟨w.heap.size, 1, none⟩ = some (.int .i64 aX_H) := XP0.out.cell 1
  try clear cP0_2
  have cP0_2 : World.cell? ((w.alloc (.cells #[.int .i64 aX_W, .int .i64 aX_H, .slice aX_Cells_a aX_Cells_L.length aX_Cells_cap] 24 (0, 0))).alloc (.cells #[.int .i64 aP_At, .int .i64 aP_Food, .slice aP_Crew_a aP_Crew_L.length aP_Crew_cap, .slice aP_Past_a aP_Past_L.length aP_Past_cap] 40 (0, 0))) ⟨w.heap.size, 2, none⟩ = some (.slice aX_Cells_a aX_Cells_L.length aX_Cells_cap) := XP0.out.cell 2
  try clear cP1_0
  have cP1_0 : World.cell? ((w.alloc (.cells #[.int .i64 aX_W, .int .i64 aX_H, .slice aX_Cells_a aX_Cells_L.length aX_Cells_cap] 24 (0, 0))).alloc (.cells #[.int .i64 aP_At, .int .i64 aP_Food, .slice aP_Crew_a aP_Crew_L.length aP_Crew_cap, .slice aP_Past_a aP_Past_L.length aP_Past_cap] 40 (0, 0))) ⟨w.heap.size + 1, 0, none⟩ = some (.int .i64 aP_At) := XP1.out.cell 0
  try clear cP1_1
  have cP1_1 : World.cell? ((w.alloc (.cells #[.int .i64 aX_W, .int .i64 aX_H, .slice aX_Cells_a aX_Cells_L.length aX_Cells_cap] 24 (0, 0))).alloc (.cells #[.int .i64 aP_At, .int .i64 aP_Food, .slice aP_Crew_a aP_Crew_L.length aP_Crew_cap, .slice aP_Past_a aP_Past_L.length aP_Past_cap] 40 (0, 0))) ⟨w.heap.size + 1, 1, none⟩ = some (.int .i64 aP_Food) := XP1.out.cell 1
  try clear cP1_2
  have cP1_2 : World.cell? ((w.alloc (.cells #[.int .i64 aX_W, .int .i64 aX_H, .slice aX_Cells_a aX_Cells_L.length aX_Cells_cap] 24 (0, 0))).alloc (.cells #[.int .i64 aP_At, .int .i64 aP_Food, .slice aP_Crew_a aP_Crew_L.length aP_Crew_cap, .slice aP_Past_a aP_Past_L.length aP_Past_cap] 40 (0, 0))) ⟨w.heap.size + 1, 2, none⟩ = some (.slice aP_Crew_a aP_Crew_L.length aP_Crew_cap) := XP1.out.cell 2
  try clear cP1_3
  have cP1_3 : World.cell? ((w.alloc (.cells #[.int .i64 aX_W, .int .i64 aX_H, .slice aX_Cells_a aX_Cells_L.length aX_Cells_cap] 24 (0, 0))).alloc (.cells #[.int .i64 aP_At, .int .i64 aP_Food, .slice aP_Crew_a aP_Crew_L.length aP_Crew_cap, .slice aP_Past_a aP_Past_L.length aP_Past_cap] 40 (0, 0))) ⟨w.heap.size + 1, 3, none⟩ = some (.slice aP_Past_a aP_Past_L.length aP_Past_cap) := XP1.out.cell 3
  go_wp2_with fail
  generalize (w.alloc (.cells #[.int .i64 aX_W, .int .i64 aX_H, .slice aX_Cells_a aX_Cells_L.length aX_Cells_cap] 24 (0, 0))).alloc (.cells #[.int .i64 aP_At, .int .i64 aP_Food, .slice aP_Crew_a aP_Crew_L.length aP_Crew_cap, .slice aP_Past_a aP_Past_L.length aP_Past_cap] 40 (0, 0)) = w1 at *
  refine (LandL.szLand_yes w1 aX_W aX_H _ _ (1048576 : Int) (aX_Cells_S.out.below HB2.out) (by omega) (by omega) (by omega)).mono ?_
  rintro e w2 ⟨rfl, hg⟩
  have HB3 := Lib.hid (HB2.out.grown hg HB2.out.size (fun _ h => by cases h)); clear HB2
  have XP0 := Lib.hid (XP0.out.grown hg)
  have XP1 := Lib.hid (XP1.out.grown hg)
  clear hg
  try clear cP0_0
  have cP0_0 : World.cell? (w2) ⟨w.heap.size, 0, none⟩ = some (.int .i64 aX_W) := XP0.out.cell 0
  try clear cP0_1
  have cP0_1 : World.cell? (w2) ⟨w.heap.size, 1, none⟩ = some (.int .i64 aX_H) := XP0.out.cell 1
  try clear cP0_2
  have cP0_2 : World.cell? (w2) ⟨w.heap.size, 2, none⟩ = some (.slice aX_Cells_a aX_Cells_L.length aX_Cells_cap) := XP0.out.cell 2
  try clear cP1_0
  have cP1_0 : World.cell? (w2) ⟨w.heap.size + 1, 0, none⟩ = some (.int .i64 aP_At) := XP1.out.cell 0
  try clear cP1_1
  have cP1_1 : World.cell? (w2) ⟨w.heap.size + 1, 1, none⟩ = some (.int .i64 aP_Food) := XP1.out.cell 1
  try clear cP1_2
  have cP1_2 : World.cell? (w2) ⟨w.heap.size + 1, 2, none⟩ = some (.slice aP_Crew_a aP_Crew_L.length aP_Crew_cap) := XP1.out.cell 2
  try clear cP1_3
  have cP1_3 : World.cell? (w2) ⟨w.heap.size + 1, 3, none⟩ = some (.slice aP_Past_a aP_Past_L.length aP_Past_cap) := XP1.out.cell 3
  go_wp2_with fail
  refine (PartyL.szParty_yes w2 aP_At aP_Food _ _ _ _ ((1048576 : Int) - ((aX_Cells_L.length : Int))) (aP_Crew_S.out.below HB3.out) (aP_Past_S.out.below HB3.out) (by omega) (by omega) (by omega)).mono ?_
  rintro e w3 ⟨rfl, hg⟩
  have HB4 := Lib.hid (HB3.out.grown hg HB3.out.size (fun _ h => by cases h)); clear HB3
  have XP0 := Lib.hid (XP0.out.grown hg)
  have XP1 := Lib.hid (XP1.out.grown hg)
  clear hg
  try clear cP0_0
  have cP0_0 : World.cell? (w3) ⟨w.heap.size, 0, none⟩ = some (.int .i64 aX_W) := XP0.out.cell 0
  try clear cP0_1
  have cP0_1 : World.cell? (w3) ⟨w.heap.size, 1, none⟩ = some (.int .i64 aX_H) := XP0.out.cell 1
  try clear cP0_2
  have cP0_2 : World.cell? (w3) ⟨w.heap.size, 2, none⟩ = some (.slice aX_Cells_a aX_Cells_L.length aX_Cells_cap) := XP0.out.cell 2
  try clear cP1_0
  have cP1_0 : World.cell? (w3) ⟨w.heap.size + 1, 0, none⟩ = some (.int .i64 aP_At) := XP1.out.cell 0
  try clear cP1_1
  have cP1_1 : World.cell? (w3) ⟨w.heap.size + 1, 1, none⟩ = some (.int .i64 aP_Food) := XP1.out.cell 1
  try clear cP1_2
  have cP1_2 : World.cell? (w3) ⟨w.heap.size + 1, 2, none⟩ = some (.slice aP_Crew_a aP_Crew_L.length aP_Crew_cap) := XP1.out.cell 2
  try clear cP1_3
  have cP1_3 : World.cell? (w3) ⟨w.heap.size + 1, 3, none⟩ = some (.slice aP_Past_a aP_Past_L.length aP_Past_cap) := XP1.out.cell 3
  go_wp2_with fail
  have hgd := grown_drew (World.grownBy.refl w3 none)
  have HB5 := Lib.hid (HB4.out.grown hgd HB4.out.size (fun _ h => by cases h)); clear HB4
  have XP0 := Lib.hid (XP0.out.grown hgd)
  have XP1 := Lib.hid (XP1.out.grown hgd)
  clear hgd
  try clear cP0_0
  have cP0_0 : World.cell? ((World.drew w3)) ⟨w.heap.size, 0, none⟩ = some (.int .i64 aX_W) := XP0.out.cell 0
  try clear cP0_1
  have cP0_1 : World.cell? ((World.drew w3)) ⟨w.heap.size, 1, none⟩ = some (.int .i64 aX_H) := XP0.out.cell 1
  try clear cP0_2
  have cP0_2 : World.cell? ((World.drew w3)) ⟨w.heap.size, 2, none⟩ = some (.slice aX_Cells_a aX_Cells_L.length aX_Cells_cap) := XP0.out.cell 2
  try clear cP1_0
  have cP1_0 : World.cell? ((World.drew w3)) ⟨w.heap.size + 1, 0, none⟩ = some (.int .i64 aP_At) := XP1.out.cell 0
  try clear cP1_1
  have cP1_1 : World.cell? ((World.drew w3)) ⟨w.heap.size + 1, 1, none⟩ = some (.int .i64 aP_Food) := XP1.out.cell 1
  try clear cP1_2
  have cP1_2 : World.cell? ((World.drew w3)) ⟨w.heap.size + 1, 2, none⟩ = some (.slice aP_Crew_a aP_Crew_L.length aP_Crew_cap) := XP1.out.cell 2
  try clear cP1_3
  have cP1_3 : World.cell? ((World.drew w3)) ⟨w.heap.size + 1, 3, none⟩ = some (.slice aP_Past_a aP_Past_L.length aP_Past_cap) := XP1.out.cell 3
  refine wp_region_held_drew (S := fun w' => w'.cell? ⟨w.heap.size, 0, none⟩ = some (.int .i64 aX_W) ∧ w'.cell? ⟨w.heap.size, 1, none⟩ = some (.int .i64 aX_H) ∧ w'.cell? ⟨w.heap.size, 2, none⟩ = some (.slice aX_Cells_a aX_Cells_L.length aX_Cells_cap) ∧ w'.cell? ⟨w.heap.size + 1, 0, none⟩ = some (.int .i64 aP_At) ∧ w'.cell? ⟨w.heap.size + 1, 1, none⟩ = some (.int .i64 aP_Food) ∧ w'.cell? ⟨w.heap.size + 1, 2, none⟩ = some (.slice aP_Crew_a aP_Crew_L.length aP_Crew_cap) ∧ w'.cell? ⟨w.heap.size + 1, 3, none⟩ = some (.slice aP_Past_a aP_Past_L.length aP_Past_cap)) (by kernel_rfl) ⟨cP0_0, cP0_1, cP0_2, cP1_0, cP1_1, cP1_2, cP1_3⟩ (fun hHeld => ?_)
  refine wpAnyH_take (i := 0) (v := ?_) rfl (by kernel_rfl) (by kernel_rfl) (by kernel_rfl) (fun _ _ _ h => h) (Or.inl ⟨by rfl, ?_⟩) (by assumption) ?_; rotate_left; (focus (intro wS hSw; (try dsimp only at hSw); go_simp <;> with_reducible rfl)); (try simp only [Act.put, List.getElem_toArray, List.getElem_cons_succ, List.getElem_cons_zero, List.setIfInBounds_toArray, List.set_cons_zero, List.set_cons_succ])
  refine wpAnyH_take (i := 2) (v := ?_) rfl (by kernel_rfl) (by kernel_rfl) (by kernel_rfl) (fun _ _ _ h => h) (Or.inl ⟨by rfl, ?_⟩) (by assumption) ?_; rotate_left; (focus (intro wS hSw; (try dsimp only at hSw); go_simp <;> with_reducible rfl)); (try simp only [Act.put, List.getElem_toArray, List.getElem_cons_succ, List.getElem_cons_zero, List.setIfInBounds_toArray, List.set_cons_zero, List.set_cons_succ])
  refine wpAnyH_ready (rs := [1]) (by kernel_rfl) (by simp) ?_; refine AllReadyH.cons rfl (fun K hK => ?_) AllReadyH.nil; go_simp; (go_at_call 16; refine (LandL.toLand_any (World.drew w3) aX_W aX_H _ _ (aX_Cells_S.out.below HB5.out) (by omega)).mono ?_; rintro e w5 ⟨u1, rfl, ho, hg⟩; have D_u1_P0 := Lib.hid (ho.off XP0.out.lt); have D_u1_P1 := Lib.hid (ho.off XP1.out.lt); have Ou1 := Lib.hid (ho.lower HB5.out.size); have HB6 := Lib.hid (HB5.out.grown hg HB5.out.size (fun _ h => by cases h)); clear HB5; have XP0 := Lib.hid (XP0.out.grown hg); have XP1 := Lib.hid (XP1.out.grown hg); clear ho hg)
  refine hK.out _ _ ?_ (fun hHeld => ?_)
  · exact ⟨XP0.out.cell 0, XP0.out.cell 1, XP0.out.cell 2, XP1.out.cell 0, XP1.out.cell 1, XP1.out.cell 2, XP1.out.cell 3⟩
  clear hK K
  (try simp only [Act.put, List.getElem_toArray, List.getElem_cons_succ, List.getElem_cons_zero, List.setIfInBounds_toArray, List.set_cons_zero, List.set_cons_succ])
  refine wpAnyH_ready (rs := [3]) (by kernel_rfl) (by simp) ?_; refine AllReadyH.cons rfl (fun K hK => ?_) AllReadyH.nil; go_simp; (go_at_call 27; refine (PartyL.toParty_any w5 aP_At aP_Food _ _ _ _ (aP_Crew_S.out.below HB6.out) (aP_Past_S.out.below HB6.out) (by omega) (by omega)).mono ?_; rintro e w6 ⟨u2, u3, rfl, ho1, ho2, hap, hg⟩; have A_u2_u1 := Lib.hid (Rg.apart_lt ho1.lt Ou1.out.lt (Nat.le_refl _)); have D_u2_P0 := Lib.hid (ho1.off XP0.out.lt); have D_u2_P1 := Lib.hid (ho1.off XP1.out.lt); have Ou2 := Lib.hid (ho1.lower HB6.out.size); have A_u3_u1 := Lib.hid (Rg.apart_lt ho2.lt Ou1.out.lt (Nat.le_refl _)); have D_u3_P0 := Lib.hid (ho2.off XP0.out.lt); have D_u3_P1 := Lib.hid (ho2.off XP1.out.lt); have Ou3 := Lib.hid (ho2.lower HB6.out.size); have A_u3_u2 := Lib.hid hap; have HB7 := Lib.hid (HB6.out.grown hg HB6.out.size (fun _ h => by cases h)); clear HB6; have Ou1 := Lib.hid (Ou1.out.grown hg); have XP0 := Lib.hid (XP0.out.grown hg); have XP1 := Lib.hid (XP1.out.grown hg); clear ho1 ho2 hap hg)
  refine hK.out _ _ ?_ (fun hHeld => ?_)
  · exact ⟨XP0.out.cell 0, XP0.out.cell 1, XP0.out.cell 2, XP1.out.cell 0, XP1.out.cell 1, XP1.out.cell 2, XP1.out.cell 3⟩
  clear hK K
  (try simp only [Act.put, List.getElem_toArray, List.getElem_cons_succ, List.getElem_cons_zero, List.setIfInBounds_toArray, List.set_cons_zero, List.set_cons_succ])
  refine wpAnyH_ready (rs := [4]) (by kernel_rfl) (by simp) ?_; refine AllReadyH.cons rfl (fun K hK => ?_) AllReadyH.nil; go_simp; (go_at_call 26; refine (Ptt.sParty_any w6 aX_W aX_H _ aX_Cells_L aP_At aP_Food _ _ aP_Crew_L aP_Past_L (Ou1.out.sees) (Ou2.out.sees) (Ou3.out.sees)).mono ?_; rintro e w7 ⟨rfl, hg⟩; have HB8 := Lib.hid (HB7.out.grown hg HB7.out.size (fun _ h => by cases h)); clear HB7; have Ou1 := Lib.hid (Ou1.out.grown hg); have Ou2 := Lib.hid (Ou2.out.grown hg); have Ou3 := Lib.hid (Ou3.out.grown hg); have XP0 := Lib.hid (XP0.out.grown hg); have XP1 := Lib.hid (XP1.out.grown hg); clear hg)
  refine hK.out _ _ ?_ (fun hHeld => ?_)
  · exact ⟨XP0.out.cell 0, XP0.out.cell 1, XP0.out.cell 2, XP1.out.cell 0, XP1.out.cell 1, XP1.out.cell 2, XP1.out.cell 3⟩
  clear hK K
  (try simp only [Act.put, List.getElem_toArray, List.getElem_cons_succ, List.getElem_cons_zero, List.setIfInBounds_toArray, List.set_cons_zero, List.set_cons_succ])
  refine wpAnyH_take (i := 5) (v := ?_) rfl (by kernel_rfl) (by kernel_rfl) (by kernel_rfl) (fun _ _ _ h => h) (Or.inl ⟨by rfl, ?_⟩) (by assumption) ?_; rotate_left; (focus (intro wS hSw; (try dsimp only at hSw); go_simp <;> with_reducible rfl)); (try simp only [Act.put, List.getElem_toArray, List.getElem_cons_succ, List.getElem_cons_zero, List.setIfInBounds_toArray, List.set_cons_zero, List.set_cons_succ])
  refine wpAnyH_done (by kernel_rfl) ?_ _
  (try simp only [Act.put, List.getElem_toArray, List.getElem_cons_succ, List.getElem_cons_zero, List.setIfInBounds_toArray, List.set_cons_zero, List.set_cons_succ])
  clear Ou1
  clear Ou2
  clear Ou3
  try clear cP0_0
  have cP0_0 : World.cell? (w7) ⟨w.heap.size, 0, none⟩ = some (.int .i64 aX_W) := XP0.out.cell 0
  try clear cP0_1
  have cP0_1 : World.cell? (w7) ⟨w.heap.size, 1, none⟩ = some (.int .i64 aX_H) := XP0.out.cell 1
  try clear cP0_2
  have cP0_2 : World.cell? (w7) ⟨w.heap.size, 2, none⟩ = some (.slice aX_Cells_a aX_Cells_L.length aX_Cells_cap) := XP0.out.cell 2
  try clear cP1_0
  have cP1_0 : World.cell? (w7) ⟨w.heap.size + 1, 0, none⟩ = some (.int .i64 aP_At) := XP1.out.cell 0
  try clear cP1_1
  have cP1_1 : World.cell? (w7) ⟨w.heap.size + 1, 1, none⟩ = some (.int .i64 aP_Food) := XP1.out.cell 1
  try clear cP1_2
  have cP1_2 : World.cell? (w7) ⟨w.heap.size + 1, 2, none⟩ = some (.slice aP_Crew_a aP_Crew_L.length aP_Crew_cap) := XP1.out.cell 2
  try clear cP1_3
  have cP1_3 : World.cell? (w7) ⟨w.heap.size + 1, 3, none⟩ = some (.slice aP_Past_a aP_Past_L.length aP_Past_cap) := XP1.out.cell 3
  go_wp2_with fail
  refine (LandL.toLand_any w7 aX_W aX_H _ _ (aX_Cells_S.out.below HB8.out) (by omega)).mono ?_
  rintro e w8 ⟨u4, rfl, ho, hg⟩
  have D_u4_P0 := Lib.hid (ho.off XP0.out.lt)
  have D_u4_P1 := Lib.hid (ho.off XP1.out.lt)
  have Ou4 := Lib.hid (ho.lower HB8.out.size)
  have HB9 := Lib.hid (HB8.out.grown hg HB8.out.size (fun _ h => by cases h)); clear HB8
  have XP0 := Lib.hid (XP0.out.grown hg)
  have XP1 := Lib.hid (XP1.out.grown hg)
  clear ho hg
  obtain ⟨u4_a, u4_n, u4_c, hu4, Nu4⟩ := Ou4.out.sees.shape; subst hu4
  have hgb := World.grownBy_alloc w8 (.cells #[.int .i64 aX_W, .int .i64 aX_H, .slice u4_a u4_n u4_c] 27 (0, 0)) none
  have D_u4_B5 := Lib.hid (Ou4.out.off' (Nat.le_refl _))
  have HB10 := Lib.hid (HB9.out.grown hgb HB9.out.size (fun _ h => by cases h)); clear HB9
  have Ou4 := Lib.hid (Ou4.out.grown hgb)
  have XP0 := Lib.hid (XP0.out.grown hgb)
  have XP1 := Lib.hid (XP1.out.grown hgb)
  have XB5 := Lib.hid (box_new w8 #[.int .i64 aX_W, .int .i64 aX_H, .slice u4_a u4_n u4_c] 27); clear hgb
  try clear cP0_0
  have cP0_0 : World.cell? (w8.alloc (.cells #[.int .i64 aX_W, .int .i64 aX_H, .slice u4_a u4_n u4_c] 27 (0, 0))) ⟨w.heap.size, 0, none⟩ = some (.int .i64 aX_W) := XP0.out.cell 0
  try clear cP0_1
  have cP0_1 : World.cell? (w8.alloc (.cells #[.int .i64 aX_W, .int .i64 aX_H, .slice u4_a u4_n u4_c] 27 (0, 0))) ⟨w.heap.size, 1, none⟩ = some (.int .i64 aX_H) := XP0.out.cell 1
  try clear cP0_2
  have cP0_2 : World.cell? (w8.alloc (.cells #[.int .i64 aX_W, .int .i64 aX_H, .slice u4_a u4_n u4_c] 27 (0, 0))) ⟨w.heap.size, 2, none⟩ = some (.slice aX_Cells_a aX_Cells_L.length aX_Cells_cap) := XP0.out.cell 2
  try clear cP1_0
  have cP1_0 : World.cell? (w8.alloc (.cells #[.int .i64 aX_W, .int .i64 aX_H, .slice u4_a u4_n u4_c] 27 (0, 0))) ⟨w.heap.size + 1, 0, none⟩ = some (.int .i64 aP_At) := XP1.out.cell 0
  try clear cP1_1
  have cP1_1 : World.cell? (w8.alloc (.cells #[.int .i64 aX_W, .int .i64 aX_H, .slice u4_a u4_n u4_c] 27 (0, 0))) ⟨w.heap.size + 1, 1, none⟩ = some (.int .i64 aP_Food) := XP1.out.cell 1
  try clear cP1_2
  have cP1_2 : World.cell? (w8.alloc (.cells #[.int .i64 aX_W, .int .i64 aX_H, .slice u4_a u4_n u4_c] 27 (0, 0))) ⟨w.heap.size + 1, 2, none⟩ = some (.slice aP_Crew_a aP_Crew_L.length aP_Crew_cap) := XP1.out.cell 2
  try clear cP1_3
  have cP1_3 : World.cell? (w8.alloc (.cells #[.int .i64 aX_W, .int .i64 aX_H, .slice u4_a u4_n u4_c] 27 (0, 0))) ⟨w.heap.size + 1, 3, none⟩ = some (.slice aP_Past_a aP_Past_L.length aP_Past_cap) := XP1.out.cell 3
  try clear cB5_0
  have cB5_0 : World.cell? (w8.alloc (.cells #[.int .i64 aX_W, .int .i64 aX_H, .slice u4_a u4_n u4_c] 27 (0, 0))) ⟨w8.heap.size, 0, none⟩ = some (.int .i64 aX_W) := XB5.out.cell 0
  try clear cB5_1
  have cB5_1 : World.cell? (w8.alloc (.cells #[.int .i64 aX_W, .int .i64 aX_H, .slice u4_a u4_n u4_c] 27 (0, 0))) ⟨w8.heap.size, 1, none⟩ = some (.int .i64 aX_H) := XB5.out.cell 1
  try clear cB5_2
  have cB5_2 : World.cell? (w8.alloc (.cells #[.int .i64 aX_W, .int .i64 aX_H, .slice u4_a u4_n u4_c] 27 (0, 0))) ⟨w8.heap.size, 2, none⟩ = some (.slice u4_a u4_n u4_c) := XB5.out.cell 2
  go_wp2_with fail
  generalize w8.alloc (.cells #[.int .i64 aX_W, .int .i64 aX_H, .slice u4_a u4_n u4_c] 27 (0, 0)) = w9 at *
  refine (PartyL.toParty_any w9 aP_At aP_Food _ _ _ _ (aP_Crew_S.out.below HB10.out) (aP_Past_S.out.below HB10.out) (by omega) (by omega)).mono ?_
  rintro e w10 ⟨u6, u7, rfl, ho1, ho2, hap, hg⟩
  have A_u6_u4 := Lib.hid (Rg.apart_lt ho1.lt Ou4.out.lt (Nat.le_refl _))
  have D_u6_P0 := Lib.hid (ho1.off XP0.out.lt)
  have D_u6_P1 := Lib.hid (ho1.off XP1.out.lt)
  have D_u6_B5 := Lib.hid (ho1.off XB5.out.lt)
  have Ou6 := Lib.hid (ho1.lower HB10.out.size)
  have A_u7_u4 := Lib.hid (Rg.apart_lt ho2.lt Ou4.out.lt (Nat.le_refl _))
  have D_u7_P0 := Lib.hid (ho2.off XP0.out.lt)
  have D_u7_P1 := Lib.hid (ho2.off XP1.out.lt)
  have D_u7_B5 := Lib.hid (ho2.off XB5.out.lt)
  have Ou7 := Lib.hid (ho2.lower HB10.out.size)
  have A_u7_u6 := Lib.hid hap
  have HB11 := Lib.hid (HB10.out.grown hg HB10.out.size (fun _ h => by cases h)); clear HB10
  have Ou4 := Lib.hid (Ou4.out.grown hg)
  have XP0 := Lib.hid (XP0.out.grown hg)
  have XP1 := Lib.hid (XP1.out.grown hg)
  have XB5 := Lib.hid (XB5.out.grown hg)
  clear ho1 ho2 hap hg
  obtain ⟨u6_a, u6_n, u6_c, hu6, Nu6⟩ := Ou6.out.sees.shape; subst hu6
  obtain ⟨u7_a, u7_n, u7_c, hu7, Nu7⟩ := Ou7.out.sees.shape; subst hu7
  have hgb := World.grownBy_alloc w10 (.cells #[.int .i64 aP_At, .int .i64 aP_Food, .slice u6_a u6_n u6_c, .slice u7_a u7_n u7_c] 45 (0, 0)) none
  have D_u4_B8 := Lib.hid (Ou4.out.off' (Nat.le_refl _))
  have D_u6_B8 := Lib.hid (Ou6.out.off' (Nat.le_refl _))
  have D_u7_B8 := Lib.hid (Ou7.out.off' (Nat.le_refl _))
  have HB12 := Lib.hid (HB11.out.grown hgb HB11.out.size (fun _ h => by cases h)); clear HB11
  have Ou4 := Lib.hid (Ou4.out.grown hgb)
  have Ou6 := Lib.hid (Ou6.out.grown hgb)
  have Ou7 := Lib.hid (Ou7.out.grown hgb)
  have XP0 := Lib.hid (XP0.out.grown hgb)
  have XP1 := Lib.hid (XP1.out.grown hgb)
  have XB5 := Lib.hid (XB5.out.grown hgb)
  have XB8 := Lib.hid (box_new w10 #[.int .i64 aP_At, .int .i64 aP_Food, .slice u6_a u6_n u6_c, .slice u7_a u7_n u7_c] 45); clear hgb
  try clear cP0_0
  have cP0_0 : World.cell? (w10.alloc (.cells #[.int .i64 aP_At, .int .i64 aP_Food, .slice u6_a u6_n u6_c, .slice u7_a u7_n u7_c] 45 (0, 0))) ⟨w.heap.size, 0, none⟩ = some (.int .i64 aX_W) := XP0.out.cell 0
  try clear cP0_1
  have cP0_1 : World.cell? (w10.alloc (.cells #[.int .i64 aP_At, .int .i64 aP_Food, .slice u6_a u6_n u6_c, .slice u7_a u7_n u7_c] 45 (0, 0))) ⟨w.heap.size, 1, none⟩ = some (.int .i64 aX_H) := XP0.out.cell 1
  try clear cP0_2
  have cP0_2 : World.cell? (w10.alloc (.cells #[.int .i64 aP_At, .int .i64 aP_Food, .slice u6_a u6_n u6_c, .slice u7_a u7_n u7_c] 45 (0, 0))) ⟨w.heap.size, 2, none⟩ = some (.slice aX_Cells_a aX_Cells_L.length aX_Cells_cap) := XP0.out.cell 2
  try clear cP1_0
  have cP1_0 : World.cell? (w10.alloc (.cells #[.int .i64 aP_At, .int .i64 aP_Food, .slice u6_a u6_n u6_c, .slice u7_a u7_n u7_c] 45 (0, 0))) ⟨w.heap.size + 1, 0, none⟩ = some (.int .i64 aP_At) := XP1.out.cell 0
  try clear cP1_1
  have cP1_1 : World.cell? (w10.alloc (.cells #[.int .i64 aP_At, .int .i64 aP_Food, .slice u6_a u6_n u6_c, .slice u7_a u7_n u7_c] 45 (0, 0))) ⟨w.heap.size + 1, 1, none⟩ = some (.int .i64 aP_Food) := XP1.out.cell 1
  try clear cP1_2
  have cP1_2 : World.cell? (w10.alloc (.cells #[.int .i64 aP_At, .int .i64 aP_Food, .slice u6_a u6_n u6_c, .slice u7_a u7_n u7_c] 45 (0, 0))) ⟨w.heap.size + 1, 2, none⟩ = some (.slice aP_Crew_a aP_Crew_L.length aP_Crew_cap) := XP1.out.cell 2
  try clear cP1_3
  have cP1_3 : World.cell? (w10.alloc (.cells #[.int .i64 aP_At, .int .i64 aP_Food, .slice u6_a u6_n u6_c, .slice u7_a u7_n u7_c] 45 (0, 0))) ⟨w.heap.size + 1, 3, none⟩ = some (.slice aP_Past_a aP_Past_L.length aP_Past_cap) := XP1.out.cell 3
  try clear cB5_0
  have cB5_0 : World.cell? (w10.alloc (.cells #[.int .i64 aP_At, .int .i64 aP_Food, .slice u6_a u6_n u6_c, .slice u7_a u7_n u7_c] 45 (0, 0))) ⟨w8.heap.size, 0, none⟩ = some (.int .i64 aX_W) := XB5.out.cell 0
  try clear cB5_1
  have cB5_1 : World.cell? (w10.alloc (.cells #[.int .i64 aP_At, .int .i64 aP_Food, .slice u6_a u6_n u6_c, .slice u7_a u7_n u7_c] 45 (0, 0))) ⟨w8.heap.size, 1, none⟩ = some (.int .i64 aX_H) := XB5.out.cell 1
  try clear cB5_2
  have cB5_2 : World.cell? (w10.alloc (.cells #[.int .i64 aP_At, .int .i64 aP_Food, .slice u6_a u6_n u6_c, .slice u7_a u7_n u7_c] 45 (0, 0))) ⟨w8.heap.size, 2, none⟩ = some (.slice u4_a u4_n u4_c) := XB5.out.cell 2
  try clear cB8_0
  have cB8_0 : World.cell? (w10.alloc (.cells #[.int .i64 aP_At, .int .i64 aP_Food, .slice u6_a u6_n u6_c, .slice u7_a u7_n u7_c] 45 (0, 0))) ⟨w10.heap.size, 0, none⟩ = some (.int .i64 aP_At) := XB8.out.cell 0
  try clear cB8_1
  have cB8_1 : World.cell? (w10.alloc (.cells #[.int .i64 aP_At, .int .i64 aP_Food, .slice u6_a u6_n u6_c, .slice u7_a u7_n u7_c] 45 (0, 0))) ⟨w10.heap.size, 1, none⟩ = some (.int .i64 aP_Food) := XB8.out.cell 1
  try clear cB8_2
  have cB8_2 : World.cell? (w10.alloc (.cells #[.int .i64 aP_At, .int .i64 aP_Food, .slice u6_a u6_n u6_c, .slice u7_a u7_n u7_c] 45 (0, 0))) ⟨w10.heap.size, 2, none⟩ = some (.slice u6_a u6_n u6_c) := XB8.out.cell 2
  try clear cB8_3
  have cB8_3 : World.cell? (w10.alloc (.cells #[.int .i64 aP_At, .int .i64 aP_Food, .slice u6_a u6_n u6_c, .slice u7_a u7_n u7_c] 45 (0, 0))) ⟨w10.heap.size, 3, none⟩ = some (.slice u7_a u7_n u7_c) := XB8.out.cell 3
  go_wp2_with fail
  generalize w10.alloc (.cells #[.int .i64 aP_At, .int .i64 aP_Food, .slice u6_a u6_n u6_c, .slice u7_a u7_n u7_c] 45 (0, 0)) = w11 at *
  refine (Ptt.iParty_any w11 aX_W aX_H _ aX_Cells_L aP_At aP_Food _ _ aP_Crew_L aP_Past_L (Ou4.out.sees) (Ou6.out.sees) (Ou7.out.sees) (HTB.out.below HB12.out (Nat.le_refl _))).mono ?_
  rintro e w12 ⟨rfl, hg⟩
  have HB13 := Lib.hid (HB12.out.grown hg HB12.out.size (fun _ h => by cases h)); clear HB12
  have Ou4 := Lib.hid (Ou4.out.grown hg)
  have Ou6 := Lib.hid (Ou6.out.grown hg)
  have Ou7 := Lib.hid (Ou7.out.grown hg)
  have XP0 := Lib.hid (XP0.out.grown hg)
  have XP1 := Lib.hid (XP1.out.grown hg)
  have XB5 := Lib.hid (XB5.out.grown hg)
  have XB8 := Lib.hid (XB8.out.grown hg)
  clear hg
  try clear cP0_0
  have cP0_0 : World.cell? (w12) ⟨w.heap.size, 0, none⟩ = some (.int .i64 aX_W) := XP0.out.cell 0
  try clear cP0_1
  have cP0_1 : World.cell? (w12) ⟨w.heap.size, 1, none⟩ = some (.int .i64 aX_H) := XP0.out.cell 1
  try clear cP0_2
  have cP0_2 : World.cell? (w12) ⟨w.heap.size, 2, none⟩ = some (.slice aX_Cells_a aX_Cells_L.length aX_Cells_cap) := XP0.out.cell 2
  try clear cP1_0
  have cP1_0 : World.cell? (w12) ⟨w.heap.size + 1, 0, none⟩ = some (.int .i64 aP_At) := XP1.out.cell 0
  try clear cP1_1
  have cP1_1 : World.cell? (w12) ⟨w.heap.size + 1, 1, none⟩ = some (.int .i64 aP_Food) := XP1.out.cell 1
  try clear cP1_2
  have cP1_2 : World.cell? (w12) ⟨w.heap.size + 1, 2, none⟩ = some (.slice aP_Crew_a aP_Crew_L.length aP_Crew_cap) := XP1.out.cell 2
  try clear cP1_3
  have cP1_3 : World.cell? (w12) ⟨w.heap.size + 1, 3, none⟩ = some (.slice aP_Past_a aP_Past_L.length aP_Past_cap) := XP1.out.cell 3
  try clear cB5_0
  have cB5_0 : World.cell? (w12) ⟨w8.heap.size, 0, none⟩ = some (.int .i64 aX_W) := XB5.out.cell 0
  try clear cB5_1
  have cB5_1 : World.cell? (w12) ⟨w8.heap.size, 1, none⟩ = some (.int .i64 aX_H) := XB5.out.cell 1
  try clear cB5_2
  have cB5_2 : World.cell? (w12) ⟨w8.heap.size, 2, none⟩ = some (.slice u4_a u4_n u4_c) := XB5.out.cell 2
  try clear cB8_0
  have cB8_0 : World.cell? (w12) ⟨w10.heap.size, 0, none⟩ = some (.int .i64 aP_At) := XB8.out.cell 0
  try clear cB8_1
  have cB8_1 : World.cell? (w12) ⟨w10.heap.size, 1, none⟩ = some (.int .i64 aP_Food) := XB8.out.cell 1
  try clear cB8_2
  have cB8_2 : World.cell? (w12) ⟨w10.heap.size, 2, none⟩ = some (.slice u6_a u6_n u6_c) := XB8.out.cell 2
  try clear cB8_3
  have cB8_3 : World.cell? (w12) ⟨w10.heap.size, 3, none⟩ = some (.slice u7_a u7_n u7_c) := XB8.out.cell 3
  go_wp2_with fail
  have hgd := grown_drew (World.grownBy.refl w12 none)
  have HB14 := Lib.hid (HB13.out.grown hgd HB13.out.size (fun _ h => by cases h)); clear HB13
  have Ou4 := Lib.hid (Ou4.out.grown hgd)
  have Ou6 := Lib.hid (Ou6.out.grown hgd)
  have Ou7 := Lib.hid (Ou7.out.grown hgd)
  have XP0 := Lib.hid (XP0.out.grown hgd)
  have XP1 := Lib.hid (XP1.out.grown hgd)
  have XB5 := Lib.hid (XB5.out.grown hgd)
  have XB8 := Lib.hid (XB8.out.grown hgd)
  clear hgd
  try clear cB5_0
  have cB5_0 : World.cell? ((World.drew w12)) ⟨w8.heap.size, 0, none⟩ = some (.int .i64 aX_W) := XB5.out.cell 0
  try clear cB5_1
  have cB5_1 : World.cell? ((World.drew w12)) ⟨w8.heap.size, 1, none⟩ = some (.int .i64 aX_H) := XB5.out.cell 1
  try clear cB5_2
  have cB5_2 : World.cell? ((World.drew w12)) ⟨w8.heap.size, 2, none⟩ = some (.slice u4_a u4_n u4_c) := XB5.out.cell 2
  try clear cP0_0
  have cP0_0 : World.cell? ((World.drew w12)) ⟨w.heap.size, 0, none⟩ = some (.int .i64 aX_W) := XP0.out.cell 0
  try clear cP0_1
  have cP0_1 : World.cell? ((World.drew w12)) ⟨w.heap.size, 1, none⟩ = some (.int .i64 aX_H) := XP0.out.cell 1
  try clear cP0_2
  have cP0_2 : World.cell? ((World.drew w12)) ⟨w.heap.size, 2, none⟩ = some (.slice aX_Cells_a aX_Cells_L.length aX_Cells_cap) := XP0.out.cell 2
  refine wp_region_held_drew (S := fun w' => w'.cell? ⟨w8.heap.size, 0, none⟩ = some (.int .i64 aX_W) ∧ w'.cell? ⟨w8.heap.size, 1, none⟩ = some (.int .i64 aX_H) ∧ w'.cell? ⟨w8.heap.size, 2, none⟩ = some (.slice u4_a u4_n u4_c) ∧ w'.cell? ⟨w.heap.size, 0, none⟩ = some (.int .i64 aX_W) ∧ w'.cell? ⟨w.heap.size, 1, none⟩ = some (.int .i64 aX_H) ∧ w'.cell? ⟨w.heap.size, 2, none⟩ = some (.slice aX_Cells_a aX_Cells_L.length aX_Cells_cap)) (by kernel_rfl) ⟨cB5_0, cB5_1, cB5_2, cP0_0, cP0_1, cP0_2⟩ (fun hHeld => ?_)
  refine wpAnyH_take (i := 0) (v := ?_) rfl (by kernel_rfl) (by kernel_rfl) (by kernel_rfl) (fun _ _ _ h => h) (Or.inl ⟨by rfl, ?_⟩) (by assumption) ?_; rotate_left; (focus (intro wS hSw; (try dsimp only at hSw); go_simp <;> with_reducible rfl)); (try simp only [Act.put, List.getElem_toArray, List.getElem_cons_succ, List.getElem_cons_zero, List.setIfInBounds_toArray, List.set_cons_zero, List.set_cons_succ])
  refine wpAnyH_take (i := 1) (v := ?_) rfl (by kernel_rfl) (by kernel_rfl) (by kernel_rfl) (fun _ _ _ h => h) (Or.inl ⟨by rfl, ?_⟩) (by assumption) ?_; rotate_left; (focus (intro wS hSw; (try dsimp only at hSw); go_simp <;> with_reducible rfl)); (try simp only [Act.put, List.getElem_toArray, List.getElem_cons_succ, List.getElem_cons_zero, List.setIfInBounds_toArray, List.set_cons_zero, List.set_cons_succ])
  refine wpAnyH_ready (rs := [2]) (by kernel_rfl) (by simp) ?_; refine AllReadyH.cons rfl (fun K hK => ?_) AllReadyH.nil; go_simp; (go_at_call 16; refine (LandL.toLand_any (World.drew w12) aX_W aX_H _ _ (aX_Cells_S.out.below HB14.out) (by omega)).mono ?_; rintro e w14 ⟨u9, rfl, ho, hg⟩; have A_u9_u4 := Lib.hid (Rg.apart_lt ho.lt Ou4.out.lt (Nat.le_refl _)); have A_u9_u6 := Lib.hid (Rg.apart_lt ho.lt Ou6.out.lt (Nat.le_refl _)); have A_u9_u7 := Lib.hid (Rg.apart_lt ho.lt Ou7.out.lt (Nat.le_refl _)); have D_u9_P0 := Lib.hid (ho.off XP0.out.lt); have D_u9_P1 := Lib.hid (ho.off XP1.out.lt); have D_u9_B5 := Lib.hid (ho.off XB5.out.lt); have D_u9_B8 := Lib.hid (ho.off XB8.out.lt); have Ou9 := Lib.hid (ho.lower HB14.out.size); have HB15 := Lib.hid (HB14.out.grown hg HB14.out.size (fun _ h => by cases h)); clear HB14; have Ou4 := Lib.hid (Ou4.out.grown hg); have Ou6 := Lib.hid (Ou6.out.grown hg); have Ou7 := Lib.hid (Ou7.out.grown hg); have XP0 := Lib.hid (XP0.out.grown hg); have XP1 := Lib.hid (XP1.out.grown hg); have XB5 := Lib.hid (XB5.out.grown hg); have XB8 := Lib.hid (XB8.out.grown hg); clear ho hg)
  refine hK.out _ _ ?_ (fun hHeld => ?_)
  · exact ⟨XB5.out.cell 0, XB5.out.cell 1, XB5.out.cell 2, XP0.out.cell 0, XP0.out.cell 1, XP0.out.cell 2⟩
  clear hK K
  (try simp only [Act.put, List.getElem_toArray, List.getElem_cons_succ, List.getElem_cons_zero, List.setIfInBounds_toArray, List.set_cons_zero, List.set_cons_succ])
  refine wpAnyH_ready (rs := [3]) (by kernel_rfl) (by simp) ?_; refine AllReadyH.cons rfl (fun K hK => ?_) AllReadyH.nil; go_simp; (go_at_call 18; refine (LandL.eqLand_same w14 aX_W aX_H _ _ _ (Ou4.out.sees) (Ou9.out.sees)).mono ?_; rintro e w15 ⟨rfl, hg⟩; have HB16 := Lib.hid (HB15.out.grown hg HB15.out.size (fun _ h => by cases h)); clear HB15; have Ou4 := Lib.hid (Ou4.out.grown hg); have Ou6 := Lib.hid (Ou6.out.grown hg); have Ou7 := Lib.hid (Ou7.out.grown hg); have Ou9 := Lib.hid (Ou9.out.grown hg); have XP0 := Lib.hid (XP0.out.grown hg); have XP1 := Lib.hid (XP1.out.grown hg); have XB5 := Lib.hid (XB5.out.grown hg); have XB8 := Lib.hid (XB8.out.grown hg); clear hg)
  refine hK.out _ _ ?_ (fun hHeld => ?_)
  · exact ⟨XB5.out.cell 0, XB5.out.cell 1, XB5.out.cell 2, XP0.out.cell 0, XP0.out.cell 1, XP0.out.cell 2⟩
  clear hK K
  (try simp only [Act.put, List.getElem_toArray, List.getElem_cons_succ, List.getElem_cons_zero, List.setIfInBounds_toArray, List.set_cons_zero, List.set_cons_succ])
  refine wpAnyH_take (i := 4) (v := ?_) rfl (by kernel_rfl) (by kernel_rfl) (by kernel_rfl) (fun _ _ _ h => h) (Or.inl ⟨by rfl, ?_⟩) (by assumption) ?_; rotate_left; (focus (intro wS hSw; (try dsimp only at hSw); go_simp <;> with_reducible rfl)); (try simp only [Act.put, List.getElem_toArray, List.getElem_cons_succ, List.getElem_cons_zero, List.setIfInBounds_toArray, List.set_cons_zero, List.set_cons_succ])
  refine wpAnyH_done (by kernel_rfl) ?_ _
  (try simp only [Act.put, List.getElem_toArray, List.getElem_cons_succ, List.getElem_cons_zero, List.setIfInBounds_toArray, List.set_cons_zero, List.set_cons_succ])
  clear Ou9
  clear Ou4
  try clear cP0_0
  have cP0_0 : World.cell? (w15) ⟨w.heap.size, 0, none⟩ = some (.int .i64 aX_W) := XP0.out.cell 0
  try clear cP0_1
  have cP0_1 : World.cell? (w15) ⟨w.heap.size, 1, none⟩ = some (.int .i64 aX_H) := XP0.out.cell 1
  try clear cP0_2
  have cP0_2 : World.cell? (w15) ⟨w.heap.size, 2, none⟩ = some (.slice aX_Cells_a aX_Cells_L.length aX_Cells_cap) := XP0.out.cell 2
  try clear cP1_0
  have cP1_0 : World.cell? (w15) ⟨w.heap.size + 1, 0, none⟩ = some (.int .i64 aP_At) := XP1.out.cell 0
  try clear cP1_1
  have cP1_1 : World.cell? (w15) ⟨w.heap.size + 1, 1, none⟩ = some (.int .i64 aP_Food) := XP1.out.cell 1
  try clear cP1_2
  have cP1_2 : World.cell? (w15) ⟨w.heap.size + 1, 2, none⟩ = some (.slice aP_Crew_a aP_Crew_L.length aP_Crew_cap) := XP1.out.cell 2
  try clear cP1_3
  have cP1_3 : World.cell? (w15) ⟨w.heap.size + 1, 3, none⟩ = some (.slice aP_Past_a aP_Past_L.length aP_Past_cap) := XP1.out.cell 3
  try clear cB5_0
  have cB5_0 : World.cell? (w15) ⟨w8.heap.size, 0, none⟩ = some (.int .i64 aX_W) := XB5.out.cell 0
  try clear cB5_1
  have cB5_1 : World.cell? (w15) ⟨w8.heap.size, 1, none⟩ = some (.int .i64 aX_H) := XB5.out.cell 1
  try clear cB5_2
  have cB5_2 : World.cell? (w15) ⟨w8.heap.size, 2, none⟩ = some (.slice u4_a u4_n u4_c) := XB5.out.cell 2
  try clear cB8_0
  have cB8_0 : World.cell? (w15) ⟨w10.heap.size, 0, none⟩ = some (.int .i64 aP_At) := XB8.out.cell 0
  try clear cB8_1
  have cB8_1 : World.cell? (w15) ⟨w10.heap.size, 1, none⟩ = some (.int .i64 aP_Food) := XB8.out.cell 1
  try clear cB8_2
  have cB8_2 : World.cell? (w15) ⟨w10.heap.size, 2, none⟩ = some (.slice u6_a u6_n u6_c) := XB8.out.cell 2
  try clear cB8_3
  have cB8_3 : World.cell? (w15) ⟨w10.heap.size, 3, none⟩ = some (.slice u7_a u7_n u7_c) := XB8.out.cell 3
  go_wp2_with fail
  have hgd := grown_drew (World.grownBy.refl w15 none)
  have HB17 := Lib.hid (HB16.out.grown hgd HB16.out.size (fun _ h => by cases h)); clear HB16
  have Ou6 := Lib.hid (Ou6.out.grown hgd)
  have Ou7 := Lib.hid (Ou7.out.grown hgd)
  have XP0 := Lib.hid (XP0.out.grown hgd)
  have XP1 := Lib.hid (XP1.out.grown hgd)
  have XB5 := Lib.hid (XB5.out.grown hgd)
  have XB8 := Lib.hid (XB8.out.grown hgd)
  clear hgd
  try clear cB8_0
  have cB8_0 : World.cell? ((World.drew w15)) ⟨w10.heap.size, 0, none⟩ = some (.int .i64 aP_At) := XB8.out.cell 0
  try clear cB8_1
  have cB8_1 : World.cell? ((World.drew w15)) ⟨w10.heap.size, 1, none⟩ = some (.int .i64 aP_Food) := XB8.out.cell 1
  try clear cB8_2
  have cB8_2 : World.cell? ((World.drew w15)) ⟨w10.heap.size, 2, none⟩ = some (.slice u6_a u6_n u6_c) := XB8.out.cell 2
  try clear cB8_3
  have cB8_3 : World.cell? ((World.drew w15)) ⟨w10.heap.size, 3, none⟩ = some (.slice u7_a u7_n u7_c) := XB8.out.cell 3
  try clear cP1_0
  have cP1_0 : World.cell? ((World.drew w15)) ⟨w.heap.size + 1, 0, none⟩ = some (.int .i64 aP_At) := XP1.out.cell 0
  try clear cP1_1
  have cP1_1 : World.cell? ((World.drew w15)) ⟨w.heap.size + 1, 1, none⟩ = some (.int .i64 aP_Food) := XP1.out.cell 1
  try clear cP1_2
  have cP1_2 : World.cell? ((World.drew w15)) ⟨w.heap.size + 1, 2, none⟩ = some (.slice aP_Crew_a aP_Crew_L.length aP_Crew_cap) := XP1.out.cell 2
  try clear cP1_3
  have cP1_3 : World.cell? ((World.drew w15)) ⟨w.heap.size + 1, 3, none⟩ = some (.slice aP_Past_a aP_Past_L.length aP_Past_cap) := XP1.out.cell 3
  refine wp_region_held_drew (S := fun w' => w'.cell? ⟨w10.heap.size, 0, none⟩ = some (.int .i64 aP_At) ∧ w'.cell? ⟨w10.heap.size, 1, none⟩ = some (.int .i64 aP_Food) ∧ w'.cell? ⟨w10.heap.size, 2, none⟩ = some (.slice u6_a u6_n u6_c) ∧ w'.cell? ⟨w10.heap.size, 3, none⟩ = some (.slice u7_a u7_n u7_c) ∧ w'.cell? ⟨w.heap.size + 1, 0, none⟩ = some (.int .i64 aP_At) ∧ w'.cell? ⟨w.heap.size + 1, 1, none⟩ = some (.int .i64 aP_Food) ∧ w'.cell? ⟨w.heap.size + 1, 2, none⟩ = some (.slice aP_Crew_a aP_Crew_L.length aP_Crew_cap) ∧ w'.cell? ⟨w.heap.size + 1, 3, none⟩ = some (.slice aP_Past_a aP_Past_L.length aP_Past_cap)) (by kernel_rfl) ⟨cB8_0, cB8_1, cB8_2, cB8_3, cP1_0, cP1_1, cP1_2, cP1_3⟩ (fun hHeld => ?_)
  refine wpAnyH_take (i := 0) (v := ?_) rfl (by kernel_rfl) (by kernel_rfl) (by kernel_rfl) (fun _ _ _ h => h) (Or.inl ⟨by rfl, ?_⟩) (by assumption) ?_; rotate_left; (focus (intro wS hSw; (try dsimp only at hSw); go_simp <;> with_reducible rfl)); (try simp only [Act.put, List.getElem_toArray, List.getElem_cons_succ, List.getElem_cons_zero, List.setIfInBounds_toArray, List.set_cons_zero, List.set_cons_succ])
  refine wpAnyH_take (i := 1) (v := ?_) rfl (by kernel_rfl) (by kernel_rfl) (by kernel_rfl) (fun _ _ _ h => h) (Or.inl ⟨by rfl, ?_⟩) (by assumption) ?_; rotate_left; (focus (intro wS hSw; (try dsimp only at hSw); go_simp <;> with_reducible rfl)); (try simp only [Act.put, List.getElem_toArray, List.getElem_cons_succ, List.getElem_cons_zero, List.setIfInBounds_toArray, List.set_cons_zero, List.set_cons_succ])
  refine wpAnyH_ready (rs := [2]) (by kernel_rfl) (by simp) ?_; refine AllReadyH.cons rfl (fun K hK => ?_) AllReadyH.nil; go_simp; (go_at_call 27; refine (PartyL.toParty_any (World.drew w15) aP_At aP_Food _ _ _ _ (aP_Crew_S.out.below HB17.out) (aP_Past_S.out.below HB17.out) (by omega) (by omega)).mono ?_; rintro e w17 ⟨u10, u11, rfl, ho1, ho2, hap, hg⟩; have A_u10_u6 := Lib.hid (Rg.apart_lt ho1.lt Ou6.out.lt (Nat.le_refl _)); have A_u10_u7 := Lib.hid (Rg.apart_lt ho1.lt Ou7.out.lt (Nat.le_refl _)); have D_u10_P0 := Lib.hid (ho1.off XP0.out.lt); have D_u10_P1 := Lib.hid (ho1.off XP1.out.lt); have D_u10_B5 := Lib.hid (ho1.off XB5.out.lt); have D_u10_B8 := Lib.hid (ho1.off XB8.out.lt); have Ou10 := Lib.hid (ho1.lower HB17.out.size); have A_u11_u6 := Lib.hid (Rg.apart_lt ho2.lt Ou6.out.lt (Nat.le_refl _)); have A_u11_u7 := Lib.hid (Rg.apart_lt ho2.lt Ou7.out.lt (Nat.le_refl _)); have D_u11_P0 := Lib.hid (ho2.off XP0.out.lt); have D_u11_P1 := Lib.hid (ho2.off XP1.out.lt); have D_u11_B5 := Lib.hid (ho2.off XB5.out.lt); have D_u11_B8 := Lib.hid (ho2.off XB8.out.lt); have Ou11 := Lib.hid (ho2.lower HB17.out.size); have A_u11_u10 := Lib.hid hap; have HB18 := Lib.hid (HB17.out.grown hg HB17.out.size (fun _ h => by cases h)); clear HB17; have Ou6 := Lib.hid (Ou6.out.grown hg); have Ou7 := Lib.hid (Ou7.out.grown hg); have XP0 := Lib.hid (XP0.out.grown hg); have XP1 := Lib.hid (XP1.out.grown hg); have XB5 := Lib.hid (XB5.out.grown hg); have XB8 := Lib.hid (XB8.out.grown hg); clear ho1 ho2 hap hg)
  refine hK.out _ _ ?_ (fun hHeld => ?_)
  · exact ⟨XB8.out.cell 0, XB8.out.cell 1, XB8.out.cell 2, XB8.out.cell 3, XP1.out.cell 0, XP1.out.cell 1, XP1.out.cell 2, XP1.out.cell 3⟩
  clear hK K
  (try simp only [Act.put, List.getElem_toArray, List.getElem_cons_succ, List.getElem_cons_zero, List.setIfInBounds_toArray, List.set_cons_zero, List.set_cons_succ])
  refine wpAnyH_ready (rs := [3]) (by kernel_rfl) (by simp) ?_; refine AllReadyH.cons rfl (fun K hK => ?_) AllReadyH.nil; go_simp; (go_at_call 29; refine (PartyL.eqParty_same w17 aP_At aP_Food _ _ _ _ _ _ (Ou6.out.sees) (Ou7.out.sees) (Ou10.out.sees) (Ou11.out.sees)).mono ?_; rintro e w18 ⟨rfl, hg⟩; have HB19 := Lib.hid (HB18.out.grown hg HB18.out.size (fun _ h => by cases h)); clear HB18; have Ou6 := Lib.hid (Ou6.out.grown hg); have Ou7 := Lib.hid (Ou7.out.grown hg); have Ou10 := Lib.hid (Ou10.out.grown hg); have Ou11 := Lib.hid (Ou11.out.grown hg); have XP0 := Lib.hid (XP0.out.grown hg); have XP1 := Lib.hid (XP1.out.grown hg); have XB5 := Lib.hid (XB5.out.grown hg); have XB8 := Lib.hid (XB8.out.grown hg); clear hg)
  refine hK.out _ _ ?_ (fun hHeld => ?_)
  · exact ⟨XB8.out.cell 0, XB8.out.cell 1, XB8.out.cell 2, XB8.out.cell 3, XP1.out.cell 0, XP1.out.cell 1, XP1.out.cell 2, XP1.out.cell 3⟩
  clear hK K
  (try simp only [Act.put, List.getElem_toArray, List.getElem_cons_succ, List.getElem_cons_zero, List.setIfInBounds_toArray, List.set_cons_zero, List.set_cons_succ])
  refine wpAnyH_take (i := 4) (v := ?_) rfl (by kernel_rfl) (by kernel_rfl) (by kernel_rfl) (fun _ _ _ h => h) (Or.inl ⟨by rfl, ?_⟩) (by assumption) ?_; rotate_left; (focus (intro wS hSw; (try dsimp only at hSw); go_simp <;> with_reducible rfl)); (try simp only [Act.put, List.getElem_toArray, List.getElem_cons_succ, List.getElem_cons_zero, List.setIfInBounds_toArray, List.set_cons_zero, List.set_cons_succ])
  refine wpAnyH_done (by kernel_rfl) ?_ _
  (try simp only [Act.put, List.getElem_toArray, List.getElem_cons_succ, List.getElem_cons_zero, List.setIfInBounds_toArray, List.set_cons_zero, List.set_cons_succ])
  clear Ou10
  clear Ou11
  clear Ou6
  clear Ou7
  try clear cP0_0
  have cP0_0 : World.cell? (w18) ⟨w.heap.size, 0, none⟩ = some (.int .i64 aX_W) := XP0.out.cell 0
  try clear cP0_1
  have cP0_1 : World.cell? (w18) ⟨w.heap.size, 1, none⟩ = some (.int .i64 aX_H) := XP0.out.cell 1
  try clear cP0_2
  have cP0_2 : World.cell? (w18) ⟨w.heap.size, 2, none⟩ = some (.slice aX_Cells_a aX_Cells_L.length aX_Cells_cap) := XP0.out.cell 2
  try clear cP1_0
  have cP1_0 : World.cell? (w18) ⟨w.heap.size + 1, 0, none⟩ = some (.int .i64 aP_At) := XP1.out.cell 0
  try clear cP1_1
  have cP1_1 : World.cell? (w18) ⟨w.heap.size + 1, 1, none⟩ = some (.int .i64 aP_Food) := XP1.out.cell 1
  try clear cP1_2
  have cP1_2 : World.cell? (w18) ⟨w.heap.size + 1, 2, none⟩ = some (.slice aP_Crew_a aP_Crew_L.length aP_Crew_cap) := XP1.out.cell 2
  try clear cP1_3
  have cP1_3 : World.cell? (w18) ⟨w.heap.size + 1, 3, none⟩ = some (.slice aP_Past_a aP_Past_L.length aP_Past_cap) := XP1.out.cell 3
  try clear cB5_0
  have cB5_0 : World.cell? (w18) ⟨w8.heap.size, 0, none⟩ = some (.int .i64 aX_W) := XB5.out.cell 0
  try clear cB5_1
  have cB5_1 : World.cell? (w18) ⟨w8.heap.size, 1, none⟩ = some (.int .i64 aX_H) := XB5.out.cell 1
  try clear cB5_2
  have cB5_2 : World.cell? (w18) ⟨w8.heap.size, 2, none⟩ = some (.slice u4_a u4_n u4_c) := XB5.out.cell 2
  try clear cB8_0
  have cB8_0 : World.cell? (w18) ⟨w10.heap.size, 0, none⟩ = some (.int .i64 aP_At) := XB8.out.cell 0
  try clear cB8_1
  have cB8_1 : World.cell? (w18) ⟨w10.heap.size, 1, none⟩ = some (.int .i64 aP_Food) := XB8.out.cell 1
  try clear cB8_2
  have cB8_2 : World.cell? (w18) ⟨w10.heap.size, 2, none⟩ = some (.slice u6_a u6_n u6_c) := XB8.out.cell 2
  try clear cB8_3
  have cB8_3 : World.cell? (w18) ⟨w10.heap.size, 3, none⟩ = some (.slice u7_a u7_n u7_c) := XB8.out.cell 3
  go_wp2
  go_ret
  exact ⟨rfl, HB19.out⟩

set_option maxRecDepth 100000 in
/-- What the walk gives, for every argument. -/
theorem contract (H : Type) (enc : TypeId × Value → H) (W : World) (base : Nat) (args : Array Value) (ds gs : List (DataW H)) (before : List MemPlace)
    (hval : ∀ (j : Nat) t v, Tryd.f6.params[j]? = some t → args[j]? = some v → Value.okWide Tryd.prog W .any base t v)
    (hW : DataW.Whole enc Tryd.prog Tryd.f6.params.toList Rows.fnExactPartyTextSpec.vars false W args.toList ds gs before) (hL : laidMetH Tryd.prog Rows.fnExactPartyTextRow.laid W) :
    Calls Tryd.prog 6 args W fun e W' => ∃ v, e = .returned v ∧ Rows.fnExactPartyTextSpec.post enc Tryd.prog Tryd.f6 false true false false W args v W' := by
  have hW' := hW
  obtain ⟨p, q, hA0, hV, rfl, hfz, hnd⟩ := hW
  have hA : DataW.TrodAll enc Tryd.prog W 0 (fun _ => true) true Tryd.f6.params.toList args.toList ds p := hA0
  rw [Tryd.params6] at hA hval
  obtain ⟨v0, vs0, d0, ds0, p0, q0, hargs, rfl, rfl, h0, r0⟩ := trodAll_cons hA
  obtain ⟨v1, vs1, d1, ds1, p1, q1, rfl, rfl, rfl, h1, r1⟩ := trodAll_cons r0
  obtain ⟨rfl, rfl, rfl⟩ := trodAll_nil r1
  obtain rfl : args = #[v0, v1] := by cases args; simp_all
  obtain ⟨rfl, rfl⟩ := trodVars_none hV
  have k0 := h0
  have lt0 : ∀ x ∈ p0, x.block < W.heap.size := by obtain ⟨m, hm⟩ := k0; exact DataW.trod_lt m _ _ _ hm
  obtain ⟨f0_0, f0_1, f0_2, y0_0, y0_1, y0_2, fn0, rfl, rfl, rfl, g0_0, g0_1, g0_2⟩ := Go.Joins.open_agg3 Tryd.underlying24 (by kernel_rfl) (by kernel_rfl) (hval 0 24 v0 rfl rfl) h0
  obtain ⟨x0_0, rfl, w0_0⟩ := Kit.field_int Tryd.underlying3 g0_0
  obtain ⟨x0_1, rfl, w0_1⟩ := Kit.field_int Tryd.underlying3 g0_1
  obtain ⟨a0_2, l0_2, c0_2, z0_2, rfl, w0_2⟩ := Kit.field_row Tryd.underlying22 Tryd.underlying3 (by kernel_rfl) g0_2
  have k1 := h1
  have lt1 : ∀ x ∈ p1, x.block < W.heap.size := by obtain ⟨m, hm⟩ := k1; exact DataW.trod_lt m _ _ _ hm
  obtain ⟨f1_0, f1_1, f1_2, f1_3, y1_0, y1_1, y1_2, y1_3, fn1, rfl, rfl, rfl, g1_0, g1_1, g1_2, g1_3⟩ := Go.Joins.open_agg4 Tryd.underlying40 (by kernel_rfl) (by kernel_rfl) (hval 1 40 v1 rfl rfl) h1
  obtain ⟨x1_0, rfl, w1_0⟩ := Kit.field_int Tryd.underlying3 g1_0
  obtain ⟨x1_1, rfl, w1_1⟩ := Kit.field_int Tryd.underlying3 g1_1
  obtain ⟨a1_2, l1_2, c1_2, z1_2, rfl, w1_2⟩ := Rg.field_rowG (e := Rg.encM) Tryd.underlying37 (by kernel_rfl) (Rg.encM_open Tryd.underlying148 (by kernel_rfl) Tryd.underlying3 Tryd.underlying3 Tryd.underlying3 Tryd.underlying4) g1_2
  obtain ⟨a1_3, l1_3, c1_3, z1_3, rfl, w1_3⟩ := Rg.field_rowG (e := Rg.encB) Tryd.underlying38 (by kernel_rfl) (Rg.encB_open Tryd.underlying4) g1_3
  clear hA0
  refine (walk W x0_0 w0_0 x0_1 w0_1 a0_2 l0_2 c0_2 z0_2 w0_2 x1_0 w1_0 x1_1 w1_1 a1_2 l1_2 c1_2 z1_2 w1_2 a1_3 l1_3 c1_3 z1_3 w1_3 hL).mono fun e W' ⟨he, bel⟩ => ?_
  subst he
  exact ⟨_, rfl, _, _, _, [], _, [], hW', trodAll_mk1 (shut_bool Tryd.underlying4 _), (trodAll_cons_mk (Below.trod laidOut (by kernel_rfl) (of_decide_eq_true (by kernel_rfl)) k0 bel lt0) (trodAll_cons_mk (Below.trod laidOut (by kernel_rfl) (of_decide_eq_true (by kernel_rfl)) k1 bel lt1) trodAll_mk0)), rfl, bel.frame _, fun h => by cases h⟩

/-- So many blocks has the settled world. -/
noncomputable def low : Nat := (World.holding Tryd.prog default ⟨#[], #[], []⟩).heap.size
/-- A world for the witness: the settled one, the listed variables holding what their initialisers lay. -/
noncomputable def laidWorld (os : Os) : World :=
  let w0 := World.holding Tryd.prog os ⟨#[], #[], []⟩
  { w0 with heap := (((w0.heap.modify 2 fun
      | .cells _ t frozen => .cells #[.int .u8 (0), .int .u8 (1), .int .u8 (28), .int .u8 (2), .int .u8 (29), .int .u8 (14), .int .u8 (24), .int .u8 (3), .int .u8 (30), .int .u8 (22), .int .u8 (20), .int .u8 (15), .int .u8 (25), .int .u8 (17), .int .u8 (4), .int .u8 (8), .int .u8 (31), .int .u8 (27), .int .u8 (13), .int .u8 (23), .int .u8 (21), .int .u8 (19), .int .u8 (16), .int .u8 (7), .int .u8 (26), .int .u8 (12), .int .u8 (18), .int .u8 (6), .int .u8 (11), .int .u8 (5), .int .u8 (10), .int .u8 (9)] t frozen
      | o => o).modify 3 fun
      | .cells _ t frozen => .cells #[.int .u8 (0), .int .u8 (1), .int .u8 (56), .int .u8 (2), .int .u8 (57), .int .u8 (49), .int .u8 (28), .int .u8 (3), .int .u8 (61), .int .u8 (58), .int .u8 (42), .int .u8 (50), .int .u8 (38), .int .u8 (29), .int .u8 (17), .int .u8 (4), .int .u8 (62), .int .u8 (47), .int .u8 (59), .int .u8 (36), .int .u8 (45), .int .u8 (43), .int .u8 (51), .int .u8 (22), .int .u8 (53), .int .u8 (39), .int .u8 (33), .int .u8 (30), .int .u8 (24), .int .u8 (18), .int .u8 (12), .int .u8 (5), .int .u8 (63), .int .u8 (55), .int .u8 (48), .int .u8 (27), .int .u8 (60), .int .u8 (41), .int .u8 (37), .int .u8 (16), .int .u8 (46), .int .u8 (35), .int .u8 (44), .int .u8 (21), .int .u8 (52), .int .u8 (32), .int .u8 (23), .int .u8 (11), .int .u8 (54), .int .u8 (26), .int .u8 (40), .int .u8 (15), .int .u8 (34), .int .u8 (20), .int .u8 (31), .int .u8 (10), .int .u8 (25), .int .u8 (14), .int .u8 (19), .int .u8 (9), .int .u8 (13), .int .u8 (8), .int .u8 (7), .int .u8 (6)] t frozen
      | o => o).modify 1 fun
      | .cells _ t frozen => .cells #[.int .u64 (1), .int .u64 (10), .int .u64 (100), .int .u64 (1000), .int .u64 (10000), .int .u64 (100000), .int .u64 (1000000), .int .u64 (10000000), .int .u64 (100000000), .int .u64 (1000000000), .int .u64 (10000000000), .int .u64 (100000000000), .int .u64 (1000000000000), .int .u64 (10000000000000), .int .u64 (100000000000000), .int .u64 (1000000000000000), .int .u64 (10000000000000000), .int .u64 (100000000000000000), .int .u64 (1000000000000000000), .int .u64 (10000000000000000000)] t frozen
      | o => o) }
theorem laid_met (os : Os) : laidMet Tryd.prog Rows.fnExactPartyTextRow.laid ((laidWorld os).forCall (fun _ _ => 0) ⟨#[], #[.agg #[.int .i64 0, .int .i64 0, .slice none 0 0], .agg #[.int .i64 0, .int .i64 0, .slice none 0 0, .slice none 0 0]], []⟩).memory :=
  laidMet_of_run' 8 (by kernel_rfl) (by kernel_rfl)
theorem reads (os : Os) {H : Type} (enc : TypeId × Value → H) : ∃ places, DataW.whole enc Tryd.prog ((laidWorld os).forCall (fun _ _ => 0) ⟨#[], #[.agg #[.int .i64 0, .int .i64 0, .slice none 0 0], .agg #[.int .i64 0, .int .i64 0, .slice none 0 0, .slice none 0 0]], []⟩).memory Tryd.f6.params.toList Rows.fnExactPartyTextSpec.vars false (#[.agg #[.int .i64 0, .int .i64 0, .slice none 0 0], .agg #[.int .i64 0, .int .i64 0, .slice none 0 0, .slice none 0 0]] : Array Value).toList 8 = some ([.agg [.lit (.int .i64 0), .lit (.int .i64 0), .nil], .agg [.lit (.int .i64 0), .lit (.int .i64 0), .nil, .nil]], [], places) :=
  ⟨[], by kernel_rfl⟩

set_option maxRecDepth 100000 in
theorem lifted (os : Os) (started : os.Started) (H : Type) (enc : TypeId × Value → H) (F : Stop.Interp) :
    ReturnsInHanded {} Tryd.checked os 6 .any ((OpenSpec.ofChange Rows.fnExactPartyTextSpec).preRow enc Tryd.prog Tryd.f6 Rows.fnExactPartyTextRow.domain false Rows.fnExactPartyTextRow.laid) (((OpenSpec.ofChange Rows.fnExactPartyTextSpec).at F).post enc Tryd.prog Tryd.f6 false true false false) := by
  obtain ⟨places, hx⟩ := reads os enc
  refine returnsInHanded_of_row (C := Tryd.checked) (s := (OpenSpec.ofChange Rows.fnExactPartyTextSpec)) own started (by kernel_rfl) Tryd.func6
    (witness_row_at (enc := enc) (C := Tryd.checked) false (laidWorld os) #[.agg #[.int .i64 0, .int .i64 0, .slice none 0 0], .agg #[.int .i64 0, .int .i64 0, .slice none 0 0, .slice none 0 0]] rfl (by kernel_rfl) (by kernel_rfl) (by kernel_rfl)
      (OpenSpec.preRow_of_cond 8 hx (by kernel_rfl) (fun k hk => by cases hk) (by kernel_rfl) (laid_met os))) ?_
  intro W base args ds gs before hval hW _ _ _ hL _ _
  exact contract H enc W base args ds gs before hval hW hL

set_option maxRecDepth 100000 in
theorem said : Rows.FnExactPartyTextSaid :=
  OpenClaim.holds_of_cond 6 Tryd.f6 rfl rfl rfl rfl rfl rfl rfl ⟨rfl, rfl, rfl, rfl, rfl⟩ rfl rfl rfl rfl rfl (by kernel_rfl) Tryd.func6 (by kernel_rfl)
    (of_decide_eq_true (by kernel_rfl)) (by unfold Func.isWrapper; first | (rw [if_pos (by decide +kernel)]; kernel_rfl) | (rw [if_neg (by decide +kernel)]; exact ⟨rfl, rfl⟩))
    (fun os started H enc _ F => by rw [OpenClaim.pre_eq_preRow]; exact lifted os started H enc F)

/-- No parameter wants a stand-in. -/
theorem plain (f : FuncId) (fn : Func) (hf : Tryd.pinned.checked.prog.funcNamed "loop.example/g03008/laws.FnExactPartyText" = some f) (hfn : Tryd.pinned.checked.prog.funcs[f]? = some fn) :
    true = Tryd.pinned.checked.prog.looks [] ∧ ∀ (j : Nat) t, fn.params[j]? = some t → Tryd.pinned.checked.prog.wantsStandIn t = false := by
  obtain rfl : f = 6 := Option.some.inj ((show Tryd.prog.funcNamed "loop.example/g03008/laws.FnExactPartyText" = some 6 by kernel_rfl).symm.trans hf) |>.symm
  obtain rfl : fn = Tryd.f6 := (Option.some.inj (Tryd.func6.symm.trans hfn)).symm
  refine ⟨by kernel_rfl, fun j t ht => ?_⟩
  rw [Tryd.params6] at ht
  have hm := Array.mem_of_getElem? ht
  simp only [List.mem_toArray, List.mem_cons, List.not_mem_nil, or_false] at hm
  rcases hm with rfl | rfl
  · exact (show Tryd.prog.wantsStandIn 24 = false by kernel_rfl)
  · exact (show Tryd.prog.wantsStandIn 40 = false by kernel_rfl)
theorem proved : Rows.FnExactPartyTextCardSaid :=
  Claim7.holds_tied_plain_at .later [] _ _ _ _ said (fun _ h => by cases h) (by kernel_rfl) (fun _ h => by cases h) fnExactPartyText_row_tie rfl ⟨rfl, rfl⟩ (by kernel_rfl) rfl plain (by kernel_rfl)
#print axioms proved
end Go.Proofs.YtoanhnklemlfmaaDoor.fnExactPartyText

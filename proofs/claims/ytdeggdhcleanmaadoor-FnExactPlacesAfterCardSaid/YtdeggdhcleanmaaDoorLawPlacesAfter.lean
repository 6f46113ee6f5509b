/- The law FnExactPlacesAfter: the program's PlacesAfter answers as its model, for every argument; it writes into no argument, and its answer owns its memory. No condition. -/
import Derived.Test.YtdeggdhcleanmaaDoorCards
import Derived.Test.YtdeggdhcleanmaaDoorTie
import Derived.Test.YtdeggdhcleanmaaDoorRowE
import Derived.Test.YtdeggdhcleanmaaDoorLandL
import Derived.Test.YtdeggdhcleanmaaDoorLawsI
import Derived.Test.YtdeggdhcleanmaaDoorPlaS
import Derived.Test.YtdeggdhcleanmaaDoorPlaI
import Derived.WalkKit
import Derived.ProofKit
import Derived.OpenShut
import Derived.ShutString
import Derived.ChangeOld
import Derived.Below
import Derived.Deep.DeepHandedRow
import Derived.Deep.DeepWitnessRowRef
import Derived.Lib.LaidTab
import Derived.Stop.LaidErr
import Derived.SevenTiedAt
import Derived.RowKitTokens
namespace Go.Proofs.YtdeggdhcleanmaaDoor.fnExactPlacesAfter
open Go.ChangeShapes Go.WideShapes Go.ChangeAt Go.RowKit
open Go.ChangeMaps (open_string shut_string)
set_option linter.unusedVariables false

theorem own : ownKnob Tryd.prog.godebug = none := by kernel_rfl
theorem laidOut : laidOutB Tryd.prog = true := by kernel_rfl

theorem gTab : Tryd.prog.globalNamed "math/bits.deBruijn64tab" = some 1 := by kernel_rfl
theorem gTabType : (Tryd.prog.globals[1]?).map (·.type) = some 119 := by kernel_rfl
theorem cellsA : Tryd.prog.cellsOf 119 = 64 := by kernel_rfl
theorem cellsU : Tryd.prog.cellsOf 5 = 1 := by kernel_rfl
theorem table {W : World} (h : laidMetH Tryd.prog Rows.fnExactPlacesAfterRow.laid W) : Pc.TabD W :=
  Lib.tabIs_of_head (rest := []) gTab gTabType Tryd.underlying119 Tryd.underlying5 cellsU cellsA h
open Kit Rw
set_option maxRecDepth 100000 in
set_option maxHeartbeats 4000000 in
theorem walk (w : World) (aX_W : Int) (aX_W_h : (Lit.int .i64 aX_W).wf = true) (aX_H : Int) (aX_H_h : (Lit.int .i64 aX_H).wf = true) (aX_Cells_a : Option Addr) (aX_Cells_len aX_Cells_cap : Nat) (aX_Cells_z : List Int) (aX_Cells_h : Kit.IsRow .i64 w aX_Cells_a aX_Cells_len aX_Cells_cap aX_Cells_z) (aFrom_a : Option Addr) (aFrom_len aFrom_cap : Nat) (aFrom_z : List Int) (aFrom_h : Kit.IsRow .i64 w aFrom_a aFrom_len aFrom_cap aFrom_z) (aSteps : Int) (aSteps_h : (Lit.int .i64 aSteps).wf = true) (aMarks_a : Option Addr) (aMarks_len aMarks_cap : Nat) (aMarks_z : List Int) (aMarks_h : Kit.IsRow .i64 w aMarks_a aMarks_len aMarks_cap aMarks_z) (aFars_a : Option Addr) (aFars_len aFars_cap : Nat) (aFars_z : List Int) (aFars_h : Kit.IsRow .i64 w aFars_a aFars_len aFars_cap aFars_z) (hL : laidMetH Tryd.prog Rows.fnExactPlacesAfterRow.laid w) :
    Calls Tryd.prog 6 #[.agg #[.int .i64 aX_W, .int .i64 aX_H, .slice aX_Cells_a aX_Cells_len aX_Cells_cap], .slice aFrom_a aFrom_len aFrom_cap, .int .i64 aSteps, .slice aMarks_a aMarks_len aMarks_cap, .slice aFars_a aFars_len aFars_cap] w fun e w' => e = .returned (.bool true) ∧ Below w.heap.size w w' := by
  have HTB := Lib.hid (table hL); clear hL
  have aX_Cells_g := Lib.hid aX_Cells_h; clear aX_Cells_h
  obtain ⟨aX_Cells_L, aX_Cells_e, aX_Cells_s0⟩ := IsRow.sees aX_Cells_g.out
  have aX_Cells_S := Lib.hid aX_Cells_s0; have aX_Cells_len0 := aX_Cells_s0.len; subst aX_Cells_e; clear aX_Cells_s0 aX_Cells_g
  have aFrom_g := Lib.hid aFrom_h; clear aFrom_h
  obtain ⟨aFrom_L, aFrom_e, aFrom_s0⟩ := IsRow.sees aFrom_g.out
  have aFrom_S := Lib.hid aFrom_s0; have aFrom_len0 := aFrom_s0.len; subst aFrom_e; clear aFrom_s0 aFrom_g
  have aMarks_g := Lib.hid aMarks_h; clear aMarks_h
  obtain ⟨aMarks_L, aMarks_e, aMarks_s0⟩ := IsRow.sees aMarks_g.out
  have aMarks_S := Lib.hid aMarks_s0; have aMarks_len0 := aMarks_s0.len; subst aMarks_e; clear aMarks_s0 aMarks_g
  have aFars_g := Lib.hid aFars_h; clear aFars_h
  obtain ⟨aFars_L, aFars_e, aFars_s0⟩ := IsRow.sees aFars_g.out
  have aFars_S := Lib.hid aFars_s0; have aFars_len0 := aFars_s0.len; subst aFars_e; clear aFars_s0 aFars_g
  have aX_W_H := Lib.hid aX_W_h; have aX_W_b := i64_of aX_W_h; clear aX_W_h
  have aX_H_H := Lib.hid aX_H_h; have aX_H_b := i64_of aX_H_h; clear aX_H_h
  have aSteps_H := Lib.hid aSteps_h; have aSteps_b := i64_of aSteps_h; clear aSteps_h
  by_cases aFrom_l : aFrom_L.length ≤ 1048576
  rotate_left
  ·
    have HB0 : Hid (Below w.heap.size w w) := Below.refl _ _
    have hgb := World.grownBy_alloc w (.cells #[.int .i64 aX_W, .int .i64 aX_H, .slice aX_Cells_a aX_Cells_L.length aX_Cells_cap] 34 (0, 0)) none
    have HB1 := Lib.hid (HB0.out.grown hgb HB0.out.size (fun _ h => by cases h)); clear HB0
    have XP0 := Lib.hid (box_new w #[.int .i64 aX_W, .int .i64 aX_H, .slice aX_Cells_a aX_Cells_L.length aX_Cells_cap] 34); clear hgb
    go_enter Tryd.func6, Tryd.ntmps6
    try clear cP0_0
    have cP0_0 : World.cell? (w.alloc (.cells #[.int .i64 aX_W, .int .i64 aX_H, .slice aX_Cells_a aX_Cells_L.length aX_Cells_cap] 34 (0, 0))) ⟨w.heap.size, 0, none⟩ = some (.int .i64 aX_W) := XP0.out.cell 0
    try clear cP0_1
    have cP0_1 : World.cell? (w.alloc (.cells #[.int .i64 aX_W, .int .i64 aX_H, .slice aX_Cells_a aX_Cells_L.length aX_Cells_cap] 34 (0, 0))) ⟨w.heap.size, 1, none⟩ = some (.int .i64 aX_H) := XP0.out.cell 1
    try clear cP0_2
    have cP0_2 : World.cell? (w.alloc (.cells #[.int .i64 aX_W, .int .i64 aX_H, .slice aX_Cells_a aX_Cells_L.length aX_Cells_cap] 34 (0, 0))) ⟨w.heap.size, 2, none⟩ = some (.slice aX_Cells_a aX_Cells_L.length aX_Cells_cap) := XP0.out.cell 2
    go_wp2
    go_ret
    exact ⟨rfl, by have := HB1.out; exact this⟩
  by_cases aMarks_l : aMarks_L.length ≤ 1048576
  rotate_left
  ·
    have HB0 : Hid (Below w.heap.size w w) := Below.refl _ _
    have hgb := World.grownBy_alloc w (.cells #[.int .i64 aX_W, .int .i64 aX_H, .slice aX_Cells_a aX_Cells_L.length aX_Cells_cap] 34 (0, 0)) none
    have HB1 := Lib.hid (HB0.out.grown hgb HB0.out.size (fun _ h => by cases h)); clear HB0
    have XP0 := Lib.hid (box_new w #[.int .i64 aX_W, .int .i64 aX_H, .slice aX_Cells_a aX_Cells_L.length aX_Cells_cap] 34); clear hgb
    go_enter Tryd.func6, Tryd.ntmps6
    try clear cP0_0
    have cP0_0 : World.cell? (w.alloc (.cells #[.int .i64 aX_W, .int .i64 aX_H, .slice aX_Cells_a aX_Cells_L.length aX_Cells_cap] 34 (0, 0))) ⟨w.heap.size, 0, none⟩ = some (.int .i64 aX_W) := XP0.out.cell 0
    try clear cP0_1
    have cP0_1 : World.cell? (w.alloc (.cells #[.int .i64 aX_W, .int .i64 aX_H, .slice aX_Cells_a aX_Cells_L.length aX_Cells_cap] 34 (0, 0))) ⟨w.heap.size, 1, none⟩ = some (.int .i64 aX_H) := XP0.out.cell 1
    try clear cP0_2
    have cP0_2 : World.cell? (w.alloc (.cells #[.int .i64 aX_W, .int .i64 aX_H, .slice aX_Cells_a aX_Cells_L.length aX_Cells_cap] 34 (0, 0))) ⟨w.heap.size, 2, none⟩ = some (.slice aX_Cells_a aX_Cells_L.length aX_Cells_cap) := XP0.out.cell 2
    go_wp2
    go_ret
    exact ⟨rfl, by have := HB1.out; exact this⟩
  by_cases aFars_l : aFars_L.length ≤ 1048576
  rotate_left
  ·
    have HB0 : Hid (Below w.heap.size w w) := Below.refl _ _
    have hgb := World.grownBy_alloc w (.cells #[.int .i64 aX_W, .int .i64 aX_H, .slice aX_Cells_a aX_Cells_L.length aX_Cells_cap] 34 (0, 0)) none
    have HB1 := Lib.hid (HB0.out.grown hgb HB0.out.size (fun _ h => by cases h)); clear HB0
    have XP0 := Lib.hid (box_new w #[.int .i64 aX_W, .int .i64 aX_H, .slice aX_Cells_a aX_Cells_L.length aX_Cells_cap] 34); clear hgb
    go_enter Tryd.func6, Tryd.ntmps6
    try clear cP0_0
    have cP0_0 : World.cell? (w.alloc (.cells #[.int .i64 aX_W, .int .i64 aX_H, .slice aX_Cells_a aX_Cells_L.length aX_Cells_cap] 34 (0, 0))) ⟨w.heap.size, 0, none⟩ = some (.int .i64 aX_W) := XP0.out.cell 0
    try clear cP0_1
    have cP0_1 : World.cell? (w.alloc (.cells #[.int .i64 aX_W, .int .i64 aX_H, .slice aX_Cells_a aX_Cells_L.length aX_Cells_cap] 34 (0, 0))) ⟨w.heap.size, 1, none⟩ = some (.int .i64 aX_H) := XP0.out.cell 1
    try clear cP0_2
    have cP0_2 : World.cell? (w.alloc (.cells #[.int .i64 aX_W, .int .i64 aX_H, .slice aX_Cells_a aX_Cells_L.length aX_Cells_cap] 34 (0, 0))) ⟨w.heap.size, 2, none⟩ = some (.slice aX_Cells_a aX_Cells_L.length aX_Cells_cap) := XP0.out.cell 2
    go_wp2
    go_ret
    exact ⟨rfl, by have := HB1.out; exact this⟩
  by_cases aX_l : (aX_Cells_L.length : Int) ≤ (1048576 : Int)
  rotate_left
  ·
    have HB0 : Hid (Below w.heap.size w w) := Below.refl _ _
    have hgb := World.grownBy_alloc w (.cells #[.int .i64 aX_W, .int .i64 aX_H, .slice aX_Cells_a aX_Cells_L.length aX_Cells_cap] 34 (0, 0)) none
    have HB1 := Lib.hid (HB0.out.grown hgb HB0.out.size (fun _ h => by cases h)); clear HB0
    have XP0 := Lib.hid (box_new w #[.int .i64 aX_W, .int .i64 aX_H, .slice aX_Cells_a aX_Cells_L.length aX_Cells_cap] 34); clear hgb
    go_enter Tryd.func6, Tryd.ntmps6
    try clear cP0_0
    have cP0_0 : World.cell? (w.alloc (.cells #[.int .i64 aX_W, .int .i64 aX_H, .slice aX_Cells_a aX_Cells_L.length aX_Cells_cap] 34 (0, 0))) ⟨w.heap.size, 0, none⟩ = some (.int .i64 aX_W) := XP0.out.cell 0
    try clear cP0_1
    have cP0_1 : World.cell? (w.alloc (.cells #[.int .i64 aX_W, .int .i64 aX_H, .slice aX_Cells_a aX_Cells_L.length aX_Cells_cap] 34 (0, 0))) ⟨w.heap.size, 1, none⟩ = some (.int .i64 aX_H) := XP0.out.cell 1
    try clear cP0_2
    have cP0_2 : World.cell? (w.alloc (.cells #[.int .i64 aX_W, .int .i64 aX_H, .slice aX_Cells_a aX_Cells_L.length aX_Cells_cap] 34 (0, 0))) ⟨w.heap.size, 2, none⟩ = some (.slice aX_Cells_a aX_Cells_L.length aX_Cells_cap) := XP0.out.cell 2
    go_wp2_with fail
    generalize w.alloc (.cells #[.int .i64 aX_W, .int .i64 aX_H, .slice aX_Cells_a aX_Cells_L.length aX_Cells_cap] 34 (0, 0)) = w1 at *
    refine (LandL.szLand_no w1 aX_W aX_H _ _ (1048576 : Int) (aX_Cells_S.out.below HB1.out) (by omega) (by omega) (by omega)).mono ?_
    rintro e w2 ⟨rfl, hg⟩
    have HB2 := Lib.hid (HB1.out.grown hg HB1.out.size (fun _ h => by cases h)); clear HB1
    have XP0 := Lib.hid (XP0.out.grown hg)
    clear hg
    try clear cP0_0
    have cP0_0 : World.cell? (w2) ⟨w.heap.size, 0, none⟩ = some (.int .i64 aX_W) := XP0.out.cell 0
    try clear cP0_1
    have cP0_1 : World.cell? (w2) ⟨w.heap.size, 1, none⟩ = some (.int .i64 aX_H) := XP0.out.cell 1
    try clear cP0_2
    have cP0_2 : World.cell? (w2) ⟨w.heap.size, 2, none⟩ = some (.slice aX_Cells_a aX_Cells_L.length aX_Cells_cap) := XP0.out.cell 2
    go_wp2
    go_ret
    exact ⟨rfl, HB2.out⟩
  have HB0 : Hid (Below w.heap.size w w) := Below.refl _ _
  have hgb := World.grownBy_alloc w (.cells #[.int .i64 aX_W, .int .i64 aX_H, .slice aX_Cells_a aX_Cells_L.length aX_Cells_cap] 34 (0, 0)) none
  have HB1 := Lib.hid (HB0.out.grown hgb HB0.out.size (fun _ h => by cases h)); clear HB0
  have XP0 := Lib.hid (box_new w #[.int .i64 aX_W, .int .i64 aX_H, .slice aX_Cells_a aX_Cells_L.length aX_Cells_cap] 34); clear hgb
  go_enter Tryd.func6, Tryd.ntmps6
  try clear cP0_0
  have cP0_0 : World.cell? (w.alloc (.cells #[.int .i64 aX_W, .int .i64 aX_H, .slice aX_Cells_a aX_Cells_L.length aX_Cells_cap] 34 (0, 0))) ⟨w.heap.size, 0, none⟩ = some (.int .i64 aX_W) := XP0.out.cell 0
  try clear cP0_1
  have cP0_1 : World.cell? (w.alloc (.cells #[.int .i64 aX_W, .int .i64 aX_H, .slice aX_Cells_a aX_Cells_L.length aX_Cells_cap] 34 (0, 0))) ⟨w.heap.size, 1, none⟩ = some (.int .i64 aX_H) := XP0.out.cell 1
  try clear cP0_2
  have cP0_2 : World.cell? (w.alloc (.cells #[.int .i64 aX_W, .int .i64 aX_H, .slice aX_Cells_a aX_Cells_L.length aX_Cells_cap] 34 (0, 0))) ⟨w.heap.size, 2, none⟩ = some (.slice aX_Cells_a aX_Cells_L.length aX_Cells_cap) := XP0.out.cell 2
  go_wp2_with fail
  generalize w.alloc (.cells #[.int .i64 aX_W, .int .i64 aX_H, .slice aX_Cells_a aX_Cells_L.length aX_Cells_cap] 34 (0, 0)) = w1 at *
  refine (LandL.szLand_yes w1 aX_W aX_H _ _ (1048576 : Int) (aX_Cells_S.out.below HB1.out) (by omega) (by omega) (by omega)).mono ?_
  rintro e w2 ⟨rfl, hg⟩
  have HB2 := Lib.hid (HB1.out.grown hg HB1.out.size (fun _ h => by cases h)); clear HB1
  have XP0 := Lib.hid (XP0.out.grown hg)
  clear hg
  try clear cP0_0
  have cP0_0 : World.cell? (w2) ⟨w.heap.size, 0, none⟩ = some (.int .i64 aX_W) := XP0.out.cell 0
  try clear cP0_1
  have cP0_1 : World.cell? (w2) ⟨w.heap.size, 1, none⟩ = some (.int .i64 aX_H) := XP0.out.cell 1
  try clear cP0_2
  have cP0_2 : World.cell? (w2) ⟨w.heap.size, 2, none⟩ = some (.slice aX_Cells_a aX_Cells_L.length aX_Cells_cap) := XP0.out.cell 2
  go_wp2_with fail
  refine (LandL.toLand_any w2 aX_W aX_H _ _ (aX_Cells_S.out.below HB2.out) (by omega)).mono ?_
  rintro e w3 ⟨u1, rfl, ho, hg⟩
  have D_u1_P0 := Lib.hid (ho.off XP0.out.lt)
  have Ou1 := Lib.hid (ho.lower HB2.out.size)
  have HB3 := Lib.hid (HB2.out.grown hg HB2.out.size (fun _ h => by cases h)); clear HB2
  have XP0 := Lib.hid (XP0.out.grown hg)
  clear ho hg
  try clear cP0_0
  have cP0_0 : World.cell? (w3) ⟨w.heap.size, 0, none⟩ = some (.int .i64 aX_W) := XP0.out.cell 0
  try clear cP0_1
  have cP0_1 : World.cell? (w3) ⟨w.heap.size, 1, none⟩ = some (.int .i64 aX_H) := XP0.out.cell 1
  try clear cP0_2
  have cP0_2 : World.cell? (w3) ⟨w.heap.size, 2, none⟩ = some (.slice aX_Cells_a aX_Cells_L.length aX_Cells_cap) := XP0.out.cell 2
  go_wp2_with fail
  refine (LawsI.to_any w3 (.slice aFrom_a aFrom_L.length aFrom_cap) aFrom_L (aFrom_S.out.below HB3.out) (by have h9 := Pc.after_len aX_W aX_H aX_Cells_L aFrom_L aSteps aMarks_L aFars_L; (try simp only [LawsI.marksI_len]); omega)).mono ?_
  rintro e w4 ⟨u2, rfl, ho, hg⟩
  have A_u2_u1 := Lib.hid (Rg.apart_lt ho.lt Ou1.out.lt (Nat.le_refl _))
  have D_u2_P0 := Lib.hid (ho.off XP0.out.lt)
  have Ou2 := Lib.hid (ho.lower HB3.out.size)
  have HB4 := Lib.hid (HB3.out.grown hg HB3.out.size (fun _ h => by cases h)); clear HB3
  have Ou1 := Lib.hid (Ou1.out.grown hg)
  have XP0 := Lib.hid (XP0.out.grown hg)
  clear ho hg
  try clear cP0_0
  have cP0_0 : World.cell? (w4) ⟨w.heap.size, 0, none⟩ = some (.int .i64 aX_W) := XP0.out.cell 0
  try clear cP0_1
  have cP0_1 : World.cell? (w4) ⟨w.heap.size, 1, none⟩ = some (.int .i64 aX_H) := XP0.out.cell 1
  try clear cP0_2
  have cP0_2 : World.cell? (w4) ⟨w.heap.size, 2, none⟩ = some (.slice aX_Cells_a aX_Cells_L.length aX_Cells_cap) := XP0.out.cell 2
  go_wp2_with fail
  refine (LawsI.to_any w4 (.slice aMarks_a aMarks_L.length aMarks_cap) aMarks_L (aMarks_S.out.below HB4.out) (by have h9 := Pc.after_len aX_W aX_H aX_Cells_L aFrom_L aSteps aMarks_L aFars_L; (try simp only [LawsI.marksI_len]); omega)).mono ?_
  rintro e w5 ⟨u3, rfl, ho, hg⟩
  have A_u3_u1 := Lib.hid (Rg.apart_lt ho.lt Ou1.out.lt (Nat.le_refl _))
  have A_u3_u2 := Lib.hid (Rg.apart_lt ho.lt Ou2.out.lt (Nat.le_refl _))
  have D_u3_P0 := Lib.hid (ho.off XP0.out.lt)
  have Ou3 := Lib.hid (ho.lower HB4.out.size)
  have HB5 := Lib.hid (HB4.out.grown hg HB4.out.size (fun _ h => by cases h)); clear HB4
  have Ou1 := Lib.hid (Ou1.out.grown hg)
  have Ou2 := Lib.hid (Ou2.out.grown hg)
  have XP0 := Lib.hid (XP0.out.grown hg)
  clear ho hg
  try clear cP0_0
  have cP0_0 : World.cell? (w5) ⟨w.heap.size, 0, none⟩ = some (.int .i64 aX_W) := XP0.out.cell 0
  try clear cP0_1
  have cP0_1 : World.cell? (w5) ⟨w.heap.size, 1, none⟩ = some (.int .i64 aX_H) := XP0.out.cell 1
  try clear cP0_2
  have cP0_2 : World.cell? (w5) ⟨w.heap.size, 2, none⟩ = some (.slice aX_Cells_a aX_Cells_L.length aX_Cells_cap) := XP0.out.cell 2
  go_wp2_with fail
  refine (LawsI.to_any w5 (.slice aFars_a aFars_L.length aFars_cap) aFars_L (aFars_S.out.below HB5.out) (by have h9 := Pc.after_len aX_W aX_H aX_Cells_L aFrom_L aSteps aMarks_L aFars_L; (try simp only [LawsI.marksI_len]); omega)).mono ?_
  rintro e w6 ⟨u4, rfl, ho, hg⟩
  have A_u4_u1 := Lib.hid (Rg.apart_lt ho.lt Ou1.out.lt (Nat.le_refl _))
  have A_u4_u2 := Lib.hid (Rg.apart_lt ho.lt Ou2.out.lt (Nat.le_refl _))
  have A_u4_u3 := Lib.hid (Rg.apart_lt ho.lt Ou3.out.lt (Nat.le_refl _))
  have D_u4_P0 := Lib.hid (ho.off XP0.out.lt)
  have Ou4 := Lib.hid (ho.lower HB5.out.size)
  have HB6 := Lib.hid (HB5.out.grown hg HB5.out.size (fun _ h => by cases h)); clear HB5
  have Ou1 := Lib.hid (Ou1.out.grown hg)
  have Ou2 := Lib.hid (Ou2.out.grown hg)
  have Ou3 := Lib.hid (Ou3.out.grown hg)
  have XP0 := Lib.hid (XP0.out.grown hg)
  clear ho hg
  try clear cP0_0
  have cP0_0 : World.cell? (w6) ⟨w.heap.size, 0, none⟩ = some (.int .i64 aX_W) := XP0.out.cell 0
  try clear cP0_1
  have cP0_1 : World.cell? (w6) ⟨w.heap.size, 1, none⟩ = some (.int .i64 aX_H) := XP0.out.cell 1
  try clear cP0_2
  have cP0_2 : World.cell? (w6) ⟨w.heap.size, 2, none⟩ = some (.slice aX_Cells_a aX_Cells_L.length aX_Cells_cap) := XP0.out.cell 2
  go_wp2_with fail
  refine (Pc.sAfter_any w6 aX_W aX_H aSteps _ _ _ _ aX_Cells_L aFrom_L aMarks_L aFars_L (Ou1.out.sees) (Ou2.out.sees) (Ou3.out.sees) (Ou4.out.sees) (by have h9 := Pc.after_len aX_W aX_H aX_Cells_L aFrom_L aSteps aMarks_L aFars_L; (try simp only [LawsI.marksI_len]); omega)).mono ?_
  rintro e w7 ⟨u5, rfl, ho, hg⟩
  have A_u5_u1 := Lib.hid (Rg.apart_lt ho.lt Ou1.out.lt (Nat.le_refl _))
  have A_u5_u2 := Lib.hid (Rg.apart_lt ho.lt Ou2.out.lt (Nat.le_refl _))
  have A_u5_u3 := Lib.hid (Rg.apart_lt ho.lt Ou3.out.lt (Nat.le_refl _))
  have A_u5_u4 := Lib.hid (Rg.apart_lt ho.lt Ou4.out.lt (Nat.le_refl _))
  have D_u5_P0 := Lib.hid (ho.off XP0.out.lt)
  have Ou5 := Lib.hid (ho.lower HB6.out.size)
  have HB7 := Lib.hid (HB6.out.grown hg HB6.out.size (fun _ h => by cases h)); clear HB6
  have Ou1 := Lib.hid (Ou1.out.grown hg)
  have Ou2 := Lib.hid (Ou2.out.grown hg)
  have Ou3 := Lib.hid (Ou3.out.grown hg)
  have Ou4 := Lib.hid (Ou4.out.grown hg)
  have XP0 := Lib.hid (XP0.out.grown hg)
  clear ho hg
  clear Ou1
  clear Ou2
  clear Ou3
  clear Ou4
  try clear cP0_0
  have cP0_0 : World.cell? (w7) ⟨w.heap.size, 0, none⟩ = some (.int .i64 aX_W) := XP0.out.cell 0
  try clear cP0_1
  have cP0_1 : World.cell? (w7) ⟨w.heap.size, 1, none⟩ = some (.int .i64 aX_H) := XP0.out.cell 1
  try clear cP0_2
  have cP0_2 : World.cell? (w7) ⟨w.heap.size, 2, none⟩ = some (.slice aX_Cells_a aX_Cells_L.length aX_Cells_cap) := XP0.out.cell 2
  go_wp2_with fail
  refine (LandL.toLand_any w7 aX_W aX_H _ _ (aX_Cells_S.out.below HB7.out) (by omega)).mono ?_
  rintro e w8 ⟨u6, rfl, ho, hg⟩
  have A_u6_u5 := Lib.hid (Rg.apart_lt ho.lt Ou5.out.lt (Nat.le_refl _))
  have D_u6_P0 := Lib.hid (ho.off XP0.out.lt)
  have Ou6 := Lib.hid (ho.lower HB7.out.size)
  have HB8 := Lib.hid (HB7.out.grown hg HB7.out.size (fun _ h => by cases h)); clear HB7
  have Ou5 := Lib.hid (Ou5.out.grown hg)
  have XP0 := Lib.hid (XP0.out.grown hg)
  clear ho hg
  obtain ⟨u6_a, u6_n, u6_c, hu6, Nu6⟩ := Ou6.out.sees.shape; subst hu6
  have hgb := World.grownBy_alloc w8 (.cells #[.int .i64 aX_W, .int .i64 aX_H, .slice u6_a u6_n u6_c] 37 (0, 0)) none
  have D_u5_B7 := Lib.hid (Ou5.out.off' (Nat.le_refl _))
  have D_u6_B7 := Lib.hid (Ou6.out.off' (Nat.le_refl _))
  have HB9 := Lib.hid (HB8.out.grown hgb HB8.out.size (fun _ h => by cases h)); clear HB8
  have Ou5 := Lib.hid (Ou5.out.grown hgb)
  have Ou6 := Lib.hid (Ou6.out.grown hgb)
  have XP0 := Lib.hid (XP0.out.grown hgb)
  have XB7 := Lib.hid (box_new w8 #[.int .i64 aX_W, .int .i64 aX_H, .slice u6_a u6_n u6_c] 37); clear hgb
  try clear cP0_0
  have cP0_0 : World.cell? (w8.alloc (.cells #[.int .i64 aX_W, .int .i64 aX_H, .slice u6_a u6_n u6_c] 37 (0, 0))) ⟨w.heap.size, 0, none⟩ = some (.int .i64 aX_W) := XP0.out.cell 0
  try clear cP0_1
  have cP0_1 : World.cell? (w8.alloc (.cells #[.int .i64 aX_W, .int .i64 aX_H, .slice u6_a u6_n u6_c] 37 (0, 0))) ⟨w.heap.size, 1, none⟩ = some (.int .i64 aX_H) := XP0.out.cell 1
  try clear cP0_2
  have cP0_2 : World.cell? (w8.alloc (.cells #[.int .i64 aX_W, .int .i64 aX_H, .slice u6_a u6_n u6_c] 37 (0, 0))) ⟨w.heap.size, 2, none⟩ = some (.slice aX_Cells_a aX_Cells_L.length aX_Cells_cap) := XP0.out.cell 2
  try clear cB7_0
  have cB7_0 : World.cell? (w8.alloc (.cells #[.int .i64 aX_W, .int .i64 aX_H, .slice u6_a u6_n u6_c] 37 (0, 0))) ⟨w8.heap.size, 0, none⟩ = some (.int .i64 aX_W) := XB7.out.cell 0
  try clear cB7_1
  have cB7_1 : World.cell? (w8.alloc (.cells #[.int .i64 aX_W, .int .i64 aX_H, .slice u6_a u6_n u6_c] 37 (0, 0))) ⟨w8.heap.size, 1, none⟩ = some (.int .i64 aX_H) := XB7.out.cell 1
  try clear cB7_2
  have cB7_2 : World.cell? (w8.alloc (.cells #[.int .i64 aX_W, .int .i64 aX_H, .slice u6_a u6_n u6_c] 37 (0, 0))) ⟨w8.heap.size, 2, none⟩ = some (.slice u6_a u6_n u6_c) := XB7.out.cell 2
  go_wp2_with fail
  generalize w8.alloc (.cells #[.int .i64 aX_W, .int .i64 aX_H, .slice u6_a u6_n u6_c] 37 (0, 0)) = w9 at *
  refine (LawsI.to_any w9 (.slice aFrom_a aFrom_L.length aFrom_cap) aFrom_L (aFrom_S.out.below HB9.out) (by have h9 := Pc.after_len aX_W aX_H aX_Cells_L aFrom_L aSteps aMarks_L aFars_L; (try simp only [LawsI.marksI_len]); omega)).mono ?_
  rintro e w10 ⟨u8, rfl, ho, hg⟩
  have A_u8_u5 := Lib.hid (Rg.apart_lt ho.lt Ou5.out.lt (Nat.le_refl _))
  have A_u8_u6 := Lib.hid (Rg.apart_lt ho.lt Ou6.out.lt (Nat.le_refl _))
  have D_u8_P0 := Lib.hid (ho.off XP0.out.lt)
  have D_u8_B7 := Lib.hid (ho.off XB7.out.lt)
  have Ou8 := Lib.hid (ho.lower HB9.out.size)
  have HB10 := Lib.hid (HB9.out.grown hg HB9.out.size (fun _ h => by cases h)); clear HB9
  have Ou5 := Lib.hid (Ou5.out.grown hg)
  have Ou6 := Lib.hid (Ou6.out.grown hg)
  have XP0 := Lib.hid (XP0.out.grown hg)
  have XB7 := Lib.hid (XB7.out.grown hg)
  clear ho hg
  try clear cP0_0
  have cP0_0 : World.cell? (w10) ⟨w.heap.size, 0, none⟩ = some (.int .i64 aX_W) := XP0.out.cell 0
  try clear cP0_1
  have cP0_1 : World.cell? (w10) ⟨w.heap.size, 1, none⟩ = some (.int .i64 aX_H) := XP0.out.cell 1
  try clear cP0_2
  have cP0_2 : World.cell? (w10) ⟨w.heap.size, 2, none⟩ = some (.slice aX_Cells_a aX_Cells_L.length aX_Cells_cap) := XP0.out.cell 2
  try clear cB7_0
  have cB7_0 : World.cell? (w10) ⟨w8.heap.size, 0, none⟩ = some (.int .i64 aX_W) := XB7.out.cell 0
  try clear cB7_1
  have cB7_1 : World.cell? (w10) ⟨w8.heap.size, 1, none⟩ = some (.int .i64 aX_H) := XB7.out.cell 1
  try clear cB7_2
  have cB7_2 : World.cell? (w10) ⟨w8.heap.size, 2, none⟩ = some (.slice u6_a u6_n u6_c) := XB7.out.cell 2
  go_wp2_with fail
  refine (LawsI.to_any w10 (.slice aMarks_a aMarks_L.length aMarks_cap) aMarks_L (aMarks_S.out.below HB10.out) (by have h9 := Pc.after_len aX_W aX_H aX_Cells_L aFrom_L aSteps aMarks_L aFars_L; (try simp only [LawsI.marksI_len]); omega)).mono ?_
  rintro e w11 ⟨u9, rfl, ho, hg⟩
  have A_u9_u5 := Lib.hid (Rg.apart_lt ho.lt Ou5.out.lt (Nat.le_refl _))
  have A_u9_u6 := Lib.hid (Rg.apart_lt ho.lt Ou6.out.lt (Nat.le_refl _))
  have A_u9_u8 := Lib.hid (Rg.apart_lt ho.lt Ou8.out.lt (Nat.le_refl _))
  have D_u9_P0 := Lib.hid (ho.off XP0.out.lt)
  have D_u9_B7 := Lib.hid (ho.off XB7.out.lt)
  have Ou9 := Lib.hid (ho.lower HB10.out.size)
  have HB11 := Lib.hid (HB10.out.grown hg HB10.out.size (fun _ h => by cases h)); clear HB10
  have Ou5 := Lib.hid (Ou5.out.grown hg)
  have Ou6 := Lib.hid (Ou6.out.grown hg)
  have Ou8 := Lib.hid (Ou8.out.grown hg)
  have XP0 := Lib.hid (XP0.out.grown hg)
  have XB7 := Lib.hid (XB7.out.grown hg)
  clear ho hg
  try clear cP0_0
  have cP0_0 : World.cell? (w11) ⟨w.heap.size, 0, none⟩ = some (.int .i64 aX_W) := XP0.out.cell 0
  try clear cP0_1
  have cP0_1 : World.cell? (w11) ⟨w.heap.size, 1, none⟩ = some (.int .i64 aX_H) := XP0.out.cell 1
  try clear cP0_2
  have cP0_2 : World.cell? (w11) ⟨w.heap.size, 2, none⟩ = some (.slice aX_Cells_a aX_Cells_L.length aX_Cells_cap) := XP0.out.cell 2
  try clear cB7_0
  have cB7_0 : World.cell? (w11) ⟨w8.heap.size, 0, none⟩ = some (.int .i64 aX_W) := XB7.out.cell 0
  try clear cB7_1
  have cB7_1 : World.cell? (w11) ⟨w8.heap.size, 1, none⟩ = some (.int .i64 aX_H) := XB7.out.cell 1
  try clear cB7_2
  have cB7_2 : World.cell? (w11) ⟨w8.heap.size, 2, none⟩ = some (.slice u6_a u6_n u6_c) := XB7.out.cell 2
  go_wp2_with fail
  refine (LawsI.to_any w11 (.slice aFars_a aFars_L.length aFars_cap) aFars_L (aFars_S.out.below HB11.out) (by have h9 := Pc.after_len aX_W aX_H aX_Cells_L aFrom_L aSteps aMarks_L aFars_L; (try simp only [LawsI.marksI_len]); omega)).mono ?_
  rintro e w12 ⟨u10, rfl, ho, hg⟩
  have A_u10_u5 := Lib.hid (Rg.apart_lt ho.lt Ou5.out.lt (Nat.le_refl _))
  have A_u10_u6 := Lib.hid (Rg.apart_lt ho.lt Ou6.out.lt (Nat.le_refl _))
  have A_u10_u8 := Lib.hid (Rg.apart_lt ho.lt Ou8.out.lt (Nat.le_refl _))
  have A_u10_u9 := Lib.hid (Rg.apart_lt ho.lt Ou9.out.lt (Nat.le_refl _))
  have D_u10_P0 := Lib.hid (ho.off XP0.out.lt)
  have D_u10_B7 := Lib.hid (ho.off XB7.out.lt)
  have Ou10 := Lib.hid (ho.lower HB11.out.size)
  have HB12 := Lib.hid (HB11.out.grown hg HB11.out.size (fun _ h => by cases h)); clear HB11
  have Ou5 := Lib.hid (Ou5.out.grown hg)
  have Ou6 := Lib.hid (Ou6.out.grown hg)
  have Ou8 := Lib.hid (Ou8.out.grown hg)
  have Ou9 := Lib.hid (Ou9.out.grown hg)
  have XP0 := Lib.hid (XP0.out.grown hg)
  have XB7 := Lib.hid (XB7.out.grown hg)
  clear ho hg
  try clear cP0_0
  have cP0_0 : World.cell? (w12) ⟨w.heap.size, 0, none⟩ = some (.int .i64 aX_W) := XP0.out.cell 0
  try clear cP0_1
  have cP0_1 : World.cell? (w12) ⟨w.heap.size, 1, none⟩ = some (.int .i64 aX_H) := XP0.out.cell 1
  try clear cP0_2
  have cP0_2 : World.cell? (w12) ⟨w.heap.size, 2, none⟩ = some (.slice aX_Cells_a aX_Cells_L.length aX_Cells_cap) := XP0.out.cell 2
  try clear cB7_0
  have cB7_0 : World.cell? (w12) ⟨w8.heap.size, 0, none⟩ = some (.int .i64 aX_W) := XB7.out.cell 0
  try clear cB7_1
  have cB7_1 : World.cell? (w12) ⟨w8.heap.size, 1, none⟩ = some (.int .i64 aX_H) := XB7.out.cell 1
  try clear cB7_2
  have cB7_2 : World.cell? (w12) ⟨w8.heap.size, 2, none⟩ = some (.slice u6_a u6_n u6_c) := XB7.out.cell 2
  go_wp2_with fail
  refine (Pc.iAfter_any w12 aX_W aX_H aSteps _ _ _ _ aX_Cells_L aFrom_L aMarks_L aFars_L (Ou6.out.sees) (Ou8.out.sees) (Ou9.out.sees) (Ou10.out.sees) aSteps_b (by have h9 := Pc.after_len aX_W aX_H aX_Cells_L aFrom_L aSteps aMarks_L aFars_L; (try simp only [LawsI.marksI_len]); omega) (HTB.out.below HB12.out (Nat.le_refl _))).mono ?_
  rintro e w13 ⟨u11, rfl, ho, hg⟩
  have A_u11_u5 := Lib.hid (Rg.apart_lt ho.lt Ou5.out.lt (Nat.le_refl _))
  have A_u11_u6 := Lib.hid (Rg.apart_lt ho.lt Ou6.out.lt (Nat.le_refl _))
  have A_u11_u8 := Lib.hid (Rg.apart_lt ho.lt Ou8.out.lt (Nat.le_refl _))
  have A_u11_u9 := Lib.hid (Rg.apart_lt ho.lt Ou9.out.lt (Nat.le_refl _))
  have A_u11_u10 := Lib.hid (Rg.apart_lt ho.lt Ou10.out.lt (Nat.le_refl _))
  have D_u11_P0 := Lib.hid (ho.off XP0.out.lt)
  have D_u11_B7 := Lib.hid (ho.off XB7.out.lt)
  have Ou11 := Lib.hid (ho.lower HB12.out.size)
  have HB13 := Lib.hid (HB12.out.grown hg HB12.out.size (fun _ h => by cases h)); clear HB12
  have Ou5 := Lib.hid (Ou5.out.grown hg)
  have Ou6 := Lib.hid (Ou6.out.grown hg)
  have Ou8 := Lib.hid (Ou8.out.grown hg)
  have Ou9 := Lib.hid (Ou9.out.grown hg)
  have Ou10 := Lib.hid (Ou10.out.grown hg)
  have XP0 := Lib.hid (XP0.out.grown hg)
  have XB7 := Lib.hid (XB7.out.grown hg)
  clear ho hg
  try clear cP0_0
  have cP0_0 : World.cell? (w13) ⟨w.heap.size, 0, none⟩ = some (.int .i64 aX_W) := XP0.out.cell 0
  try clear cP0_1
  have cP0_1 : World.cell? (w13) ⟨w.heap.size, 1, none⟩ = some (.int .i64 aX_H) := XP0.out.cell 1
  try clear cP0_2
  have cP0_2 : World.cell? (w13) ⟨w.heap.size, 2, none⟩ = some (.slice aX_Cells_a aX_Cells_L.length aX_Cells_cap) := XP0.out.cell 2
  try clear cB7_0
  have cB7_0 : World.cell? (w13) ⟨w8.heap.size, 0, none⟩ = some (.int .i64 aX_W) := XB7.out.cell 0
  try clear cB7_1
  have cB7_1 : World.cell? (w13) ⟨w8.heap.size, 1, none⟩ = some (.int .i64 aX_H) := XB7.out.cell 1
  try clear cB7_2
  have cB7_2 : World.cell? (w13) ⟨w8.heap.size, 2, none⟩ = some (.slice u6_a u6_n u6_c) := XB7.out.cell 2
  go_wp2_with fail
  refine (LawsI.eq_same w13 (u11) (u5) (Pc.after aX_W aX_H aX_Cells_L aFrom_L aSteps aMarks_L aFars_L) (Ou11.out.sees) (Ou5.out.sees)).mono ?_
  rintro e w14 ⟨rfl, hg⟩
  have HB14 := Lib.hid (HB13.out.grown hg HB13.out.size (fun _ h => by cases h)); clear HB13
  have Ou5 := Lib.hid (Ou5.out.grown hg)
  have Ou6 := Lib.hid (Ou6.out.grown hg)
  have Ou8 := Lib.hid (Ou8.out.grown hg)
  have Ou9 := Lib.hid (Ou9.out.grown hg)
  have Ou10 := Lib.hid (Ou10.out.grown hg)
  have Ou11 := Lib.hid (Ou11.out.grown hg)
  have XP0 := Lib.hid (XP0.out.grown hg)
  have XB7 := Lib.hid (XB7.out.grown hg)
  clear hg
  try clear cP0_0
  have cP0_0 : World.cell? (w14) ⟨w.heap.size, 0, none⟩ = some (.int .i64 aX_W) := XP0.out.cell 0
  try clear cP0_1
  have cP0_1 : World.cell? (w14) ⟨w.heap.size, 1, none⟩ = some (.int .i64 aX_H) := XP0.out.cell 1
  try clear cP0_2
  have cP0_2 : World.cell? (w14) ⟨w.heap.size, 2, none⟩ = some (.slice aX_Cells_a aX_Cells_L.length aX_Cells_cap) := XP0.out.cell 2
  try clear cB7_0
  have cB7_0 : World.cell? (w14) ⟨w8.heap.size, 0, none⟩ = some (.int .i64 aX_W) := XB7.out.cell 0
  try clear cB7_1
  have cB7_1 : World.cell? (w14) ⟨w8.heap.size, 1, none⟩ = some (.int .i64 aX_H) := XB7.out.cell 1
  try clear cB7_2
  have cB7_2 : World.cell? (w14) ⟨w8.heap.size, 2, none⟩ = some (.slice u6_a u6_n u6_c) := XB7.out.cell 2
  have hd0 := (World.grownBy.cell (grown_drew (World.grownBy.refl w14 none)) cB7_0 (by simp))
  have HD0 := Lib.hid hd0; clear hd0
  have hd1 := (World.grownBy.cell (grown_drew (World.grownBy.refl w14 none)) cB7_1 (by simp))
  have HD1 := Lib.hid hd1; clear hd1
  have hd2 := (World.grownBy.cell (grown_drew (World.grownBy.refl w14 none)) cB7_2 (by simp))
  have HD2 := Lib.hid hd2; clear hd2
  have hd3 := (World.grownBy.cell (grown_drew (World.grownBy.refl w14 none)) cP0_0 (by simp))
  have HD3 := Lib.hid hd3; clear hd3
  have hd4 := (World.grownBy.cell (grown_drew (World.grownBy.refl w14 none)) cP0_1 (by simp))
  have HD4 := Lib.hid hd4; clear hd4
  have hd5 := (World.grownBy.cell (grown_drew (World.grownBy.refl w14 none)) cP0_2 (by simp))
  have HD5 := Lib.hid hd5; clear hd5
  have HYaX_Cells := Lib.hid ((aX_Cells_S.out.below HB14.out).grown (grown_drew (World.grownBy.refl w14 none)))
  have HXu6 := Lib.hid (Ou6.out.grown (grown_drew (World.grownBy.refl w14 none)))
  go_wp2_with fail
  go_region_held3 (fun w' => w'.cell? ⟨w8.heap.size, 0, none⟩ = some (.int .i64 aX_W) ∧ w'.cell? ⟨w8.heap.size, 1, none⟩ = some (.int .i64 aX_H) ∧ w'.cell? ⟨w8.heap.size, 2, none⟩ = some (.slice u6_a u6_n u6_c) ∧ w'.cell? ⟨w.heap.size, 0, none⟩ = some (.int .i64 aX_W) ∧ w'.cell? ⟨w.heap.size, 1, none⟩ = some (.int .i64 aX_H) ∧ w'.cell? ⟨w.heap.size, 2, none⟩ = some (.slice aX_Cells_a aX_Cells_L.length aX_Cells_cap))
    (first | go_keep | (exact ⟨hgA.cell HD0.out (by simp), hgA.cell HD1.out (by simp), hgA.cell HD2.out (by simp), hgA.cell HD3.out (by simp), hgA.cell HD4.out (by simp), hgA.cell HD5.out (by simp)⟩) | (exact ⟨hgB.cell (hgA.cell HD0.out (by simp)) (by simp), hgB.cell (hgA.cell HD1.out (by simp)) (by simp), hgB.cell (hgA.cell HD2.out (by simp)) (by simp), hgB.cell (hgA.cell HD3.out (by simp)) (by simp), hgB.cell (hgA.cell HD4.out (by simp)) (by simp), hgB.cell (hgA.cell HD5.out (by simp)) (by simp)⟩))
    (first
      | (go_at_call 23; refine (LandL.toLand_any _ aX_W aX_H _ _ HYaX_Cells.out (by omega)).mono ?_; rintro e wA ⟨u12, rfl, hoA, hgA⟩)
      | (go_at_call 26; refine (LandL.eqLand_same _ aX_W aX_H _ _ _ (HXu6.out.grown hgA).sees hoA.sees).mono ?_; rintro e wBu12 ⟨rfl, hgB⟩))
  have hg : World.grownBy w14 wBu12 none := grownN_trans (grown_drew (World.grownBy.refl w14 none)) (grownN_trans hgA hgB)
  have HB15 := Lib.hid (HB14.out.grown hg HB14.out.size (fun _ h => by cases h)); clear HB14
  have Ou5 := Lib.hid (Ou5.out.grown hg)
  have Ou6 := Lib.hid (Ou6.out.grown hg)
  have Ou8 := Lib.hid (Ou8.out.grown hg)
  have Ou9 := Lib.hid (Ou9.out.grown hg)
  have Ou10 := Lib.hid (Ou10.out.grown hg)
  have Ou11 := Lib.hid (Ou11.out.grown hg)
  have XP0 := Lib.hid (XP0.out.grown hg)
  have XB7 := Lib.hid (XB7.out.grown hg)
  clear hg hgA hgB hoA
  clear HD0
  clear HD1
  clear HD2
  clear HD3
  clear HD4
  clear HD5
  clear HYaX_Cells
  clear HXu6
  try clear cP0_0
  have cP0_0 : World.cell? (wBu12) ⟨w.heap.size, 0, none⟩ = some (.int .i64 aX_W) := XP0.out.cell 0
  try clear cP0_1
  have cP0_1 : World.cell? (wBu12) ⟨w.heap.size, 1, none⟩ = some (.int .i64 aX_H) := XP0.out.cell 1
  try clear cP0_2
  have cP0_2 : World.cell? (wBu12) ⟨w.heap.size, 2, none⟩ = some (.slice aX_Cells_a aX_Cells_L.length aX_Cells_cap) := XP0.out.cell 2
  try clear cB7_0
  have cB7_0 : World.cell? (wBu12) ⟨w8.heap.size, 0, none⟩ = some (.int .i64 aX_W) := XB7.out.cell 0
  try clear cB7_1
  have cB7_1 : World.cell? (wBu12) ⟨w8.heap.size, 1, none⟩ = some (.int .i64 aX_H) := XB7.out.cell 1
  try clear cB7_2
  have cB7_2 : World.cell? (wBu12) ⟨w8.heap.size, 2, none⟩ = some (.slice u6_a u6_n u6_c) := XB7.out.cell 2
  go_wp2_with fail
  refine (LawsI.to_any wBu12 (.slice aFrom_a aFrom_L.length aFrom_cap) aFrom_L (aFrom_S.out.below HB15.out) (by have h9 := Pc.after_len aX_W aX_H aX_Cells_L aFrom_L aSteps aMarks_L aFars_L; (try simp only [LawsI.marksI_len]); omega)).mono ?_
  rintro e w16 ⟨u13, rfl, ho, hg⟩
  have A_u13_u5 := Lib.hid (Rg.apart_lt ho.lt Ou5.out.lt (Nat.le_refl _))
  have A_u13_u6 := Lib.hid (Rg.apart_lt ho.lt Ou6.out.lt (Nat.le_refl _))
  have A_u13_u8 := Lib.hid (Rg.apart_lt ho.lt Ou8.out.lt (Nat.le_refl _))
  have A_u13_u9 := Lib.hid (Rg.apart_lt ho.lt Ou9.out.lt (Nat.le_refl _))
  have A_u13_u10 := Lib.hid (Rg.apart_lt ho.lt Ou10.out.lt (Nat.le_refl _))
  have A_u13_u11 := Lib.hid (Rg.apart_lt ho.lt Ou11.out.lt (Nat.le_refl _))
  have D_u13_P0 := Lib.hid (ho.off XP0.out.lt)
  have D_u13_B7 := Lib.hid (ho.off XB7.out.lt)
  have Ou13 := Lib.hid (ho.lower HB15.out.size)
  have HB16 := Lib.hid (HB15.out.grown hg HB15.out.size (fun _ h => by cases h)); clear HB15
  have Ou5 := Lib.hid (Ou5.out.grown hg)
  have Ou6 := Lib.hid (Ou6.out.grown hg)
  have Ou8 := Lib.hid (Ou8.out.grown hg)
  have Ou9 := Lib.hid (Ou9.out.grown hg)
  have Ou10 := Lib.hid (Ou10.out.grown hg)
  have Ou11 := Lib.hid (Ou11.out.grown hg)
  have XP0 := Lib.hid (XP0.out.grown hg)
  have XB7 := Lib.hid (XB7.out.grown hg)
  clear ho hg
  try clear cP0_0
  have cP0_0 : World.cell? (w16) ⟨w.heap.size, 0, none⟩ = some (.int .i64 aX_W) := XP0.out.cell 0
  try clear cP0_1
  have cP0_1 : World.cell? (w16) ⟨w.heap.size, 1, none⟩ = some (.int .i64 aX_H) := XP0.out.cell 1
  try clear cP0_2
  have cP0_2 : World.cell? (w16) ⟨w.heap.size, 2, none⟩ = some (.slice aX_Cells_a aX_Cells_L.length aX_Cells_cap) := XP0.out.cell 2
  try clear cB7_0
  have cB7_0 : World.cell? (w16) ⟨w8.heap.size, 0, none⟩ = some (.int .i64 aX_W) := XB7.out.cell 0
  try clear cB7_1
  have cB7_1 : World.cell? (w16) ⟨w8.heap.size, 1, none⟩ = some (.int .i64 aX_H) := XB7.out.cell 1
  try clear cB7_2
  have cB7_2 : World.cell? (w16) ⟨w8.heap.size, 2, none⟩ = some (.slice u6_a u6_n u6_c) := XB7.out.cell 2
  go_wp2_with fail
  refine (LawsI.eq_same w16 (u8) (u13) aFrom_L (Ou8.out.sees) (Ou13.out.sees)).mono ?_
  rintro e w17 ⟨rfl, hg⟩
  have HB17 := Lib.hid (HB16.out.grown hg HB16.out.size (fun _ h => by cases h)); clear HB16
  have Ou5 := Lib.hid (Ou5.out.grown hg)
  have Ou6 := Lib.hid (Ou6.out.grown hg)
  have Ou8 := Lib.hid (Ou8.out.grown hg)
  have Ou9 := Lib.hid (Ou9.out.grown hg)
  have Ou10 := Lib.hid (Ou10.out.grown hg)
  have Ou11 := Lib.hid (Ou11.out.grown hg)
  have Ou13 := Lib.hid (Ou13.out.grown hg)
  have XP0 := Lib.hid (XP0.out.grown hg)
  have XB7 := Lib.hid (XB7.out.grown hg)
  clear hg
  clear Ou13
  try clear cP0_0
  have cP0_0 : World.cell? (w17) ⟨w.heap.size, 0, none⟩ = some (.int .i64 aX_W) := XP0.out.cell 0
  try clear cP0_1
  have cP0_1 : World.cell? (w17) ⟨w.heap.size, 1, none⟩ = some (.int .i64 aX_H) := XP0.out.cell 1
  try clear cP0_2
  have cP0_2 : World.cell? (w17) ⟨w.heap.size, 2, none⟩ = some (.slice aX_Cells_a aX_Cells_L.length aX_Cells_cap) := XP0.out.cell 2
  try clear cB7_0
  have cB7_0 : World.cell? (w17) ⟨w8.heap.size, 0, none⟩ = some (.int .i64 aX_W) := XB7.out.cell 0
  try clear cB7_1
  have cB7_1 : World.cell? (w17) ⟨w8.heap.size, 1, none⟩ = some (.int .i64 aX_H) := XB7.out.cell 1
  try clear cB7_2
  have cB7_2 : World.cell? (w17) ⟨w8.heap.size, 2, none⟩ = some (.slice u6_a u6_n u6_c) := XB7.out.cell 2
  go_wp2_with fail
  refine (LawsI.to_any w17 (.slice aMarks_a aMarks_L.length aMarks_cap) aMarks_L (aMarks_S.out.below HB17.out) (by have h9 := Pc.after_len aX_W aX_H aX_Cells_L aFrom_L aSteps aMarks_L aFars_L; (try simp only [LawsI.marksI_len]); omega)).mono ?_
  rintro e w18 ⟨u14, rfl, ho, hg⟩
  have A_u14_u5 := Lib.hid (Rg.apart_lt ho.lt Ou5.out.lt (Nat.le_refl _))
  have A_u14_u6 := Lib.hid (Rg.apart_lt ho.lt Ou6.out.lt (Nat.le_refl _))
  have A_u14_u8 := Lib.hid (Rg.apart_lt ho.lt Ou8.out.lt (Nat.le_refl _))
  have A_u14_u9 := Lib.hid (Rg.apart_lt ho.lt Ou9.out.lt (Nat.le_refl _))
  have A_u14_u10 := Lib.hid (Rg.apart_lt ho.lt Ou10.out.lt (Nat.le_refl _))
  have A_u14_u11 := Lib.hid (Rg.apart_lt ho.lt Ou11.out.lt (Nat.le_refl _))
  have D_u14_P0 := Lib.hid (ho.off XP0.out.lt)
  have D_u14_B7 := Lib.hid (ho.off XB7.out.lt)
  have Ou14 := Lib.hid (ho.lower HB17.out.size)
  have HB18 := Lib.hid (HB17.out.grown hg HB17.out.size (fun _ h => by cases h)); clear HB17
  have Ou5 := Lib.hid (Ou5.out.grown hg)
  have Ou6 := Lib.hid (Ou6.out.grown hg)
  have Ou8 := Lib.hid (Ou8.out.grown hg)
  have Ou9 := Lib.hid (Ou9.out.grown hg)
  have Ou10 := Lib.hid (Ou10.out.grown hg)
  have Ou11 := Lib.hid (Ou11.out.grown hg)
  have XP0 := Lib.hid (XP0.out.grown hg)
  have XB7 := Lib.hid (XB7.out.grown hg)
  clear ho hg
  try clear cP0_0
  have cP0_0 : World.cell? (w18) ⟨w.heap.size, 0, none⟩ = some (.int .i64 aX_W) := XP0.out.cell 0
  try clear cP0_1
  have cP0_1 : World.cell? (w18) ⟨w.heap.size, 1, none⟩ = some (.int .i64 aX_H) := XP0.out.cell 1
  try clear cP0_2
  have cP0_2 : World.cell? (w18) ⟨w.heap.size, 2, none⟩ = some (.slice aX_Cells_a aX_Cells_L.length aX_Cells_cap) := XP0.out.cell 2
  try clear cB7_0
  have cB7_0 : World.cell? (w18) ⟨w8.heap.size, 0, none⟩ = some (.int .i64 aX_W) := XB7.out.cell 0
  try clear cB7_1
  have cB7_1 : World.cell? (w18) ⟨w8.heap.size, 1, none⟩ = some (.int .i64 aX_H) := XB7.out.cell 1
  try clear cB7_2
  have cB7_2 : World.cell? (w18) ⟨w8.heap.size, 2, none⟩ = some (.slice u6_a u6_n u6_c) := XB7.out.cell 2
  go_wp2_with fail
  refine (LawsI.eq_same w18 (u9) (u14) aMarks_L (Ou9.out.sees) (Ou14.out.sees)).mono ?_
  rintro e w19 ⟨rfl, hg⟩
  have HB19 := Lib.hid (HB18.out.grown hg HB18.out.size (fun _ h => by cases h)); clear HB18
  have Ou5 := Lib.hid (Ou5.out.grown hg)
  have Ou6 := Lib.hid (Ou6.out.grown hg)
  have Ou8 := Lib.hid (Ou8.out.grown hg)
  have Ou9 := Lib.hid (Ou9.out.grown hg)
  have Ou10 := Lib.hid (Ou10.out.grown hg)
  have Ou11 := Lib.hid (Ou11.out.grown hg)
  have Ou14 := Lib.hid (Ou14.out.grown hg)
  have XP0 := Lib.hid (XP0.out.grown hg)
  have XB7 := Lib.hid (XB7.out.grown hg)
  clear hg
  clear Ou14
  try clear cP0_0
  have cP0_0 : World.cell? (w19) ⟨w.heap.size, 0, none⟩ = some (.int .i64 aX_W) := XP0.out.cell 0
  try clear cP0_1
  have cP0_1 : World.cell? (w19) ⟨w.heap.size, 1, none⟩ = some (.int .i64 aX_H) := XP0.out.cell 1
  try clear cP0_2
  have cP0_2 : World.cell? (w19) ⟨w.heap.size, 2, none⟩ = some (.slice aX_Cells_a aX_Cells_L.length aX_Cells_cap) := XP0.out.cell 2
  try clear cB7_0
  have cB7_0 : World.cell? (w19) ⟨w8.heap.size, 0, none⟩ = some (.int .i64 aX_W) := XB7.out.cell 0
  try clear cB7_1
  have cB7_1 : World.cell? (w19) ⟨w8.heap.size, 1, none⟩ = some (.int .i64 aX_H) := XB7.out.cell 1
  try clear cB7_2
  have cB7_2 : World.cell? (w19) ⟨w8.heap.size, 2, none⟩ = some (.slice u6_a u6_n u6_c) := XB7.out.cell 2
  go_wp2_with fail
  refine (LawsI.to_any w19 (.slice aFars_a aFars_L.length aFars_cap) aFars_L (aFars_S.out.below HB19.out) (by have h9 := Pc.after_len aX_W aX_H aX_Cells_L aFrom_L aSteps aMarks_L aFars_L; (try simp only [LawsI.marksI_len]); omega)).mono ?_
  rintro e w20 ⟨u15, rfl, ho, hg⟩
  have A_u15_u5 := Lib.hid (Rg.apart_lt ho.lt Ou5.out.lt (Nat.le_refl _))
  have A_u15_u6 := Lib.hid (Rg.apart_lt ho.lt Ou6.out.lt (Nat.le_refl _))
  have A_u15_u8 := Lib.hid (Rg.apart_lt ho.lt Ou8.out.lt (Nat.le_refl _))
  have A_u15_u9 := Lib.hid (Rg.apart_lt ho.lt Ou9.out.lt (Nat.le_refl _))
  have A_u15_u10 := Lib.hid (Rg.apart_lt ho.lt Ou10.out.lt (Nat.le_refl _))
  have A_u15_u11 := Lib.hid (Rg.apart_lt ho.lt Ou11.out.lt (Nat.le_refl _))
  have D_u15_P0 := Lib.hid (ho.off XP0.out.lt)
  have D_u15_B7 := Lib.hid (ho.off XB7.out.lt)
  have Ou15 := Lib.hid (ho.lower HB19.out.size)
  have HB20 := Lib.hid (HB19.out.grown hg HB19.out.size (fun _ h => by cases h)); clear HB19
  have Ou5 := Lib.hid (Ou5.out.grown hg)
  have Ou6 := Lib.hid (Ou6.out.grown hg)
  have Ou8 := Lib.hid (Ou8.out.grown hg)
  have Ou9 := Lib.hid (Ou9.out.grown hg)
  have Ou10 := Lib.hid (Ou10.out.grown hg)
  have Ou11 := Lib.hid (Ou11.out.grown hg)
  have XP0 := Lib.hid (XP0.out.grown hg)
  have XB7 := Lib.hid (XB7.out.grown hg)
  clear ho hg
  try clear cP0_0
  have cP0_0 : World.cell? (w20) ⟨w.heap.size, 0, none⟩ = some (.int .i64 aX_W) := XP0.out.cell 0
  try clear cP0_1
  have cP0_1 : World.cell? (w20) ⟨w.heap.size, 1, none⟩ = some (.int .i64 aX_H) := XP0.out.cell 1
  try clear cP0_2
  have cP0_2 : World.cell? (w20) ⟨w.heap.size, 2, none⟩ = some (.slice aX_Cells_a aX_Cells_L.length aX_Cells_cap) := XP0.out.cell 2
  try clear cB7_0
  have cB7_0 : World.cell? (w20) ⟨w8.heap.size, 0, none⟩ = some (.int .i64 aX_W) := XB7.out.cell 0
  try clear cB7_1
  have cB7_1 : World.cell? (w20) ⟨w8.heap.size, 1, none⟩ = some (.int .i64 aX_H) := XB7.out.cell 1
  try clear cB7_2
  have cB7_2 : World.cell? (w20) ⟨w8.heap.size, 2, none⟩ = some (.slice u6_a u6_n u6_c) := XB7.out.cell 2
  go_wp2_with fail
  refine (LawsI.eq_same w20 (u10) (u15) aFars_L (Ou10.out.sees) (Ou15.out.sees)).mono ?_
  rintro e w21 ⟨rfl, hg⟩
  have HB21 := Lib.hid (HB20.out.grown hg HB20.out.size (fun _ h => by cases h)); clear HB20
  have Ou5 := Lib.hid (Ou5.out.grown hg)
  have Ou6 := Lib.hid (Ou6.out.grown hg)
  have Ou8 := Lib.hid (Ou8.out.grown hg)
  have Ou9 := Lib.hid (Ou9.out.grown hg)
  have Ou10 := Lib.hid (Ou10.out.grown hg)
  have Ou11 := Lib.hid (Ou11.out.grown hg)
  have Ou15 := Lib.hid (Ou15.out.grown hg)
  have XP0 := Lib.hid (XP0.out.grown hg)
  have XB7 := Lib.hid (XB7.out.grown hg)
  clear hg
  clear Ou15
  try clear cP0_0
  have cP0_0 : World.cell? (w21) ⟨w.heap.size, 0, none⟩ = some (.int .i64 aX_W) := XP0.out.cell 0
  try clear cP0_1
  have cP0_1 : World.cell? (w21) ⟨w.heap.size, 1, none⟩ = some (.int .i64 aX_H) := XP0.out.cell 1
  try clear cP0_2
  have cP0_2 : World.cell? (w21) ⟨w.heap.size, 2, none⟩ = some (.slice aX_Cells_a aX_Cells_L.length aX_Cells_cap) := XP0.out.cell 2
  try clear cB7_0
  have cB7_0 : World.cell? (w21) ⟨w8.heap.size, 0, none⟩ = some (.int .i64 aX_W) := XB7.out.cell 0
  try clear cB7_1
  have cB7_1 : World.cell? (w21) ⟨w8.heap.size, 1, none⟩ = some (.int .i64 aX_H) := XB7.out.cell 1
  try clear cB7_2
  have cB7_2 : World.cell? (w21) ⟨w8.heap.size, 2, none⟩ = some (.slice u6_a u6_n u6_c) := XB7.out.cell 2
  go_wp2_with fail
  refine (LandL.markLand_any w21 w.heap.size aX_W aX_H _ aX_Cells_L (1) Ou6.out (by have h9 := Pc.after_len aX_W aX_H aX_Cells_L aFrom_L aSteps aMarks_L aFars_L; (try simp only [LawsI.marksI_len]); omega)).mono ?_
  rintro e w22 ⟨rfl, ho, hg⟩
  have HB22 := Lib.hid (HB21.out.grown hg HB21.out.size (fun c hc => (Ou6.out.lt c hc).1)); clear HB21
  have Ou5 := Lib.hid (Ou5.out.kept hg (A_u6_u5.out.2))
  have Ou8 := Lib.hid (Ou8.out.kept hg (A_u8_u6.out.1))
  have Ou9 := Lib.hid (Ou9.out.kept hg (A_u9_u6.out.1))
  have Ou10 := Lib.hid (Ou10.out.kept hg (A_u10_u6.out.1))
  have Ou11 := Lib.hid (Ou11.out.kept hg (A_u11_u6.out.1))
  have XP0 := Lib.hid (XP0.out.kept hg D_u6_P0.out)
  have XB7 := Lib.hid (XB7.out.kept hg D_u6_B7.out)
  have Ou6 := Lib.hid ho; clear ho hg
  try clear cP0_0
  have cP0_0 : World.cell? (w22) ⟨w.heap.size, 0, none⟩ = some (.int .i64 aX_W) := XP0.out.cell 0
  try clear cP0_1
  have cP0_1 : World.cell? (w22) ⟨w.heap.size, 1, none⟩ = some (.int .i64 aX_H) := XP0.out.cell 1
  try clear cP0_2
  have cP0_2 : World.cell? (w22) ⟨w.heap.size, 2, none⟩ = some (.slice aX_Cells_a aX_Cells_L.length aX_Cells_cap) := XP0.out.cell 2
  try clear cB7_0
  have cB7_0 : World.cell? (w22) ⟨w8.heap.size, 0, none⟩ = some (.int .i64 aX_W) := XB7.out.cell 0
  try clear cB7_1
  have cB7_1 : World.cell? (w22) ⟨w8.heap.size, 1, none⟩ = some (.int .i64 aX_H) := XB7.out.cell 1
  try clear cB7_2
  have cB7_2 : World.cell? (w22) ⟨w8.heap.size, 2, none⟩ = some (.slice u6_a u6_n u6_c) := XB7.out.cell 2
  go_wp2_with fail
  refine (LawsI.mark_any w22 w.heap.size (u8) aFrom_L (1 + (aX_Cells_L).length) Ou8.out (by have h9 := Pc.after_len aX_W aX_H aX_Cells_L aFrom_L aSteps aMarks_L aFars_L; (try simp only [LawsI.marksI_len]); omega)).mono ?_
  rintro e w23 ⟨rfl, ho, hg⟩
  have HB23 := Lib.hid (HB22.out.grown hg HB22.out.size (fun c hc => (Ou8.out.lt c hc).1)); clear HB22
  have Ou5 := Lib.hid (Ou5.out.kept hg (A_u8_u5.out.2))
  have Ou6 := Lib.hid (Ou6.out.kept hg (A_u8_u6.out.2))
  have Ou9 := Lib.hid (Ou9.out.kept hg (A_u9_u8.out.1))
  have Ou10 := Lib.hid (Ou10.out.kept hg (A_u10_u8.out.1))
  have Ou11 := Lib.hid (Ou11.out.kept hg (A_u11_u8.out.1))
  have XP0 := Lib.hid (XP0.out.kept hg D_u8_P0.out)
  have XB7 := Lib.hid (XB7.out.kept hg D_u8_B7.out)
  have Ou8 := Lib.hid ho; clear ho hg
  try clear cP0_0
  have cP0_0 : World.cell? (w23) ⟨w.heap.size, 0, none⟩ = some (.int .i64 aX_W) := XP0.out.cell 0
  try clear cP0_1
  have cP0_1 : World.cell? (w23) ⟨w.heap.size, 1, none⟩ = some (.int .i64 aX_H) := XP0.out.cell 1
  try clear cP0_2
  have cP0_2 : World.cell? (w23) ⟨w.heap.size, 2, none⟩ = some (.slice aX_Cells_a aX_Cells_L.length aX_Cells_cap) := XP0.out.cell 2
  try clear cB7_0
  have cB7_0 : World.cell? (w23) ⟨w8.heap.size, 0, none⟩ = some (.int .i64 aX_W) := XB7.out.cell 0
  try clear cB7_1
  have cB7_1 : World.cell? (w23) ⟨w8.heap.size, 1, none⟩ = some (.int .i64 aX_H) := XB7.out.cell 1
  try clear cB7_2
  have cB7_2 : World.cell? (w23) ⟨w8.heap.size, 2, none⟩ = some (.slice u6_a u6_n u6_c) := XB7.out.cell 2
  go_wp2_with fail
  refine (LawsI.mark_any w23 w.heap.size (u9) aMarks_L (1 + (aX_Cells_L).length + (aFrom_L).length) Ou9.out (by have h9 := Pc.after_len aX_W aX_H aX_Cells_L aFrom_L aSteps aMarks_L aFars_L; (try simp only [LawsI.marksI_len]); omega)).mono ?_
  rintro e w24 ⟨rfl, ho, hg⟩
  have HB24 := Lib.hid (HB23.out.grown hg HB23.out.size (fun c hc => (Ou9.out.lt c hc).1)); clear HB23
  have Ou5 := Lib.hid (Ou5.out.kept hg (A_u9_u5.out.2))
  have Ou6 := Lib.hid (Ou6.out.kept hg (A_u9_u6.out.2))
  have Ou8 := Lib.hid (Ou8.out.kept hg (A_u9_u8.out.2))
  have Ou10 := Lib.hid (Ou10.out.kept hg (A_u10_u9.out.1))
  have Ou11 := Lib.hid (Ou11.out.kept hg (A_u11_u9.out.1))
  have XP0 := Lib.hid (XP0.out.kept hg D_u9_P0.out)
  have XB7 := Lib.hid (XB7.out.kept hg D_u9_B7.out)
  have Ou9 := Lib.hid ho; clear ho hg
  try clear cP0_0
  have cP0_0 : World.cell? (w24) ⟨w.heap.size, 0, none⟩ = some (.int .i64 aX_W) := XP0.out.cell 0
  try clear cP0_1
  have cP0_1 : World.cell? (w24) ⟨w.heap.size, 1, none⟩ = some (.int .i64 aX_H) := XP0.out.cell 1
  try clear cP0_2
  have cP0_2 : World.cell? (w24) ⟨w.heap.size, 2, none⟩ = some (.slice aX_Cells_a aX_Cells_L.length aX_Cells_cap) := XP0.out.cell 2
  try clear cB7_0
  have cB7_0 : World.cell? (w24) ⟨w8.heap.size, 0, none⟩ = some (.int .i64 aX_W) := XB7.out.cell 0
  try clear cB7_1
  have cB7_1 : World.cell? (w24) ⟨w8.heap.size, 1, none⟩ = some (.int .i64 aX_H) := XB7.out.cell 1
  try clear cB7_2
  have cB7_2 : World.cell? (w24) ⟨w8.heap.size, 2, none⟩ = some (.slice u6_a u6_n u6_c) := XB7.out.cell 2
  go_wp2_with fail
  refine (LawsI.mark_any w24 w.heap.size (u10) aFars_L (1 + (aX_Cells_L).length + (aFrom_L).length + (aMarks_L).length) Ou10.out (by have h9 := Pc.after_len aX_W aX_H aX_Cells_L aFrom_L aSteps aMarks_L aFars_L; (try simp only [LawsI.marksI_len]); omega)).mono ?_
  rintro e w25 ⟨rfl, ho, hg⟩
  have HB25 := Lib.hid (HB24.out.grown hg HB24.out.size (fun c hc => (Ou10.out.lt c hc).1)); clear HB24
  have Ou5 := Lib.hid (Ou5.out.kept hg (A_u10_u5.out.2))
  have Ou6 := Lib.hid (Ou6.out.kept hg (A_u10_u6.out.2))
  have Ou8 := Lib.hid (Ou8.out.kept hg (A_u10_u8.out.2))
  have Ou9 := Lib.hid (Ou9.out.kept hg (A_u10_u9.out.2))
  have Ou11 := Lib.hid (Ou11.out.kept hg (A_u11_u10.out.1))
  have XP0 := Lib.hid (XP0.out.kept hg D_u10_P0.out)
  have XB7 := Lib.hid (XB7.out.kept hg D_u10_B7.out)
  have Ou10 := Lib.hid ho; clear ho hg
  try clear cP0_0
  have cP0_0 : World.cell? (w25) ⟨w.heap.size, 0, none⟩ = some (.int .i64 aX_W) := XP0.out.cell 0
  try clear cP0_1
  have cP0_1 : World.cell? (w25) ⟨w.heap.size, 1, none⟩ = some (.int .i64 aX_H) := XP0.out.cell 1
  try clear cP0_2
  have cP0_2 : World.cell? (w25) ⟨w.heap.size, 2, none⟩ = some (.slice aX_Cells_a aX_Cells_L.length aX_Cells_cap) := XP0.out.cell 2
  try clear cB7_0
  have cB7_0 : World.cell? (w25) ⟨w8.heap.size, 0, none⟩ = some (.int .i64 aX_W) := XB7.out.cell 0
  try clear cB7_1
  have cB7_1 : World.cell? (w25) ⟨w8.heap.size, 1, none⟩ = some (.int .i64 aX_H) := XB7.out.cell 1
  try clear cB7_2
  have cB7_2 : World.cell? (w25) ⟨w8.heap.size, 2, none⟩ = some (.slice u6_a u6_n u6_c) := XB7.out.cell 2
  go_wp2_with fail
  refine (LawsI.eq_same w25 (u11) (u5) (Pc.after aX_W aX_H aX_Cells_L aFrom_L aSteps aMarks_L aFars_L) (Ou11.out.sees) (Ou5.out.sees)).mono ?_
  rintro e w26 ⟨rfl, hg⟩
  have HB26 := Lib.hid (HB25.out.grown hg HB25.out.size (fun _ h => by cases h)); clear HB25
  have Ou5 := Lib.hid (Ou5.out.grown hg)
  have Ou6 := Lib.hid (Ou6.out.grown hg)
  have Ou8 := Lib.hid (Ou8.out.grown hg)
  have Ou9 := Lib.hid (Ou9.out.grown hg)
  have Ou10 := Lib.hid (Ou10.out.grown hg)
  have Ou11 := Lib.hid (Ou11.out.grown hg)
  have XP0 := Lib.hid (XP0.out.grown hg)
  have XB7 := Lib.hid (XB7.out.grown hg)
  clear hg
  clear Ou6
  clear Ou8
  clear Ou9
  clear Ou10
  try clear cP0_0
  have cP0_0 : World.cell? (w26) ⟨w.heap.size, 0, none⟩ = some (.int .i64 aX_W) := XP0.out.cell 0
  try clear cP0_1
  have cP0_1 : World.cell? (w26) ⟨w.heap.size, 1, none⟩ = some (.int .i64 aX_H) := XP0.out.cell 1
  try clear cP0_2
  have cP0_2 : World.cell? (w26) ⟨w.heap.size, 2, none⟩ = some (.slice aX_Cells_a aX_Cells_L.length aX_Cells_cap) := XP0.out.cell 2
  try clear cB7_0
  have cB7_0 : World.cell? (w26) ⟨w8.heap.size, 0, none⟩ = some (.int .i64 aX_W) := XB7.out.cell 0
  try clear cB7_1
  have cB7_1 : World.cell? (w26) ⟨w8.heap.size, 1, none⟩ = some (.int .i64 aX_H) := XB7.out.cell 1
  try clear cB7_2
  have cB7_2 : World.cell? (w26) ⟨w8.heap.size, 2, none⟩ = some (.slice u6_a u6_n u6_c) := XB7.out.cell 2
  go_wp2_with fail
  refine (LawsI.mark_any w26 w.heap.size (u11) (Pc.after aX_W aX_H aX_Cells_L aFrom_L aSteps aMarks_L aFars_L) (1) Ou11.out (by have h9 := Pc.after_len aX_W aX_H aX_Cells_L aFrom_L aSteps aMarks_L aFars_L; (try simp only [LawsI.marksI_len]); omega)).mono ?_
  rintro e w27 ⟨rfl, ho, hg⟩
  have HB27 := Lib.hid (HB26.out.grown hg HB26.out.size (fun c hc => (Ou11.out.lt c hc).1)); clear HB26
  have Ou5 := Lib.hid (Ou5.out.kept hg (A_u11_u5.out.2))
  have XP0 := Lib.hid (XP0.out.kept hg D_u11_P0.out)
  have XB7 := Lib.hid (XB7.out.kept hg D_u11_B7.out)
  have Ou11 := Lib.hid ho; clear ho hg
  try clear cP0_0
  have cP0_0 : World.cell? (w27) ⟨w.heap.size, 0, none⟩ = some (.int .i64 aX_W) := XP0.out.cell 0
  try clear cP0_1
  have cP0_1 : World.cell? (w27) ⟨w.heap.size, 1, none⟩ = some (.int .i64 aX_H) := XP0.out.cell 1
  try clear cP0_2
  have cP0_2 : World.cell? (w27) ⟨w.heap.size, 2, none⟩ = some (.slice aX_Cells_a aX_Cells_L.length aX_Cells_cap) := XP0.out.cell 2
  try clear cB7_0
  have cB7_0 : World.cell? (w27) ⟨w8.heap.size, 0, none⟩ = some (.int .i64 aX_W) := XB7.out.cell 0
  try clear cB7_1
  have cB7_1 : World.cell? (w27) ⟨w8.heap.size, 1, none⟩ = some (.int .i64 aX_H) := XB7.out.cell 1
  try clear cB7_2
  have cB7_2 : World.cell? (w27) ⟨w8.heap.size, 2, none⟩ = some (.slice u6_a u6_n u6_c) := XB7.out.cell 2
  go_wp2_with fail
  refine (LawsI.held_any w27 (u11) (1) ((Pc.after aX_W aX_H aX_Cells_L aFrom_L aSteps aMarks_L aFars_L)).length (Ou11.out.sees) (by have h9 := Pc.after_len aX_W aX_H aX_Cells_L aFrom_L aSteps aMarks_L aFars_L; (try simp only [LawsI.marksI_len]); omega)).mono ?_
  rintro e w28 ⟨rfl, hg⟩
  have HB28 := Lib.hid (HB27.out.grown hg HB27.out.size (fun _ h => by cases h)); clear HB27
  have Ou5 := Lib.hid (Ou5.out.grown hg)
  have Ou11 := Lib.hid (Ou11.out.grown hg)
  have XP0 := Lib.hid (XP0.out.grown hg)
  have XB7 := Lib.hid (XB7.out.grown hg)
  clear hg
  try clear cP0_0
  have cP0_0 : World.cell? (w28) ⟨w.heap.size, 0, none⟩ = some (.int .i64 aX_W) := XP0.out.cell 0
  try clear cP0_1
  have cP0_1 : World.cell? (w28) ⟨w.heap.size, 1, none⟩ = some (.int .i64 aX_H) := XP0.out.cell 1
  try clear cP0_2
  have cP0_2 : World.cell? (w28) ⟨w.heap.size, 2, none⟩ = some (.slice aX_Cells_a aX_Cells_L.length aX_Cells_cap) := XP0.out.cell 2
  try clear cB7_0
  have cB7_0 : World.cell? (w28) ⟨w8.heap.size, 0, none⟩ = some (.int .i64 aX_W) := XB7.out.cell 0
  try clear cB7_1
  have cB7_1 : World.cell? (w28) ⟨w8.heap.size, 1, none⟩ = some (.int .i64 aX_H) := XB7.out.cell 1
  try clear cB7_2
  have cB7_2 : World.cell? (w28) ⟨w8.heap.size, 2, none⟩ = some (.slice u6_a u6_n u6_c) := XB7.out.cell 2
  go_wp2_with fail
  refine (LandL.toLand_any w28 aX_W aX_H _ _ (aX_Cells_S.out.below HB28.out) (by omega)).mono ?_
  rintro e w29 ⟨u16, rfl, ho, hg⟩
  have A_u16_u5 := Lib.hid (Rg.apart_lt ho.lt Ou5.out.lt (Nat.le_refl _))
  have A_u16_u11 := Lib.hid (Rg.apart_lt ho.lt Ou11.out.lt (Nat.le_refl _))
  have D_u16_P0 := Lib.hid (ho.off XP0.out.lt)
  have D_u16_B7 := Lib.hid (ho.off XB7.out.lt)
  have Ou16 := Lib.hid (ho.lower HB28.out.size)
  have HB29 := Lib.hid (HB28.out.grown hg HB28.out.size (fun _ h => by cases h)); clear HB28
  have Ou5 := Lib.hid (Ou5.out.grown hg)
  have Ou11 := Lib.hid (Ou11.out.grown hg)
  have XP0 := Lib.hid (XP0.out.grown hg)
  have XB7 := Lib.hid (XB7.out.grown hg)
  clear ho hg
  try clear cP0_0
  have cP0_0 : World.cell? (w29) ⟨w.heap.size, 0, none⟩ = some (.int .i64 aX_W) := XP0.out.cell 0
  try clear cP0_1
  have cP0_1 : World.cell? (w29) ⟨w.heap.size, 1, none⟩ = some (.int .i64 aX_H) := XP0.out.cell 1
  try clear cP0_2
  have cP0_2 : World.cell? (w29) ⟨w.heap.size, 2, none⟩ = some (.slice aX_Cells_a aX_Cells_L.length aX_Cells_cap) := XP0.out.cell 2
  try clear cB7_0
  have cB7_0 : World.cell? (w29) ⟨w8.heap.size, 0, none⟩ = some (.int .i64 aX_W) := XB7.out.cell 0
  try clear cB7_1
  have cB7_1 : World.cell? (w29) ⟨w8.heap.size, 1, none⟩ = some (.int .i64 aX_H) := XB7.out.cell 1
  try clear cB7_2
  have cB7_2 : World.cell? (w29) ⟨w8.heap.size, 2, none⟩ = some (.slice u6_a u6_n u6_c) := XB7.out.cell 2
  go_wp2_with fail
  refine (LawsI.to_any w29 (.slice aFrom_a aFrom_L.length aFrom_cap) aFrom_L (aFrom_S.out.below HB29.out) (by have h9 := Pc.after_len aX_W aX_H aX_Cells_L aFrom_L aSteps aMarks_L aFars_L; (try simp only [LawsI.marksI_len]); omega)).mono ?_
  rintro e w30 ⟨u17, rfl, ho, hg⟩
  have A_u17_u5 := Lib.hid (Rg.apart_lt ho.lt Ou5.out.lt (Nat.le_refl _))
  have A_u17_u11 := Lib.hid (Rg.apart_lt ho.lt Ou11.out.lt (Nat.le_refl _))
  have A_u17_u16 := Lib.hid (Rg.apart_lt ho.lt Ou16.out.lt (Nat.le_refl _))
  have D_u17_P0 := Lib.hid (ho.off XP0.out.lt)
  have D_u17_B7 := Lib.hid (ho.off XB7.out.lt)
  have Ou17 := Lib.hid (ho.lower HB29.out.size)
  have HB30 := Lib.hid (HB29.out.grown hg HB29.out.size (fun _ h => by cases h)); clear HB29
  have Ou5 := Lib.hid (Ou5.out.grown hg)
  have Ou11 := Lib.hid (Ou11.out.grown hg)
  have Ou16 := Lib.hid (Ou16.out.grown hg)
  have XP0 := Lib.hid (XP0.out.grown hg)
  have XB7 := Lib.hid (XB7.out.grown hg)
  clear ho hg
  try clear cP0_0
  have cP0_0 : World.cell? (w30) ⟨w.heap.size, 0, none⟩ = some (.int .i64 aX_W) := XP0.out.cell 0
  try clear cP0_1
  have cP0_1 : World.cell? (w30) ⟨w.heap.size, 1, none⟩ = some (.int .i64 aX_H) := XP0.out.cell 1
  try clear cP0_2
  have cP0_2 : World.cell? (w30) ⟨w.heap.size, 2, none⟩ = some (.slice aX_Cells_a aX_Cells_L.length aX_Cells_cap) := XP0.out.cell 2
  try clear cB7_0
  have cB7_0 : World.cell? (w30) ⟨w8.heap.size, 0, none⟩ = some (.int .i64 aX_W) := XB7.out.cell 0
  try clear cB7_1
  have cB7_1 : World.cell? (w30) ⟨w8.heap.size, 1, none⟩ = some (.int .i64 aX_H) := XB7.out.cell 1
  try clear cB7_2
  have cB7_2 : World.cell? (w30) ⟨w8.heap.size, 2, none⟩ = some (.slice u6_a u6_n u6_c) := XB7.out.cell 2
  go_wp2_with fail
  refine (LawsI.to_any w30 (.slice aMarks_a aMarks_L.length aMarks_cap) aMarks_L (aMarks_S.out.below HB30.out) (by have h9 := Pc.after_len aX_W aX_H aX_Cells_L aFrom_L aSteps aMarks_L aFars_L; (try simp only [LawsI.marksI_len]); omega)).mono ?_
  rintro e w31 ⟨u18, rfl, ho, hg⟩
  have A_u18_u5 := Lib.hid (Rg.apart_lt ho.lt Ou5.out.lt (Nat.le_refl _))
  have A_u18_u11 := Lib.hid (Rg.apart_lt ho.lt Ou11.out.lt (Nat.le_refl _))
  have A_u18_u16 := Lib.hid (Rg.apart_lt ho.lt Ou16.out.lt (Nat.le_refl _))
  have A_u18_u17 := Lib.hid (Rg.apart_lt ho.lt Ou17.out.lt (Nat.le_refl _))
  have D_u18_P0 := Lib.hid (ho.off XP0.out.lt)
  have D_u18_B7 := Lib.hid (ho.off XB7.out.lt)
  have Ou18 := Lib.hid (ho.lower HB30.out.size)
  have HB31 := Lib.hid (HB30.out.grown hg HB30.out.size (fun _ h => by cases h)); clear HB30
  have Ou5 := Lib.hid (Ou5.out.grown hg)
  have Ou11 := Lib.hid (Ou11.out.grown hg)
  have Ou16 := Lib.hid (Ou16.out.grown hg)
  have Ou17 := Lib.hid (Ou17.out.grown hg)
  have XP0 := Lib.hid (XP0.out.grown hg)
  have XB7 := Lib.hid (XB7.out.grown hg)
  clear ho hg
  try clear cP0_0
  have cP0_0 : World.cell? (w31) ⟨w.heap.size, 0, none⟩ = some (.int .i64 aX_W) := XP0.out.cell 0
  try clear cP0_1
  have cP0_1 : World.cell? (w31) ⟨w.heap.size, 1, none⟩ = some (.int .i64 aX_H) := XP0.out.cell 1
  try clear cP0_2
  have cP0_2 : World.cell? (w31) ⟨w.heap.size, 2, none⟩ = some (.slice aX_Cells_a aX_Cells_L.length aX_Cells_cap) := XP0.out.cell 2
  try clear cB7_0
  have cB7_0 : World.cell? (w31) ⟨w8.heap.size, 0, none⟩ = some (.int .i64 aX_W) := XB7.out.cell 0
  try clear cB7_1
  have cB7_1 : World.cell? (w31) ⟨w8.heap.size, 1, none⟩ = some (.int .i64 aX_H) := XB7.out.cell 1
  try clear cB7_2
  have cB7_2 : World.cell? (w31) ⟨w8.heap.size, 2, none⟩ = some (.slice u6_a u6_n u6_c) := XB7.out.cell 2
  go_wp2_with fail
  refine (LawsI.to_any w31 (.slice aFars_a aFars_L.length aFars_cap) aFars_L (aFars_S.out.below HB31.out) (by have h9 := Pc.after_len aX_W aX_H aX_Cells_L aFrom_L aSteps aMarks_L aFars_L; (try simp only [LawsI.marksI_len]); omega)).mono ?_
  rintro e w32 ⟨u19, rfl, ho, hg⟩
  have A_u19_u5 := Lib.hid (Rg.apart_lt ho.lt Ou5.out.lt (Nat.le_refl _))
  have A_u19_u11 := Lib.hid (Rg.apart_lt ho.lt Ou11.out.lt (Nat.le_refl _))
  have A_u19_u16 := Lib.hid (Rg.apart_lt ho.lt Ou16.out.lt (Nat.le_refl _))
  have A_u19_u17 := Lib.hid (Rg.apart_lt ho.lt Ou17.out.lt (Nat.le_refl _))
  have A_u19_u18 := Lib.hid (Rg.apart_lt ho.lt Ou18.out.lt (Nat.le_refl _))
  have D_u19_P0 := Lib.hid (ho.off XP0.out.lt)
  have D_u19_B7 := Lib.hid (ho.off XB7.out.lt)
  have Ou19 := Lib.hid (ho.lower HB31.out.size)
  have HB32 := Lib.hid (HB31.out.grown hg HB31.out.size (fun _ h => by cases h)); clear HB31
  have Ou5 := Lib.hid (Ou5.out.grown hg)
  have Ou11 := Lib.hid (Ou11.out.grown hg)
  have Ou16 := Lib.hid (Ou16.out.grown hg)
  have Ou17 := Lib.hid (Ou17.out.grown hg)
  have Ou18 := Lib.hid (Ou18.out.grown hg)
  have XP0 := Lib.hid (XP0.out.grown hg)
  have XB7 := Lib.hid (XB7.out.grown hg)
  clear ho hg
  try clear cP0_0
  have cP0_0 : World.cell? (w32) ⟨w.heap.size, 0, none⟩ = some (.int .i64 aX_W) := XP0.out.cell 0
  try clear cP0_1
  have cP0_1 : World.cell? (w32) ⟨w.heap.size, 1, none⟩ = some (.int .i64 aX_H) := XP0.out.cell 1
  try clear cP0_2
  have cP0_2 : World.cell? (w32) ⟨w.heap.size, 2, none⟩ = some (.slice aX_Cells_a aX_Cells_L.length aX_Cells_cap) := XP0.out.cell 2
  try clear cB7_0
  have cB7_0 : World.cell? (w32) ⟨w8.heap.size, 0, none⟩ = some (.int .i64 aX_W) := XB7.out.cell 0
  try clear cB7_1
  have cB7_1 : World.cell? (w32) ⟨w8.heap.size, 1, none⟩ = some (.int .i64 aX_H) := XB7.out.cell 1
  try clear cB7_2
  have cB7_2 : World.cell? (w32) ⟨w8.heap.size, 2, none⟩ = some (.slice u6_a u6_n u6_c) := XB7.out.cell 2
  go_wp2_with fail
  refine (Pc.iAfter_any w32 aX_W aX_H aSteps _ _ _ _ aX_Cells_L aFrom_L aMarks_L aFars_L (Ou16.out.sees) (Ou17.out.sees) (Ou18.out.sees) (Ou19.out.sees) aSteps_b (by have h9 := Pc.after_len aX_W aX_H aX_Cells_L aFrom_L aSteps aMarks_L aFars_L; (try simp only [LawsI.marksI_len]); omega) (HTB.out.below HB32.out (Nat.le_refl _))).mono ?_
  rintro e w33 ⟨u20, rfl, ho, hg⟩
  have A_u20_u5 := Lib.hid (Rg.apart_lt ho.lt Ou5.out.lt (Nat.le_refl _))
  have A_u20_u11 := Lib.hid (Rg.apart_lt ho.lt Ou11.out.lt (Nat.le_refl _))
  have A_u20_u16 := Lib.hid (Rg.apart_lt ho.lt Ou16.out.lt (Nat.le_refl _))
  have A_u20_u17 := Lib.hid (Rg.apart_lt ho.lt Ou17.out.lt (Nat.le_refl _))
  have A_u20_u18 := Lib.hid (Rg.apart_lt ho.lt Ou18.out.lt (Nat.le_refl _))
  have A_u20_u19 := Lib.hid (Rg.apart_lt ho.lt Ou19.out.lt (Nat.le_refl _))
  have D_u20_P0 := Lib.hid (ho.off XP0.out.lt)
  have D_u20_B7 := Lib.hid (ho.off XB7.out.lt)
  have Ou20 := Lib.hid (ho.lower HB32.out.size)
  have HB33 := Lib.hid (HB32.out.grown hg HB32.out.size (fun _ h => by cases h)); clear HB32
  have Ou5 := Lib.hid (Ou5.out.grown hg)
  have Ou11 := Lib.hid (Ou11.out.grown hg)
  have Ou16 := Lib.hid (Ou16.out.grown hg)
  have Ou17 := Lib.hid (Ou17.out.grown hg)
  have Ou18 := Lib.hid (Ou18.out.grown hg)
  have Ou19 := Lib.hid (Ou19.out.grown hg)
  have XP0 := Lib.hid (XP0.out.grown hg)
  have XB7 := Lib.hid (XB7.out.grown hg)
  clear ho hg
  clear Ou16
  clear Ou17
  clear Ou18
  clear Ou19
  try clear cP0_0
  have cP0_0 : World.cell? (w33) ⟨w.heap.size, 0, none⟩ = some (.int .i64 aX_W) := XP0.out.cell 0
  try clear cP0_1
  have cP0_1 : World.cell? (w33) ⟨w.heap.size, 1, none⟩ = some (.int .i64 aX_H) := XP0.out.cell 1
  try clear cP0_2
  have cP0_2 : World.cell? (w33) ⟨w.heap.size, 2, none⟩ = some (.slice aX_Cells_a aX_Cells_L.length aX_Cells_cap) := XP0.out.cell 2
  try clear cB7_0
  have cB7_0 : World.cell? (w33) ⟨w8.heap.size, 0, none⟩ = some (.int .i64 aX_W) := XB7.out.cell 0
  try clear cB7_1
  have cB7_1 : World.cell? (w33) ⟨w8.heap.size, 1, none⟩ = some (.int .i64 aX_H) := XB7.out.cell 1
  try clear cB7_2
  have cB7_2 : World.cell? (w33) ⟨w8.heap.size, 2, none⟩ = some (.slice u6_a u6_n u6_c) := XB7.out.cell 2
  go_wp2_with fail
  refine (LawsI.eq_same w33 (u20) (u5) (Pc.after aX_W aX_H aX_Cells_L aFrom_L aSteps aMarks_L aFars_L) (Ou20.out.sees) (Ou5.out.sees)).mono ?_
  rintro e w34 ⟨rfl, hg⟩
  have HB34 := Lib.hid (HB33.out.grown hg HB33.out.size (fun _ h => by cases h)); clear HB33
  have Ou5 := Lib.hid (Ou5.out.grown hg)
  have Ou11 := Lib.hid (Ou11.out.grown hg)
  have Ou20 := Lib.hid (Ou20.out.grown hg)
  have XP0 := Lib.hid (XP0.out.grown hg)
  have XB7 := Lib.hid (XB7.out.grown hg)
  clear hg
  clear Ou5
  clear Ou20
  try clear cP0_0
  have cP0_0 : World.cell? (w34) ⟨w.heap.size, 0, none⟩ = some (.int .i64 aX_W) := XP0.out.cell 0
  try clear cP0_1
  have cP0_1 : World.cell? (w34) ⟨w.heap.size, 1, none⟩ = some (.int .i64 aX_H) := XP0.out.cell 1
  try clear cP0_2
  have cP0_2 : World.cell? (w34) ⟨w.heap.size, 2, none⟩ = some (.slice aX_Cells_a aX_Cells_L.length aX_Cells_cap) := XP0.out.cell 2
  try clear cB7_0
  have cB7_0 : World.cell? (w34) ⟨w8.heap.size, 0, none⟩ = some (.int .i64 aX_W) := XB7.out.cell 0
  try clear cB7_1
  have cB7_1 : World.cell? (w34) ⟨w8.heap.size, 1, none⟩ = some (.int .i64 aX_H) := XB7.out.cell 1
  try clear cB7_2
  have cB7_2 : World.cell? (w34) ⟨w8.heap.size, 2, none⟩ = some (.slice u6_a u6_n u6_c) := XB7.out.cell 2
  go_wp2_with fail
  refine (LawsI.held_any w34 (u11) (1) ((Pc.after aX_W aX_H aX_Cells_L aFrom_L aSteps aMarks_L aFars_L)).length (Ou11.out.sees) (by have h9 := Pc.after_len aX_W aX_H aX_Cells_L aFrom_L aSteps aMarks_L aFars_L; (try simp only [LawsI.marksI_len]); omega)).mono ?_
  rintro e w35 ⟨rfl, hg⟩
  have HB35 := Lib.hid (HB34.out.grown hg HB34.out.size (fun _ h => by cases h)); clear HB34
  have Ou11 := Lib.hid (Ou11.out.grown hg)
  have XP0 := Lib.hid (XP0.out.grown hg)
  have XB7 := Lib.hid (XB7.out.grown hg)
  clear hg
  clear Ou11
  try clear cP0_0
  have cP0_0 : World.cell? (w35) ⟨w.heap.size, 0, none⟩ = some (.int .i64 aX_W) := XP0.out.cell 0
  try clear cP0_1
  have cP0_1 : World.cell? (w35) ⟨w.heap.size, 1, none⟩ = some (.int .i64 aX_H) := XP0.out.cell 1
  try clear cP0_2
  have cP0_2 : World.cell? (w35) ⟨w.heap.size, 2, none⟩ = some (.slice aX_Cells_a aX_Cells_L.length aX_Cells_cap) := XP0.out.cell 2
  try clear cB7_0
  have cB7_0 : World.cell? (w35) ⟨w8.heap.size, 0, none⟩ = some (.int .i64 aX_W) := XB7.out.cell 0
  try clear cB7_1
  have cB7_1 : World.cell? (w35) ⟨w8.heap.size, 1, none⟩ = some (.int .i64 aX_H) := XB7.out.cell 1
  try clear cB7_2
  have cB7_2 : World.cell? (w35) ⟨w8.heap.size, 2, none⟩ = some (.slice u6_a u6_n u6_c) := XB7.out.cell 2
  go_wp2
  go_ret
  exact ⟨rfl, HB35.out⟩

set_option maxRecDepth 100000 in
/-- What the walk gives, for every argument. -/
theorem contract (H : Type) (enc : TypeId × Value → H) (W : World) (base : Nat) (args : Array Value) (ds gs : List (DataW H)) (before : List MemPlace)
    (hval : ∀ (j : Nat) t v, Tryd.f6.params[j]? = some t → args[j]? = some v → Value.okWide Tryd.prog W .any base t v)
    (hW : DataW.Whole enc Tryd.prog Tryd.f6.params.toList Rows.fnExactPlacesAfterSpec.vars false W args.toList ds gs before) (hL : laidMetH Tryd.prog Rows.fnExactPlacesAfterRow.laid W) :
    Calls Tryd.prog 6 args W fun e W' => ∃ v, e = .returned v ∧ Rows.fnExactPlacesAfterSpec.post enc Tryd.prog Tryd.f6 false true false false W args v W' := by
  have hW' := hW
  obtain ⟨p, q, hA0, hV, rfl, hfz, hnd⟩ := hW
  have hA : DataW.TrodAll enc Tryd.prog W 0 (fun _ => true) true Tryd.f6.params.toList args.toList ds p := hA0
  rw [Tryd.params6] at hA hval
  obtain ⟨v0, vs0, d0, ds0, p0, q0, hargs, rfl, rfl, h0, r0⟩ := trodAll_cons hA
  obtain ⟨v1, vs1, d1, ds1, p1, q1, rfl, rfl, rfl, h1, r1⟩ := trodAll_cons r0
  obtain ⟨v2, vs2, d2, ds2, p2, q2, rfl, rfl, rfl, h2, r2⟩ := trodAll_cons r1
  obtain ⟨v3, vs3, d3, ds3, p3, q3, rfl, rfl, rfl, h3, r3⟩ := trodAll_cons r2
  obtain ⟨v4, vs4, d4, ds4, p4, q4, rfl, rfl, rfl, h4, r4⟩ := trodAll_cons r3
  obtain ⟨rfl, rfl, rfl⟩ := trodAll_nil r4
  obtain rfl : args = #[v0, v1, v2, v3, v4] := by cases args; simp_all
  obtain ⟨rfl, rfl⟩ := trodVars_none hV
  have k0 := h0
  have lt0 : ∀ x ∈ p0, x.block < W.heap.size := by obtain ⟨m, hm⟩ := k0; exact DataW.trod_lt m _ _ _ hm
  obtain ⟨f0_0, f0_1, f0_2, y0_0, y0_1, y0_2, fn0, rfl, rfl, rfl, g0_0, g0_1, g0_2⟩ := Go.Joins.open_agg3 Tryd.underlying34 (by kernel_rfl) (by kernel_rfl) (hval 0 34 v0 rfl rfl) h0
  obtain ⟨x0_0, rfl, w0_0⟩ := Kit.field_int Tryd.underlying3 g0_0
  obtain ⟨x0_1, rfl, w0_1⟩ := Kit.field_int Tryd.underlying3 g0_1
  obtain ⟨a0_2, l0_2, c0_2, z0_2, rfl, w0_2⟩ := Kit.field_row Tryd.underlying24 Tryd.underlying3 (by kernel_rfl) g0_2
  obtain ⟨a1, len1, cap1, rfl⟩ := okWide_slice Tryd.underlying24 (hval 1 24 v1 rfl rfl)
  have k1 := h1
  have lt1 : ∀ x ∈ p1, x.block < W.heap.size := by obtain ⟨m, hm⟩ := k1; exact DataW.trod_lt m _ _ _ hm
  obtain ⟨z1, w1⟩ : ∃ zs, Kit.IsRow .i64 W a1 len1 cap1 zs := Kit.row_open Tryd.underlying24 Tryd.underlying3 (by kernel_rfl) h1
  obtain ⟨a2, rfl, rfl, rfl, w2⟩ := open_int Tryd.underlying3 (hval 2 3 v2 rfl rfl) h2
  obtain ⟨a3, len3, cap3, rfl⟩ := okWide_slice Tryd.underlying24 (hval 3 24 v3 rfl rfl)
  have k3 := h3
  have lt3 : ∀ x ∈ p3, x.block < W.heap.size := by obtain ⟨m, hm⟩ := k3; exact DataW.trod_lt m _ _ _ hm
  obtain ⟨z3, w3⟩ : ∃ zs, Kit.IsRow .i64 W a3 len3 cap3 zs := Kit.row_open Tryd.underlying24 Tryd.underlying3 (by kernel_rfl) h3
  obtain ⟨a4, len4, cap4, rfl⟩ := okWide_slice Tryd.underlying24 (hval 4 24 v4 rfl rfl)
  have k4 := h4
  have lt4 : ∀ x ∈ p4, x.block < W.heap.size := by obtain ⟨m, hm⟩ := k4; exact DataW.trod_lt m _ _ _ hm
  obtain ⟨z4, w4⟩ : ∃ zs, Kit.IsRow .i64 W a4 len4 cap4 zs := Kit.row_open Tryd.underlying24 Tryd.underlying3 (by kernel_rfl) h4
  clear hA0
  refine (walk W x0_0 w0_0 x0_1 w0_1 a0_2 l0_2 c0_2 z0_2 w0_2 a1 len1 cap1 z1 w1 a2 w2 a3 len3 cap3 z3 w3 a4 len4 cap4 z4 w4 hL).mono fun e W' ⟨he, bel⟩ => ?_
  subst he
  exact ⟨_, rfl, _, _, _, [], _, [], hW', trodAll_mk1 (shut_bool Tryd.underlying4 _), (trodAll_cons_mk (Below.trod laidOut (by kernel_rfl) (of_decide_eq_true (by kernel_rfl)) k0 bel lt0) (trodAll_cons_mk (Below.trod laidOut (by kernel_rfl) (of_decide_eq_true (by kernel_rfl)) k1 bel lt1) (trodAll_cons_mk (shut_int Tryd.underlying3 w2) (trodAll_cons_mk (Below.trod laidOut (by kernel_rfl) (of_decide_eq_true (by kernel_rfl)) k3 bel lt3) (trodAll_cons_mk (Below.trod laidOut (by kernel_rfl) (of_decide_eq_true (by kernel_rfl)) k4 bel lt4) trodAll_mk0))))), rfl, bel.frame _, fun h => by cases h⟩

/-- So many blocks has the settled world. -/
noncomputable def low : Nat := (World.holding Tryd.prog default ⟨#[], #[], []⟩).heap.size
/-- A world for the witness: the settled one, the listed variables holding what their initialisers lay. -/
noncomputable def laidWorld (os : Os) : World :=
  let w0 := World.holding Tryd.prog os ⟨#[], #[], []⟩
  { w0 with heap := (w0.heap.modify 1 fun
      | .cells _ t frozen => .cells #[.int .u8 (0), .int .u8 (1), .int .u8 (56), .int .u8 (2), .int .u8 (57), .int .u8 (49), .int .u8 (28), .int .u8 (3), .int .u8 (61), .int .u8 (58), .int .u8 (42), .int .u8 (50), .int .u8 (38), .int .u8 (29), .int .u8 (17), .int .u8 (4), .int .u8 (62), .int .u8 (47), .int .u8 (59), .int .u8 (36), .int .u8 (45), .int .u8 (43), .int .u8 (51), .int .u8 (22), .int .u8 (53), .int .u8 (39), .int .u8 (33), .int .u8 (30), .int .u8 (24), .int .u8 (18), .int .u8 (12), .int .u8 (5), .int .u8 (63), .int .u8 (55), .int .u8 (48), .int .u8 (27), .int .u8 (60), .int .u8 (41), .int .u8 (37), .int .u8 (16), .int .u8 (46), .int .u8 (35), .int .u8 (44), .int .u8 (21), .int .u8 (52), .int .u8 (32), .int .u8 (23), .int .u8 (11), .int .u8 (54), .int .u8 (26), .int .u8 (40), .int .u8 (15), .int .u8 (34), .int .u8 (20), .int .u8 (31), .int .u8 (10), .int .u8 (25), .int .u8 (14), .int .u8 (19), .int .u8 (9), .int .u8 (13), .int .u8 (8), .int .u8 (7), .int .u8 (6)] t frozen
      | o => o) }
theorem laid_met (os : Os) : laidMet Tryd.prog Rows.fnExactPlacesAfterRow.laid ((laidWorld os).forCall (fun _ _ => 0) ⟨#[], #[.agg #[.int .i64 0, .int .i64 0, .slice none 0 0], .slice none 0 0, .int .i64 0, .slice none 0 0, .slice none 0 0], []⟩).memory :=
  laidMet_of_run' 8 (by kernel_rfl) (by kernel_rfl)
theorem reads (os : Os) {H : Type} (enc : TypeId × Value → H) : ∃ places, DataW.whole enc Tryd.prog ((laidWorld os).forCall (fun _ _ => 0) ⟨#[], #[.agg #[.int .i64 0, .int .i64 0, .slice none 0 0], .slice none 0 0, .int .i64 0, .slice none 0 0, .slice none 0 0], []⟩).memory Tryd.f6.params.toList Rows.fnExactPlacesAfterSpec.vars false (#[.agg #[.int .i64 0, .int .i64 0, .slice none 0 0], .slice none 0 0, .int .i64 0, .slice none 0 0, .slice none 0 0] : Array Value).toList 8 = some ([.agg [.lit (.int .i64 0), .lit (.int .i64 0), .nil], .nil, .lit (.int .i64 0), .nil, .nil], [], places) :=
  ⟨[], by kernel_rfl⟩

set_option maxRecDepth 100000 in
theorem lifted (os : Os) (started : os.Started) (H : Type) (enc : TypeId × Value → H) (F : Stop.Interp) :
    ReturnsInHanded {} Tryd.checked os 6 .any ((OpenSpec.ofChange Rows.fnExactPlacesAfterSpec).preRow enc Tryd.prog Tryd.f6 Rows.fnExactPlacesAfterRow.domain false Rows.fnExactPlacesAfterRow.laid) (((OpenSpec.ofChange Rows.fnExactPlacesAfterSpec).at F).post enc Tryd.prog Tryd.f6 false true false false) := by
  obtain ⟨places, hx⟩ := reads os enc
  refine returnsInHanded_of_row (C := Tryd.checked) (s := (OpenSpec.ofChange Rows.fnExactPlacesAfterSpec)) own started (by kernel_rfl) Tryd.func6
    (witness_row_at (enc := enc) (C := Tryd.checked) false (laidWorld os) #[.agg #[.int .i64 0, .int .i64 0, .slice none 0 0], .slice none 0 0, .int .i64 0, .slice none 0 0, .slice none 0 0] rfl (by kernel_rfl) (by kernel_rfl) (by kernel_rfl)
      (OpenSpec.preRow_of_cond 8 hx (by kernel_rfl) (fun k hk => by cases hk) (by kernel_rfl) (laid_met os))) ?_
  intro W base args ds gs before hval hW _ _ _ hL _ _
  exact contract H enc W base args ds gs before hval hW hL

set_option maxRecDepth 100000 in
theorem said : Rows.FnExactPlacesAfterSaid :=
  OpenClaim.holds_of_cond 6 Tryd.f6 rfl rfl rfl rfl rfl rfl rfl ⟨rfl, rfl, rfl, rfl, rfl⟩ rfl rfl rfl rfl rfl (by kernel_rfl) Tryd.func6 (by kernel_rfl)
    (of_decide_eq_true (by kernel_rfl)) (by unfold Func.isWrapper; first | (rw [if_pos (by decide +kernel)]; kernel_rfl) | (rw [if_neg (by decide +kernel)]; exact ⟨rfl, rfl⟩))
    (fun os started H enc _ F => by rw [OpenClaim.pre_eq_preRow]; exact lifted os started H enc F)

/-- No parameter wants a stand-in. -/
theorem plain (f : FuncId) (fn : Func) (hf : Tryd.pinned.checked.prog.funcNamed "loop.example/g03008/laws.FnExactPlacesAfter" = some f) (hfn : Tryd.pinned.checked.prog.funcs[f]? = some fn) :
    false = Tryd.pinned.checked.prog.looks [] ∧ ∀ (j : Nat) t, fn.params[j]? = some t → Tryd.pinned.checked.prog.wantsStandIn t = false := by
  obtain rfl : f = 6 := Option.some.inj ((show Tryd.prog.funcNamed "loop.example/g03008/laws.FnExactPlacesAfter" = some 6 by kernel_rfl).symm.trans hf) |>.symm
  obtain rfl : fn = Tryd.f6 := (Option.some.inj (Tryd.func6.symm.trans hfn)).symm
  refine ⟨by kernel_rfl, fun j t ht => ?_⟩
  rw [Tryd.params6] at ht
  have hm := Array.mem_of_getElem? ht
  simp only [List.mem_toArray, List.mem_cons, List.not_mem_nil, or_false] at hm
  rcases hm with rfl | rfl | rfl | rfl | rfl
  · exact (show Tryd.prog.wantsStandIn 34 = false by kernel_rfl)
  · exact (show Tryd.prog.wantsStandIn 24 = false by kernel_rfl)
  · exact (show Tryd.prog.wantsStandIn 3 = false by kernel_rfl)
  · exact (show Tryd.prog.wantsStandIn 24 = false by kernel_rfl)
  · exact (show Tryd.prog.wantsStandIn 24 = false by kernel_rfl)
theorem proved : Rows.FnExactPlacesAfterCardSaid :=
  Claim7.holds_tied_plain_at .later [] _ _ _ _ said (fun _ h => by cases h) (by kernel_rfl) (fun _ h => by cases h) fnExactPlacesAfter_row_tie rfl ⟨rfl, rfl⟩ (by kernel_rfl) rfl plain (by kernel_rfl)
#print axioms proved
end Go.Proofs.YtdeggdhcleanmaaDoor.fnExactPlacesAfter

/- The law FnExactPlanDays: the program's PlanDays answers as its model, for every argument; it writes into no argument, and its answer owns its memory. No condition. -/
import Derived.Test.YtbpiojnehomljaaRows
import Derived.Test.YtbpiojnehomljaaRowE
import Derived.Test.YtbpiojnehomljaaLandL
import Derived.Test.YtbpiojnehomljaaLawsI
import Derived.Test.YtbpiojnehomljaaLawsG
import Derived.Test.YtbpiojnehomljaaSzG
import Derived.Test.YtbpiojnehomljaaPld
import Derived.WalkKit
import Derived.ProofKit
import Derived.OpenShut
import Derived.ShutString
import Derived.ChangeOld
import Derived.Below
import Derived.Deep.DeepHandedRow
import Derived.Deep.DeepWitnessRowRef
import Derived.Lib.LaidTab
namespace Go.Proofs.Ytbpiojnehomljaa.fnExactPlanDays
open Go.ChangeShapes Go.WideShapes Go.ChangeAt Go.RowKit
open Go.ChangeMaps (open_string shut_string)
set_option linter.unusedVariables false

theorem own : ownKnob Try.prog.godebug = none := by kernel_rfl
theorem laidOut : laidOutB Try.prog = true := by kernel_rfl

open Kit Rw
set_option maxRecDepth 100000 in
set_option maxHeartbeats 4000000 in
theorem walk (w : World) (aX_W : Int) (aX_W_h : (Lit.int .i64 aX_W).wf = true) (aX_H : Int) (aX_H_h : (Lit.int .i64 aX_H).wf = true) (aX_Cells_a : Option Addr) (aX_Cells_len aX_Cells_cap : Nat) (aX_Cells_z : List Int) (aX_Cells_h : Kit.IsRow .i64 w aX_Cells_a aX_Cells_len aX_Cells_cap aX_Cells_z) (aFrom : Int) (aFrom_h : (Lit.int .i64 aFrom).wf = true) (aL_a : Option Addr) (aL_len aL_cap : Nat) (aL_L : List (Int × Int)) (aL_h : aL_L.length = aL_len ∧ Rg.SeesG Rg.encP w (.slice aL_a aL_len aL_cap) aL_L) :
    Calls Try.prog 4 #[.agg #[.int .i64 aX_W, .int .i64 aX_H, .slice aX_Cells_a aX_Cells_len aX_Cells_cap], .int .i64 aFrom, .slice aL_a aL_len aL_cap] w fun e w' => e = .returned (.bool true) ∧ Below w.heap.size w w' := by
  obtain ⟨aL_e, aL_s0⟩ := aL_h; have aL_S := Lib.hid aL_s0; have aL_len0 := aL_s0.len; subst aL_e; clear aL_s0
  have aX_Cells_g := Lib.hid aX_Cells_h; clear aX_Cells_h
  obtain ⟨aX_Cells_L, aX_Cells_e, aX_Cells_s0⟩ := IsRow.sees aX_Cells_g.out
  have aX_Cells_S := Lib.hid aX_Cells_s0; have aX_Cells_len0 := aX_Cells_s0.len; subst aX_Cells_e; clear aX_Cells_s0 aX_Cells_g
  have aX_W_H := Lib.hid aX_W_h; have aX_W_b := i64_of aX_W_h; clear aX_W_h
  have aX_H_H := Lib.hid aX_H_h; have aX_H_b := i64_of aX_H_h; clear aX_H_h
  have aFrom_H := Lib.hid aFrom_h; have aFrom_b := i64_of aFrom_h; clear aFrom_h
  by_cases aX_l : (aX_Cells_L.length : Int) ≤ (1048576 : Int)
  rotate_left
  ·
    have HB0 : Hid (Below w.heap.size w w) := Below.refl _ _
    have hgb := World.grownBy_alloc w (.cells #[.int .i64 aX_W, .int .i64 aX_H, .slice aX_Cells_a aX_Cells_L.length aX_Cells_cap] 24 (0, 0)) none
    have HB1 := Lib.hid (HB0.out.grown hgb HB0.out.size (fun _ h => by cases h)); clear HB0
    have XP0 := Lib.hid (box_new w #[.int .i64 aX_W, .int .i64 aX_H, .slice aX_Cells_a aX_Cells_L.length aX_Cells_cap] 24); clear hgb
    go_enter Try.func4, Try.ntmps4
    try clear cP0_0
    have cP0_0 : World.cell? (w.alloc (.cells #[.int .i64 aX_W, .int .i64 aX_H, .slice aX_Cells_a aX_Cells_L.length aX_Cells_cap] 24 (0, 0))) ⟨w.heap.size, 0, none⟩ = some (.int .i64 aX_W) := XP0.out.cell 0
    try clear cP0_1
    have cP0_1 : World.cell? (w.alloc (.cells #[.int .i64 aX_W, .int .i64 aX_H, .slice aX_Cells_a aX_Cells_L.length aX_Cells_cap] 24 (0, 0))) ⟨w.heap.size, 1, none⟩ = some (.int .i64 aX_H) := XP0.out.cell 1
    try clear cP0_2
    have cP0_2 : World.cell? (w.alloc (.cells #[.int .i64 aX_W, .int .i64 aX_H, .slice aX_Cells_a aX_Cells_L.length aX_Cells_cap] 24 (0, 0))) ⟨w.heap.size, 2, none⟩ = some (.slice aX_Cells_a aX_Cells_L.length aX_Cells_cap) := XP0.out.cell 2
    go_wp2_with fail
    generalize w.alloc (.cells #[.int .i64 aX_W, .int .i64 aX_H, .slice aX_Cells_a aX_Cells_L.length aX_Cells_cap] 24 (0, 0)) = w1 at *
    refine (LandL.szLand_no w1 aX_W aX_H _ _ (1048576 : Int) (aX_Cells_S.out.below HB1.out) (by omega) (by omega) (by omega)).mono ?_
    rintro e w2 ⟨rfl, hg⟩
    have HB2 := Lib.hid (HB1.out.grown hg HB1.out.size (fun _ h => by cases h)); clear HB1
    have XP0 := Lib.hid (XP0.out.grown hg)
    clear hg
    try clear cP0_0
    have cP0_0 : World.cell? (w2) ⟨w.heap.size, 0, none⟩ = some (.int .i64 aX_W) := XP0.out.cell 0
    try clear cP0_1
    have cP0_1 : World.cell? (w2) ⟨w.heap.size, 1, none⟩ = some (.int .i64 aX_H) := XP0.out.cell 1
    try clear cP0_2
    have cP0_2 : World.cell? (w2) ⟨w.heap.size, 2, none⟩ = some (.slice aX_Cells_a aX_Cells_L.length aX_Cells_cap) := XP0.out.cell 2
    go_wp2
    go_ret
    exact ⟨rfl, HB2.out⟩
  by_cases aL_l : (aL_L.length : Int) ≤ ((1048576 : Int) - (aX_Cells_L.length : Int))
  rotate_left
  ·
    have HB0 : Hid (Below w.heap.size w w) := Below.refl _ _
    have hgb := World.grownBy_alloc w (.cells #[.int .i64 aX_W, .int .i64 aX_H, .slice aX_Cells_a aX_Cells_L.length aX_Cells_cap] 24 (0, 0)) none
    have HB1 := Lib.hid (HB0.out.grown hgb HB0.out.size (fun _ h => by cases h)); clear HB0
    have XP0 := Lib.hid (box_new w #[.int .i64 aX_W, .int .i64 aX_H, .slice aX_Cells_a aX_Cells_L.length aX_Cells_cap] 24); clear hgb
    go_enter Try.func4, Try.ntmps4
    try clear cP0_0
    have cP0_0 : World.cell? (w.alloc (.cells #[.int .i64 aX_W, .int .i64 aX_H, .slice aX_Cells_a aX_Cells_L.length aX_Cells_cap] 24 (0, 0))) ⟨w.heap.size, 0, none⟩ = some (.int .i64 aX_W) := XP0.out.cell 0
    try clear cP0_1
    have cP0_1 : World.cell? (w.alloc (.cells #[.int .i64 aX_W, .int .i64 aX_H, .slice aX_Cells_a aX_Cells_L.length aX_Cells_cap] 24 (0, 0))) ⟨w.heap.size, 1, none⟩ = some (.int .i64 aX_H) := XP0.out.cell 1
    try clear cP0_2
    have cP0_2 : World.cell? (w.alloc (.cells #[.int .i64 aX_W, .int .i64 aX_H, .slice aX_Cells_a aX_Cells_L.length aX_Cells_cap] 24 (0, 0))) ⟨w.heap.size, 2, none⟩ = some (.slice aX_Cells_a aX_Cells_L.length aX_Cells_cap) := XP0.out.cell 2
    go_wp2_with fail
    generalize w.alloc (.cells #[.int .i64 aX_W, .int .i64 aX_H, .slice aX_Cells_a aX_Cells_L.length aX_Cells_cap] 24 (0, 0)) = w1 at *
    refine (LandL.szLand_yes w1 aX_W aX_H _ _ (1048576 : Int) (aX_Cells_S.out.below HB1.out) (by omega) (by omega) (by omega)).mono ?_
    rintro e w2 ⟨rfl, hg⟩
    have HB2 := Lib.hid (HB1.out.grown hg HB1.out.size (fun _ h => by cases h)); clear HB1
    have XP0 := Lib.hid (XP0.out.grown hg)
    clear hg
    try clear cP0_0
    have cP0_0 : World.cell? (w2) ⟨w.heap.size, 0, none⟩ = some (.int .i64 aX_W) := XP0.out.cell 0
    try clear cP0_1
    have cP0_1 : World.cell? (w2) ⟨w.heap.size, 1, none⟩ = some (.int .i64 aX_H) := XP0.out.cell 1
    try clear cP0_2
    have cP0_2 : World.cell? (w2) ⟨w.heap.size, 2, none⟩ = some (.slice aX_Cells_a aX_Cells_L.length aX_Cells_cap) := XP0.out.cell 2
    go_wp2_with fail
    refine (LawsG.szG_no w2 _ _ ((1048576 : Int) - (aX_Cells_L.length : Int)) (aL_S.out.below HB2.out) (by omega) (by omega) (by omega)).mono ?_
    rintro e w3 ⟨rfl, hg⟩
    have HB3 := Lib.hid (HB2.out.grown hg HB2.out.size (fun _ h => by cases h)); clear HB2
    have XP0 := Lib.hid (XP0.out.grown hg)
    clear hg
    try clear cP0_0
    have cP0_0 : World.cell? (w3) ⟨w.heap.size, 0, none⟩ = some (.int .i64 aX_W) := XP0.out.cell 0
    try clear cP0_1
    have cP0_1 : World.cell? (w3) ⟨w.heap.size, 1, none⟩ = some (.int .i64 aX_H) := XP0.out.cell 1
    try clear cP0_2
    have cP0_2 : World.cell? (w3) ⟨w.heap.size, 2, none⟩ = some (.slice aX_Cells_a aX_Cells_L.length aX_Cells_cap) := XP0.out.cell 2
    go_wp2
    go_ret
    exact ⟨rfl, HB3.out⟩
  have HB0 : Hid (Below w.heap.size w w) := Below.refl _ _
  have hgb := World.grownBy_alloc w (.cells #[.int .i64 aX_W, .int .i64 aX_H, .slice aX_Cells_a aX_Cells_L.length aX_Cells_cap] 24 (0, 0)) none
  have HB1 := Lib.hid (HB0.out.grown hgb HB0.out.size (fun _ h => by cases h)); clear HB0
  have XP0 := Lib.hid (box_new w #[.int .i64 aX_W, .int .i64 aX_H, .slice aX_Cells_a aX_Cells_L.length aX_Cells_cap] 24); clear hgb
  go_enter Try.func4, Try.ntmps4
  try clear cP0_0
  have cP0_0 : World.cell? (w.alloc (.cells #[.int .i64 aX_W, .int .i64 aX_H, .slice aX_Cells_a aX_Cells_L.length aX_Cells_cap] 24 (0, 0))) ⟨w.heap.size, 0, none⟩ = some (.int .i64 aX_W) := XP0.out.cell 0
  try clear cP0_1
  have cP0_1 : World.cell? (w.alloc (.cells #[.int .i64 aX_W, .int .i64 aX_H, .slice aX_Cells_a aX_Cells_L.length aX_Cells_cap] 24 (0, 0))) ⟨w.heap.size, 1, none⟩ = some (.int .i64 aX_H) := XP0.out.cell 1
  try clear cP0_2
  have cP0_2 : World.cell? (w.alloc (.cells #[.int .i64 aX_W, .int .i64 aX_H, .slice aX_Cells_a aX_Cells_L.length aX_Cells_cap] 24 (0, 0))) ⟨w.heap.size, 2, none⟩ = some (.slice aX_Cells_a aX_Cells_L.length aX_Cells_cap) := XP0.out.cell 2
  go_wp2_with fail
  generalize w.alloc (.cells #[.int .i64 aX_W, .int .i64 aX_H, .slice aX_Cells_a aX_Cells_L.length aX_Cells_cap] 24 (0, 0)) = w1 at *
  refine (LandL.szLand_yes w1 aX_W aX_H _ _ (1048576 : Int) (aX_Cells_S.out.below HB1.out) (by omega) (by omega) (by omega)).mono ?_
  rintro e w2 ⟨rfl, hg⟩
  have HB2 := Lib.hid (HB1.out.grown hg HB1.out.size (fun _ h => by cases h)); clear HB1
  have XP0 := Lib.hid (XP0.out.grown hg)
  clear hg
  try clear cP0_0
  have cP0_0 : World.cell? (w2) ⟨w.heap.size, 0, none⟩ = some (.int .i64 aX_W) := XP0.out.cell 0
  try clear cP0_1
  have cP0_1 : World.cell? (w2) ⟨w.heap.size, 1, none⟩ = some (.int .i64 aX_H) := XP0.out.cell 1
  try clear cP0_2
  have cP0_2 : World.cell? (w2) ⟨w.heap.size, 2, none⟩ = some (.slice aX_Cells_a aX_Cells_L.length aX_Cells_cap) := XP0.out.cell 2
  go_wp2_with fail
  refine (LawsG.szG_yes w2 _ _ ((1048576 : Int) - (aX_Cells_L.length : Int)) (aL_S.out.below HB2.out) (by omega) (by omega) (by omega)).mono ?_
  rintro e w3 ⟨rfl, hg⟩
  have HB3 := Lib.hid (HB2.out.grown hg HB2.out.size (fun _ h => by cases h)); clear HB2
  have XP0 := Lib.hid (XP0.out.grown hg)
  clear hg
  try clear cP0_0
  have cP0_0 : World.cell? (w3) ⟨w.heap.size, 0, none⟩ = some (.int .i64 aX_W) := XP0.out.cell 0
  try clear cP0_1
  have cP0_1 : World.cell? (w3) ⟨w.heap.size, 1, none⟩ = some (.int .i64 aX_H) := XP0.out.cell 1
  try clear cP0_2
  have cP0_2 : World.cell? (w3) ⟨w.heap.size, 2, none⟩ = some (.slice aX_Cells_a aX_Cells_L.length aX_Cells_cap) := XP0.out.cell 2
  go_wp2_with fail
  refine (LandL.toLand_any w3 aX_W aX_H _ _ (aX_Cells_S.out.below HB3.out) (by omega)).mono ?_
  rintro e w4 ⟨u1, rfl, ho, hg⟩
  have D_u1_P0 := Lib.hid (ho.off XP0.out.lt)
  have Ou1 := Lib.hid (ho.lower HB3.out.size)
  have HB4 := Lib.hid (HB3.out.grown hg HB3.out.size (fun _ h => by cases h)); clear HB3
  have XP0 := Lib.hid (XP0.out.grown hg)
  clear ho hg
  try clear cP0_0
  have cP0_0 : World.cell? (w4) ⟨w.heap.size, 0, none⟩ = some (.int .i64 aX_W) := XP0.out.cell 0
  try clear cP0_1
  have cP0_1 : World.cell? (w4) ⟨w.heap.size, 1, none⟩ = some (.int .i64 aX_H) := XP0.out.cell 1
  try clear cP0_2
  have cP0_2 : World.cell? (w4) ⟨w.heap.size, 2, none⟩ = some (.slice aX_Cells_a aX_Cells_L.length aX_Cells_cap) := XP0.out.cell 2
  go_wp2_with fail
  refine (LawsG.to_any w4 (.slice aL_a aL_L.length aL_cap) aL_L (aL_S.out.below HB4.out) (by (try simp only [LawsG.marksG_len, LawsI.marksI_len]); omega)).mono ?_
  rintro e w5 ⟨u2, rfl, ho, hg⟩
  have A_u2_u1 := Lib.hid (Rg.apart_lt ho.lt Ou1.out.lt (Nat.le_refl _))
  have D_u2_P0 := Lib.hid (ho.off XP0.out.lt)
  have Ou2 := Lib.hid (ho.lower HB4.out.size)
  have HB5 := Lib.hid (HB4.out.grown hg HB4.out.size (fun _ h => by cases h)); clear HB4
  have Ou1 := Lib.hid (Ou1.out.grown hg)
  have XP0 := Lib.hid (XP0.out.grown hg)
  clear ho hg
  try clear cP0_0
  have cP0_0 : World.cell? (w5) ⟨w.heap.size, 0, none⟩ = some (.int .i64 aX_W) := XP0.out.cell 0
  try clear cP0_1
  have cP0_1 : World.cell? (w5) ⟨w.heap.size, 1, none⟩ = some (.int .i64 aX_H) := XP0.out.cell 1
  try clear cP0_2
  have cP0_2 : World.cell? (w5) ⟨w.heap.size, 2, none⟩ = some (.slice aX_Cells_a aX_Cells_L.length aX_Cells_cap) := XP0.out.cell 2
  go_wp2_with fail
  refine (Pln.sPlanDays_any w5 aX_W aX_H aFrom _ _ aX_Cells_L aL_L aFrom_H.out (Ou1.out.sees) (Ou2.out.sees)).mono ?_
  rintro e w6 ⟨rfl, hg⟩
  have HB6 := Lib.hid (HB5.out.grown hg HB5.out.size (fun _ h => by cases h)); clear HB5
  have Ou1 := Lib.hid (Ou1.out.grown hg)
  have Ou2 := Lib.hid (Ou2.out.grown hg)
  have XP0 := Lib.hid (XP0.out.grown hg)
  clear hg
  clear Ou1
  clear Ou2
  try clear cP0_0
  have cP0_0 : World.cell? (w6) ⟨w.heap.size, 0, none⟩ = some (.int .i64 aX_W) := XP0.out.cell 0
  try clear cP0_1
  have cP0_1 : World.cell? (w6) ⟨w.heap.size, 1, none⟩ = some (.int .i64 aX_H) := XP0.out.cell 1
  try clear cP0_2
  have cP0_2 : World.cell? (w6) ⟨w.heap.size, 2, none⟩ = some (.slice aX_Cells_a aX_Cells_L.length aX_Cells_cap) := XP0.out.cell 2
  go_wp2_with fail
  refine (LandL.toLand_any w6 aX_W aX_H _ _ (aX_Cells_S.out.below HB6.out) (by omega)).mono ?_
  rintro e w7 ⟨u3, rfl, ho, hg⟩
  have D_u3_P0 := Lib.hid (ho.off XP0.out.lt)
  have Ou3 := Lib.hid (ho.lower HB6.out.size)
  have HB7 := Lib.hid (HB6.out.grown hg HB6.out.size (fun _ h => by cases h)); clear HB6
  have XP0 := Lib.hid (XP0.out.grown hg)
  clear ho hg
  obtain ⟨u3_a, u3_n, u3_c, hu3, Nu3⟩ := Ou3.out.sees.shape; subst hu3
  have hgb := World.grownBy_alloc w7 (.cells #[.int .i64 aX_W, .int .i64 aX_H, .slice u3_a u3_n u3_c] 29 (0, 0)) none
  have D_u3_B4 := Lib.hid (Ou3.out.off' (Nat.le_refl _))
  have HB8 := Lib.hid (HB7.out.grown hgb HB7.out.size (fun _ h => by cases h)); clear HB7
  have Ou3 := Lib.hid (Ou3.out.grown hgb)
  have XP0 := Lib.hid (XP0.out.grown hgb)
  have XB4 := Lib.hid (box_new w7 #[.int .i64 aX_W, .int .i64 aX_H, .slice u3_a u3_n u3_c] 29); clear hgb
  try clear cP0_0
  have cP0_0 : World.cell? (w7.alloc (.cells #[.int .i64 aX_W, .int .i64 aX_H, .slice u3_a u3_n u3_c] 29 (0, 0))) ⟨w.heap.size, 0, none⟩ = some (.int .i64 aX_W) := XP0.out.cell 0
  try clear cP0_1
  have cP0_1 : World.cell? (w7.alloc (.cells #[.int .i64 aX_W, .int .i64 aX_H, .slice u3_a u3_n u3_c] 29 (0, 0))) ⟨w.heap.size, 1, none⟩ = some (.int .i64 aX_H) := XP0.out.cell 1
  try clear cP0_2
  have cP0_2 : World.cell? (w7.alloc (.cells #[.int .i64 aX_W, .int .i64 aX_H, .slice u3_a u3_n u3_c] 29 (0, 0))) ⟨w.heap.size, 2, none⟩ = some (.slice aX_Cells_a aX_Cells_L.length aX_Cells_cap) := XP0.out.cell 2
  try clear cB4_0
  have cB4_0 : World.cell? (w7.alloc (.cells #[.int .i64 aX_W, .int .i64 aX_H, .slice u3_a u3_n u3_c] 29 (0, 0))) ⟨w7.heap.size, 0, none⟩ = some (.int .i64 aX_W) := XB4.out.cell 0
  try clear cB4_1
  have cB4_1 : World.cell? (w7.alloc (.cells #[.int .i64 aX_W, .int .i64 aX_H, .slice u3_a u3_n u3_c] 29 (0, 0))) ⟨w7.heap.size, 1, none⟩ = some (.int .i64 aX_H) := XB4.out.cell 1
  try clear cB4_2
  have cB4_2 : World.cell? (w7.alloc (.cells #[.int .i64 aX_W, .int .i64 aX_H, .slice u3_a u3_n u3_c] 29 (0, 0))) ⟨w7.heap.size, 2, none⟩ = some (.slice u3_a u3_n u3_c) := XB4.out.cell 2
  go_wp2_with fail
  generalize w7.alloc (.cells #[.int .i64 aX_W, .int .i64 aX_H, .slice u3_a u3_n u3_c] 29 (0, 0)) = w8 at *
  refine (LawsG.to_any w8 (.slice aL_a aL_L.length aL_cap) aL_L (aL_S.out.below HB8.out) (by (try simp only [LawsG.marksG_len, LawsI.marksI_len]); omega)).mono ?_
  rintro e w9 ⟨u5, rfl, ho, hg⟩
  have A_u5_u3 := Lib.hid (Rg.apart_lt ho.lt Ou3.out.lt (Nat.le_refl _))
  have D_u5_P0 := Lib.hid (ho.off XP0.out.lt)
  have D_u5_B4 := Lib.hid (ho.off XB4.out.lt)
  have Ou5 := Lib.hid (ho.lower HB8.out.size)
  have HB9 := Lib.hid (HB8.out.grown hg HB8.out.size (fun _ h => by cases h)); clear HB8
  have Ou3 := Lib.hid (Ou3.out.grown hg)
  have XP0 := Lib.hid (XP0.out.grown hg)
  have XB4 := Lib.hid (XB4.out.grown hg)
  clear ho hg
  try clear cP0_0
  have cP0_0 : World.cell? (w9) ⟨w.heap.size, 0, none⟩ = some (.int .i64 aX_W) := XP0.out.cell 0
  try clear cP0_1
  have cP0_1 : World.cell? (w9) ⟨w.heap.size, 1, none⟩ = some (.int .i64 aX_H) := XP0.out.cell 1
  try clear cP0_2
  have cP0_2 : World.cell? (w9) ⟨w.heap.size, 2, none⟩ = some (.slice aX_Cells_a aX_Cells_L.length aX_Cells_cap) := XP0.out.cell 2
  try clear cB4_0
  have cB4_0 : World.cell? (w9) ⟨w7.heap.size, 0, none⟩ = some (.int .i64 aX_W) := XB4.out.cell 0
  try clear cB4_1
  have cB4_1 : World.cell? (w9) ⟨w7.heap.size, 1, none⟩ = some (.int .i64 aX_H) := XB4.out.cell 1
  try clear cB4_2
  have cB4_2 : World.cell? (w9) ⟨w7.heap.size, 2, none⟩ = some (.slice u3_a u3_n u3_c) := XB4.out.cell 2
  go_wp2_with fail
  refine (Pln.iPlanDays_any w9 aX_W aX_H aFrom _ _ aX_Cells_L aL_L aFrom_H.out (Ou3.out.sees) (Ou5.out.sees)).mono ?_
  rintro e w10 ⟨rfl, hg⟩
  have HB10 := Lib.hid (HB9.out.grown hg HB9.out.size (fun _ h => by cases h)); clear HB9
  have Ou3 := Lib.hid (Ou3.out.grown hg)
  have Ou5 := Lib.hid (Ou5.out.grown hg)
  have XP0 := Lib.hid (XP0.out.grown hg)
  have XB4 := Lib.hid (XB4.out.grown hg)
  clear hg
  try clear cP0_0
  have cP0_0 : World.cell? (w10) ⟨w.heap.size, 0, none⟩ = some (.int .i64 aX_W) := XP0.out.cell 0
  try clear cP0_1
  have cP0_1 : World.cell? (w10) ⟨w.heap.size, 1, none⟩ = some (.int .i64 aX_H) := XP0.out.cell 1
  try clear cP0_2
  have cP0_2 : World.cell? (w10) ⟨w.heap.size, 2, none⟩ = some (.slice aX_Cells_a aX_Cells_L.length aX_Cells_cap) := XP0.out.cell 2
  try clear cB4_0
  have cB4_0 : World.cell? (w10) ⟨w7.heap.size, 0, none⟩ = some (.int .i64 aX_W) := XB4.out.cell 0
  try clear cB4_1
  have cB4_1 : World.cell? (w10) ⟨w7.heap.size, 1, none⟩ = some (.int .i64 aX_H) := XB4.out.cell 1
  try clear cB4_2
  have cB4_2 : World.cell? (w10) ⟨w7.heap.size, 2, none⟩ = some (.slice u3_a u3_n u3_c) := XB4.out.cell 2
  have hd0 := (World.grownBy.cell (grown_drew (World.grownBy.refl w10 none)) cB4_0 (by simp))
  have HD0 := Lib.hid hd0; clear hd0
  have hd1 := (World.grownBy.cell (grown_drew (World.grownBy.refl w10 none)) cB4_1 (by simp))
  have HD1 := Lib.hid hd1; clear hd1
  have hd2 := (World.grownBy.cell (grown_drew (World.grownBy.refl w10 none)) cB4_2 (by simp))
  have HD2 := Lib.hid hd2; clear hd2
  have hd3 := (World.grownBy.cell (grown_drew (World.grownBy.refl w10 none)) cP0_0 (by simp))
  have HD3 := Lib.hid hd3; clear hd3
  have hd4 := (World.grownBy.cell (grown_drew (World.grownBy.refl w10 none)) cP0_1 (by simp))
  have HD4 := Lib.hid hd4; clear hd4
  have hd5 := (World.grownBy.cell (grown_drew (World.grownBy.refl w10 none)) cP0_2 (by simp))
  have HD5 := Lib.hid hd5; clear hd5
  have HYaX_Cells := Lib.hid ((aX_Cells_S.out.below HB10.out).grown (grown_drew (World.grownBy.refl w10 none)))
  have HXu3 := Lib.hid (Ou3.out.grown (grown_drew (World.grownBy.refl w10 none)))
  go_wp2_with fail
  go_region_held3 (fun w' => w'.cell? ⟨w7.heap.size, 0, none⟩ = some (.int .i64 aX_W) ∧ w'.cell? ⟨w7.heap.size, 1, none⟩ = some (.int .i64 aX_H) ∧ w'.cell? ⟨w7.heap.size, 2, none⟩ = some (.slice u3_a u3_n u3_c) ∧ w'.cell? ⟨w.heap.size, 0, none⟩ = some (.int .i64 aX_W) ∧ w'.cell? ⟨w.heap.size, 1, none⟩ = some (.int .i64 aX_H) ∧ w'.cell? ⟨w.heap.size, 2, none⟩ = some (.slice aX_Cells_a aX_Cells_L.length aX_Cells_cap))
    (first | go_keep | (exact ⟨hgA.cell HD0.out (by simp), hgA.cell HD1.out (by simp), hgA.cell HD2.out (by simp), hgA.cell HD3.out (by simp), hgA.cell HD4.out (by simp), hgA.cell HD5.out (by simp)⟩) | (exact ⟨hgB.cell (hgA.cell HD0.out (by simp)) (by simp), hgB.cell (hgA.cell HD1.out (by simp)) (by simp), hgB.cell (hgA.cell HD2.out (by simp)) (by simp), hgB.cell (hgA.cell HD3.out (by simp)) (by simp), hgB.cell (hgA.cell HD4.out (by simp)) (by simp), hgB.cell (hgA.cell HD5.out (by simp)) (by simp)⟩))
    (first
      | (go_at_call 13; refine (LandL.toLand_any _ aX_W aX_H _ _ HYaX_Cells.out (by omega)).mono ?_; rintro e wA ⟨u6, rfl, hoA, hgA⟩)
      | (go_at_call 17; refine (LandL.eqLand_same _ aX_W aX_H _ _ _ (HXu3.out.grown hgA).sees hoA.sees).mono ?_; rintro e wBu6 ⟨rfl, hgB⟩))
  have hg : World.grownBy w10 wBu6 none := grownN_trans (grown_drew (World.grownBy.refl w10 none)) (grownN_trans hgA hgB)
  have HB11 := Lib.hid (HB10.out.grown hg HB10.out.size (fun _ h => by cases h)); clear HB10
  have Ou3 := Lib.hid (Ou3.out.grown hg)
  have Ou5 := Lib.hid (Ou5.out.grown hg)
  have XP0 := Lib.hid (XP0.out.grown hg)
  have XB4 := Lib.hid (XB4.out.grown hg)
  clear hg hgA hgB hoA
  clear HD0
  clear HD1
  clear HD2
  clear HD3
  clear HD4
  clear HD5
  clear HYaX_Cells
  clear HXu3
  clear Ou3
  try clear cP0_0
  have cP0_0 : World.cell? (wBu6) ⟨w.heap.size, 0, none⟩ = some (.int .i64 aX_W) := XP0.out.cell 0
  try clear cP0_1
  have cP0_1 : World.cell? (wBu6) ⟨w.heap.size, 1, none⟩ = some (.int .i64 aX_H) := XP0.out.cell 1
  try clear cP0_2
  have cP0_2 : World.cell? (wBu6) ⟨w.heap.size, 2, none⟩ = some (.slice aX_Cells_a aX_Cells_L.length aX_Cells_cap) := XP0.out.cell 2
  try clear cB4_0
  have cB4_0 : World.cell? (wBu6) ⟨w7.heap.size, 0, none⟩ = some (.int .i64 aX_W) := XB4.out.cell 0
  try clear cB4_1
  have cB4_1 : World.cell? (wBu6) ⟨w7.heap.size, 1, none⟩ = some (.int .i64 aX_H) := XB4.out.cell 1
  try clear cB4_2
  have cB4_2 : World.cell? (wBu6) ⟨w7.heap.size, 2, none⟩ = some (.slice u3_a u3_n u3_c) := XB4.out.cell 2
  go_wp2_with fail
  refine (LawsG.to_any wBu6 (.slice aL_a aL_L.length aL_cap) aL_L (aL_S.out.below HB11.out) (by (try simp only [LawsG.marksG_len, LawsI.marksI_len]); omega)).mono ?_
  rintro e w12 ⟨u7, rfl, ho, hg⟩
  have A_u7_u5 := Lib.hid (Rg.apart_lt ho.lt Ou5.out.lt (Nat.le_refl _))
  have D_u7_P0 := Lib.hid (ho.off XP0.out.lt)
  have D_u7_B4 := Lib.hid (ho.off XB4.out.lt)
  have Ou7 := Lib.hid (ho.lower HB11.out.size)
  have HB12 := Lib.hid (HB11.out.grown hg HB11.out.size (fun _ h => by cases h)); clear HB11
  have Ou5 := Lib.hid (Ou5.out.grown hg)
  have XP0 := Lib.hid (XP0.out.grown hg)
  have XB4 := Lib.hid (XB4.out.grown hg)
  clear ho hg
  try clear cP0_0
  have cP0_0 : World.cell? (w12) ⟨w.heap.size, 0, none⟩ = some (.int .i64 aX_W) := XP0.out.cell 0
  try clear cP0_1
  have cP0_1 : World.cell? (w12) ⟨w.heap.size, 1, none⟩ = some (.int .i64 aX_H) := XP0.out.cell 1
  try clear cP0_2
  have cP0_2 : World.cell? (w12) ⟨w.heap.size, 2, none⟩ = some (.slice aX_Cells_a aX_Cells_L.length aX_Cells_cap) := XP0.out.cell 2
  try clear cB4_0
  have cB4_0 : World.cell? (w12) ⟨w7.heap.size, 0, none⟩ = some (.int .i64 aX_W) := XB4.out.cell 0
  try clear cB4_1
  have cB4_1 : World.cell? (w12) ⟨w7.heap.size, 1, none⟩ = some (.int .i64 aX_H) := XB4.out.cell 1
  try clear cB4_2
  have cB4_2 : World.cell? (w12) ⟨w7.heap.size, 2, none⟩ = some (.slice u3_a u3_n u3_c) := XB4.out.cell 2
  go_wp2_with fail
  refine (LawsG.eq_same w12 (u5) (u7) aL_L (Ou5.out.sees) (Ou7.out.sees)).mono ?_
  rintro e w13 ⟨rfl, hg⟩
  have HB13 := Lib.hid (HB12.out.grown hg HB12.out.size (fun _ h => by cases h)); clear HB12
  have Ou5 := Lib.hid (Ou5.out.grown hg)
  have Ou7 := Lib.hid (Ou7.out.grown hg)
  have XP0 := Lib.hid (XP0.out.grown hg)
  have XB4 := Lib.hid (XB4.out.grown hg)
  clear hg
  clear Ou7
  clear Ou5
  try clear cP0_0
  have cP0_0 : World.cell? (w13) ⟨w.heap.size, 0, none⟩ = some (.int .i64 aX_W) := XP0.out.cell 0
  try clear cP0_1
  have cP0_1 : World.cell? (w13) ⟨w.heap.size, 1, none⟩ = some (.int .i64 aX_H) := XP0.out.cell 1
  try clear cP0_2
  have cP0_2 : World.cell? (w13) ⟨w.heap.size, 2, none⟩ = some (.slice aX_Cells_a aX_Cells_L.length aX_Cells_cap) := XP0.out.cell 2
  try clear cB4_0
  have cB4_0 : World.cell? (w13) ⟨w7.heap.size, 0, none⟩ = some (.int .i64 aX_W) := XB4.out.cell 0
  try clear cB4_1
  have cB4_1 : World.cell? (w13) ⟨w7.heap.size, 1, none⟩ = some (.int .i64 aX_H) := XB4.out.cell 1
  try clear cB4_2
  have cB4_2 : World.cell? (w13) ⟨w7.heap.size, 2, none⟩ = some (.slice u3_a u3_n u3_c) := XB4.out.cell 2
  go_wp2
  go_ret
  exact ⟨rfl, HB13.out⟩

set_option maxRecDepth 100000 in
/-- What the walk gives, for every argument. -/
theorem contract (H : Type) (enc : TypeId × Value → H) (W : World) (base : Nat) (args : Array Value) (ds gs : List (DataW H)) (before : List MemPlace)
    (hval : ∀ (j : Nat) t v, Try.f4.params[j]? = some t → args[j]? = some v → Value.okWide Try.prog W .any base t v)
    (hW : DataW.Whole enc Try.prog Try.f4.params.toList Rows.fnExactPlanDaysSpec.vars false W args.toList ds gs before) :
    Calls Try.prog 4 args W fun e W' => ∃ v, e = .returned v ∧ Rows.fnExactPlanDaysSpec.post enc Try.prog Try.f4 false true false false W args v W' := by
  have hW' := hW
  obtain ⟨p, q, hA0, hV, rfl, hfz, hnd⟩ := hW
  have hA : DataW.TrodAll enc Try.prog W 0 (fun _ => true) true Try.f4.params.toList args.toList ds p := hA0
  rw [Try.params4] at hA hval
  obtain ⟨v0, vs0, d0, ds0, p0, q0, hargs, rfl, rfl, h0, r0⟩ := trodAll_cons hA
  obtain ⟨v1, vs1, d1, ds1, p1, q1, rfl, rfl, rfl, h1, r1⟩ := trodAll_cons r0
  obtain ⟨v2, vs2, d2, ds2, p2, q2, rfl, rfl, rfl, h2, r2⟩ := trodAll_cons r1
  obtain ⟨rfl, rfl, rfl⟩ := trodAll_nil r2
  obtain rfl : args = #[v0, v1, v2] := by cases args; simp_all
  obtain ⟨rfl, rfl⟩ := trodVars_none hV
  have k0 := h0
  have lt0 : ∀ x ∈ p0, x.block < W.heap.size := by obtain ⟨m, hm⟩ := k0; exact DataW.trod_lt m _ _ _ hm
  obtain ⟨f0_0, f0_1, f0_2, y0_0, y0_1, y0_2, fn0, rfl, rfl, rfl, g0_0, g0_1, g0_2⟩ := Go.Joins.open_agg3 Try.underlying24 (by kernel_rfl) (by kernel_rfl) (hval 0 24 v0 rfl rfl) h0
  obtain ⟨x0_0, rfl, w0_0⟩ := Kit.field_int Try.underlying3 g0_0
  obtain ⟨x0_1, rfl, w0_1⟩ := Kit.field_int Try.underlying3 g0_1
  obtain ⟨a0_2, l0_2, c0_2, z0_2, rfl, w0_2⟩ := Kit.field_row Try.underlying22 Try.underlying3 (by kernel_rfl) g0_2
  obtain ⟨a1, rfl, rfl, rfl, w1⟩ := open_int Try.underlying3 (hval 1 3 v1 rfl rfl) h1
  obtain ⟨a2, len2, cap2, rfl⟩ := okWide_slice Try.underlying25 (hval 2 25 v2 rfl rfl)
  have k2 := h2
  have lt2 : ∀ x ∈ p2, x.block < W.heap.size := by obtain ⟨m, hm⟩ := k2; exact DataW.trod_lt m _ _ _ hm
  obtain ⟨z2, w2⟩ := Rg.row_openG (e := Rg.encP) Try.underlying25 (by kernel_rfl) (Rg.encP_open Try.underlying75 (by kernel_rfl) Try.underlying3 Try.underlying3) h2
  clear hA0
  refine (walk W x0_0 w0_0 x0_1 w0_1 a0_2 l0_2 c0_2 z0_2 w0_2 a1 w1 a2 len2 cap2 z2 w2).mono fun e W' ⟨he, bel⟩ => ?_
  subst he
  exact ⟨_, rfl, _, _, _, [], _, [], hW', trodAll_mk1 (shut_bool Try.underlying4 _), (trodAll_cons_mk (Below.trod laidOut (by kernel_rfl) (of_decide_eq_true (by kernel_rfl)) k0 bel lt0) (trodAll_cons_mk (shut_int Try.underlying3 w1) (trodAll_cons_mk (Below.trod laidOut (by kernel_rfl) (of_decide_eq_true (by kernel_rfl)) k2 bel lt2) trodAll_mk0))), rfl, bel.frame _, fun h => by cases h⟩

noncomputable def laidWorld (os : Os) : World := World.holding Try.prog os ⟨#[], #[], []⟩
theorem reads (os : Os) {H : Type} (enc : TypeId × Value → H) : ∃ places, DataW.whole enc Try.prog ((laidWorld os).forCall (fun _ _ => 0) ⟨#[], #[.agg #[.int .i64 0, .int .i64 0, .slice none 0 0], .int .i64 0, .slice none 0 0], []⟩).memory Try.f4.params.toList Rows.fnExactPlanDaysSpec.vars false (#[.agg #[.int .i64 0, .int .i64 0, .slice none 0 0], .int .i64 0, .slice none 0 0] : Array Value).toList 8 = some ([.agg [.lit (.int .i64 0), .lit (.int .i64 0), .nil], .lit (.int .i64 0), .nil], [], places) :=
  ⟨[], by kernel_rfl⟩

set_option maxRecDepth 100000 in
theorem lifted (os : Os) (started : os.Started) (H : Type) (enc : TypeId × Value → H) (F : Stop.Interp) :
    ReturnsInHanded {} Try.checked os 4 .any ((OpenSpec.ofChange Rows.fnExactPlanDaysSpec).preRow enc Try.prog Try.f4 Rows.fnExactPlanDaysRow.domain false Rows.fnExactPlanDaysRow.laid) (((OpenSpec.ofChange Rows.fnExactPlanDaysSpec).at F).post enc Try.prog Try.f4 false true false false) := by
  obtain ⟨places, hx⟩ := reads os enc
  refine returnsInHanded_of_row (C := Try.checked) (s := (OpenSpec.ofChange Rows.fnExactPlanDaysSpec)) own started (by kernel_rfl) Try.func4
    (witness_row_at (enc := enc) (C := Try.checked) false (laidWorld os) #[.agg #[.int .i64 0, .int .i64 0, .slice none 0 0], .int .i64 0, .slice none 0 0] rfl (by kernel_rfl) (by kernel_rfl) (by kernel_rfl)
      (OpenSpec.preRow_of_cond 8 hx (by kernel_rfl) (fun k hk => by cases hk) (by kernel_rfl) (laidMetH_nil _ _))) ?_
  intro W base args ds gs before hval hW _ _ _ _ _ _
  exact contract H enc W base args ds gs before hval hW

set_option maxRecDepth 100000 in
theorem said : Rows.FnExactPlanDaysSaid :=
  OpenClaim.holds_of_cond 4 Try.f4 rfl rfl rfl rfl rfl rfl rfl ⟨rfl, rfl, rfl, rfl, rfl⟩ rfl rfl rfl rfl rfl (by kernel_rfl) Try.func4 (by kernel_rfl)
    (of_decide_eq_true (by kernel_rfl)) (by unfold Func.isWrapper; first | (rw [if_pos (by decide +kernel)]; kernel_rfl) | (rw [if_neg (by decide +kernel)]; exact ⟨rfl, rfl⟩))
    (fun os started H enc _ F => by rw [OpenClaim.pre_eq_preRow]; exact lifted os started H enc F)

theorem proved : Rows.FnExactPlanDaysSaid := said
#print axioms proved
end Go.Proofs.Ytbpiojnehomljaa.fnExactPlanDays

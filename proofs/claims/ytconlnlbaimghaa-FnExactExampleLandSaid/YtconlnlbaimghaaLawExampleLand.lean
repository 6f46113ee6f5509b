/- The law FnExactExampleLand: the program's ExampleLand answers as its model, for every argument; it writes into no argument, and its answer owns its memory. No condition. -/
import Derived.Deep.RegionHeld3
import Derived.Test.YtconlnlbaimghaaRows
import Derived.Test.YtconlnlbaimghaaRowE
import Derived.Test.YtconlnlbaimghaaLandL
import Derived.Test.YtconlnlbaimghaaLawsI
import Derived.Test.YtconlnlbaimghaaExL
import Derived.Test.YtconlnlbaimghaaHldL
import Derived.WalkKit
import Derived.ProofKit
import Derived.OpenShut
import Derived.ShutString
import Derived.ChangeOld
import Derived.Below
import Derived.Deep.DeepHandedRow
import Derived.Deep.DeepWitnessRowRef
import Derived.Lib.LaidTab
namespace Go.Proofs.Ytconlnlbaimghaa.fnExactExampleLand
open Go.ChangeShapes Go.WideShapes Go.ChangeAt Go.RowKit
open Go.ChangeMaps (open_string shut_string)
set_option linter.unusedVariables false

theorem own : ownKnob Try.prog.godebug = none := by kernel_rfl
theorem laidOut : laidOutB Try.prog = true := by kernel_rfl

open Kit Rw
set_option maxRecDepth 100000 in
set_option maxHeartbeats 4000000 in
theorem walk (w : World)  :
    Calls Try.prog 5 #[] w fun e w' => e = .returned (.bool true) ∧ Below w.heap.size w w' := by
  have HB0 : Hid (Below w.heap.size w w) := Below.refl _ _
  go_enter Try.func5, Try.ntmps5
  go_wp2_with fail
  refine (ExL.sEx_any w).mono ?_
  rintro e w1 ⟨u1, rfl, ho, hg⟩
  have Ou1 := Lib.hid (ho.lower HB0.out.size)
  have HB1 := Lib.hid (HB0.out.grown hg HB0.out.size (fun _ h => by cases h)); clear HB0
  clear ho hg
  obtain ⟨u1_a, u1_n, u1_c, hu1, Nu1⟩ := Ou1.out.sees.shape; subst hu1
  have hgb := World.grownBy_alloc w1 (.cells #[.int .i64 5, .int .i64 4, .slice u1_a u1_n u1_c] 38 (0, 0)) none
  have D_u1_B2 := Lib.hid (Ou1.out.off' (Nat.le_refl _))
  have HB2 := Lib.hid (HB1.out.grown hgb HB1.out.size (fun _ h => by cases h)); clear HB1
  have Ou1 := Lib.hid (Ou1.out.grown hgb)
  have XB2 := Lib.hid (box_new w1 #[.int .i64 5, .int .i64 4, .slice u1_a u1_n u1_c] 38); clear hgb
  try clear cB2_0
  have cB2_0 : World.cell? (w1.alloc (.cells #[.int .i64 5, .int .i64 4, .slice u1_a u1_n u1_c] 38 (0, 0))) ⟨w1.heap.size, 0, none⟩ = some (.int .i64 5) := XB2.out.cell 0
  try clear cB2_1
  have cB2_1 : World.cell? (w1.alloc (.cells #[.int .i64 5, .int .i64 4, .slice u1_a u1_n u1_c] 38 (0, 0))) ⟨w1.heap.size, 1, none⟩ = some (.int .i64 4) := XB2.out.cell 1
  try clear cB2_2
  have cB2_2 : World.cell? (w1.alloc (.cells #[.int .i64 5, .int .i64 4, .slice u1_a u1_n u1_c] 38 (0, 0))) ⟨w1.heap.size, 2, none⟩ = some (.slice u1_a u1_n u1_c) := XB2.out.cell 2
  go_wp2_with fail
  generalize w1.alloc (.cells #[.int .i64 5, .int .i64 4, .slice u1_a u1_n u1_c] 38 (0, 0)) = w2 at *
  refine (ExL.iEx_any w2).mono ?_
  rintro e w3 ⟨u3, rfl, ho, hg⟩
  have A_u3_u1 := Lib.hid (Rg.apart_lt ho.lt Ou1.out.lt (Nat.le_refl _))
  have D_u3_B2 := Lib.hid (ho.off XB2.out.lt)
  have Ou3 := Lib.hid (ho.lower HB2.out.size)
  have HB3 := Lib.hid (HB2.out.grown hg HB2.out.size (fun _ h => by cases h)); clear HB2
  have Ou1 := Lib.hid (Ou1.out.grown hg)
  have XB2 := Lib.hid (XB2.out.grown hg)
  clear ho hg
  obtain ⟨u3_a, u3_n, u3_c, hu3, Nu3⟩ := Ou3.out.sees.shape; subst hu3
  have hgb := World.grownBy_alloc w3 (.cells #[.int .i64 5, .int .i64 4, .slice u3_a u3_n u3_c] 38 (0, 0)) none
  have D_u1_B4 := Lib.hid (Ou1.out.off' (Nat.le_refl _))
  have D_u3_B4 := Lib.hid (Ou3.out.off' (Nat.le_refl _))
  have HB4 := Lib.hid (HB3.out.grown hgb HB3.out.size (fun _ h => by cases h)); clear HB3
  have Ou1 := Lib.hid (Ou1.out.grown hgb)
  have Ou3 := Lib.hid (Ou3.out.grown hgb)
  have XB2 := Lib.hid (XB2.out.grown hgb)
  have XB4 := Lib.hid (box_new w3 #[.int .i64 5, .int .i64 4, .slice u3_a u3_n u3_c] 38); clear hgb
  try clear cB2_0
  have cB2_0 : World.cell? (w3.alloc (.cells #[.int .i64 5, .int .i64 4, .slice u3_a u3_n u3_c] 38 (0, 0))) ⟨w1.heap.size, 0, none⟩ = some (.int .i64 5) := XB2.out.cell 0
  try clear cB2_1
  have cB2_1 : World.cell? (w3.alloc (.cells #[.int .i64 5, .int .i64 4, .slice u3_a u3_n u3_c] 38 (0, 0))) ⟨w1.heap.size, 1, none⟩ = some (.int .i64 4) := XB2.out.cell 1
  try clear cB2_2
  have cB2_2 : World.cell? (w3.alloc (.cells #[.int .i64 5, .int .i64 4, .slice u3_a u3_n u3_c] 38 (0, 0))) ⟨w1.heap.size, 2, none⟩ = some (.slice u1_a u1_n u1_c) := XB2.out.cell 2
  try clear cB4_0
  have cB4_0 : World.cell? (w3.alloc (.cells #[.int .i64 5, .int .i64 4, .slice u3_a u3_n u3_c] 38 (0, 0))) ⟨w3.heap.size, 0, none⟩ = some (.int .i64 5) := XB4.out.cell 0
  try clear cB4_1
  have cB4_1 : World.cell? (w3.alloc (.cells #[.int .i64 5, .int .i64 4, .slice u3_a u3_n u3_c] 38 (0, 0))) ⟨w3.heap.size, 1, none⟩ = some (.int .i64 4) := XB4.out.cell 1
  try clear cB4_2
  have cB4_2 : World.cell? (w3.alloc (.cells #[.int .i64 5, .int .i64 4, .slice u3_a u3_n u3_c] 38 (0, 0))) ⟨w3.heap.size, 2, none⟩ = some (.slice u3_a u3_n u3_c) := XB4.out.cell 2
  go_wp2_with fail
  generalize w3.alloc (.cells #[.int .i64 5, .int .i64 4, .slice u3_a u3_n u3_c] 38 (0, 0)) = w4 at *
  refine (LandL.eqLand_same w4 5 4 _ _ _ (Ou3.out.sees) (Ou1.out.sees)).mono ?_
  rintro e w5 ⟨rfl, hg⟩
  have HB5 := Lib.hid (HB4.out.grown hg HB4.out.size (fun _ h => by cases h)); clear HB4
  have Ou1 := Lib.hid (Ou1.out.grown hg)
  have Ou3 := Lib.hid (Ou3.out.grown hg)
  have XB2 := Lib.hid (XB2.out.grown hg)
  have XB4 := Lib.hid (XB4.out.grown hg)
  clear hg
  try clear cB2_0
  have cB2_0 : World.cell? (w5) ⟨w1.heap.size, 0, none⟩ = some (.int .i64 5) := XB2.out.cell 0
  try clear cB2_1
  have cB2_1 : World.cell? (w5) ⟨w1.heap.size, 1, none⟩ = some (.int .i64 4) := XB2.out.cell 1
  try clear cB2_2
  have cB2_2 : World.cell? (w5) ⟨w1.heap.size, 2, none⟩ = some (.slice u1_a u1_n u1_c) := XB2.out.cell 2
  try clear cB4_0
  have cB4_0 : World.cell? (w5) ⟨w3.heap.size, 0, none⟩ = some (.int .i64 5) := XB4.out.cell 0
  try clear cB4_1
  have cB4_1 : World.cell? (w5) ⟨w3.heap.size, 1, none⟩ = some (.int .i64 4) := XB4.out.cell 1
  try clear cB4_2
  have cB4_2 : World.cell? (w5) ⟨w3.heap.size, 2, none⟩ = some (.slice u3_a u3_n u3_c) := XB4.out.cell 2
  go_wp2_with fail
  refine (LandL.markLand_any w5 w.heap.size 5 4 _ ExL.exL (1) Ou3.out (by simp [ExL.exL])).mono ?_
  rintro e w6 ⟨rfl, ho, hg⟩
  have HB6 := Lib.hid (HB5.out.grown hg HB5.out.size (fun c hc => (Ou3.out.lt c hc).1)); clear HB5
  have Ou1 := Lib.hid (Ou1.out.kept hg (A_u3_u1.out.2))
  have XB2 := Lib.hid (XB2.out.kept hg D_u3_B2.out)
  have XB4 := Lib.hid (XB4.out.kept hg D_u3_B4.out)
  have Ou3 := Lib.hid ho
  clear ho hg
  try clear cB2_0
  have cB2_0 : World.cell? (w6) ⟨w1.heap.size, 0, none⟩ = some (.int .i64 5) := XB2.out.cell 0
  try clear cB2_1
  have cB2_1 : World.cell? (w6) ⟨w1.heap.size, 1, none⟩ = some (.int .i64 4) := XB2.out.cell 1
  try clear cB2_2
  have cB2_2 : World.cell? (w6) ⟨w1.heap.size, 2, none⟩ = some (.slice u1_a u1_n u1_c) := XB2.out.cell 2
  try clear cB4_0
  have cB4_0 : World.cell? (w6) ⟨w3.heap.size, 0, none⟩ = some (.int .i64 5) := XB4.out.cell 0
  try clear cB4_1
  have cB4_1 : World.cell? (w6) ⟨w3.heap.size, 1, none⟩ = some (.int .i64 4) := XB4.out.cell 1
  try clear cB4_2
  have cB4_2 : World.cell? (w6) ⟨w3.heap.size, 2, none⟩ = some (.slice u3_a u3_n u3_c) := XB4.out.cell 2
  go_wp2_with fail
  refine (LandL.heldLand_any w6 5 4 _ (1) ((ExL.exL).length) (Ou3.out.sees) (by simp [ExL.exL])).mono ?_
  rintro e w7 ⟨rfl, hg⟩
  have HB7 := Lib.hid (HB6.out.grown hg HB6.out.size (fun _ h => by cases h)); clear HB6
  have Ou1 := Lib.hid (Ou1.out.grown hg)
  have Ou3 := Lib.hid (Ou3.out.grown hg)
  have XB2 := Lib.hid (XB2.out.grown hg)
  have XB4 := Lib.hid (XB4.out.grown hg)
  clear hg
  try clear cB2_0
  have cB2_0 : World.cell? (w7) ⟨w1.heap.size, 0, none⟩ = some (.int .i64 5) := XB2.out.cell 0
  try clear cB2_1
  have cB2_1 : World.cell? (w7) ⟨w1.heap.size, 1, none⟩ = some (.int .i64 4) := XB2.out.cell 1
  try clear cB2_2
  have cB2_2 : World.cell? (w7) ⟨w1.heap.size, 2, none⟩ = some (.slice u1_a u1_n u1_c) := XB2.out.cell 2
  try clear cB4_0
  have cB4_0 : World.cell? (w7) ⟨w3.heap.size, 0, none⟩ = some (.int .i64 5) := XB4.out.cell 0
  try clear cB4_1
  have cB4_1 : World.cell? (w7) ⟨w3.heap.size, 1, none⟩ = some (.int .i64 4) := XB4.out.cell 1
  try clear cB4_2
  have cB4_2 : World.cell? (w7) ⟨w3.heap.size, 2, none⟩ = some (.slice u3_a u3_n u3_c) := XB4.out.cell 2
  go_wp2_with fail
  refine (ExL.iEx_any w7).mono ?_
  rintro e w8 ⟨u5, rfl, ho, hg⟩
  have A_u5_u1 := Lib.hid (Rg.apart_lt ho.lt Ou1.out.lt (Nat.le_refl _))
  have A_u5_u3 := Lib.hid (Rg.apart_lt ho.lt Ou3.out.lt (Nat.le_refl _))
  have D_u5_B2 := Lib.hid (ho.off XB2.out.lt)
  have D_u5_B4 := Lib.hid (ho.off XB4.out.lt)
  have Ou5 := Lib.hid (ho.lower HB7.out.size)
  have HB8 := Lib.hid (HB7.out.grown hg HB7.out.size (fun _ h => by cases h)); clear HB7
  have Ou1 := Lib.hid (Ou1.out.grown hg)
  have Ou3 := Lib.hid (Ou3.out.grown hg)
  have XB2 := Lib.hid (XB2.out.grown hg)
  have XB4 := Lib.hid (XB4.out.grown hg)
  clear ho hg
  obtain ⟨u5_a, u5_n, u5_c, hu5, Nu5⟩ := Ou5.out.sees.shape; subst hu5
  have hgb := World.grownBy_alloc w8 (.cells #[.int .i64 5, .int .i64 4, .slice u5_a u5_n u5_c] 38 (0, 0)) none
  have D_u1_B6 := Lib.hid (Ou1.out.off' (Nat.le_refl _))
  have D_u3_B6 := Lib.hid (Ou3.out.off' (Nat.le_refl _))
  have D_u5_B6 := Lib.hid (Ou5.out.off' (Nat.le_refl _))
  have HB9 := Lib.hid (HB8.out.grown hgb HB8.out.size (fun _ h => by cases h)); clear HB8
  have Ou1 := Lib.hid (Ou1.out.grown hgb)
  have Ou3 := Lib.hid (Ou3.out.grown hgb)
  have Ou5 := Lib.hid (Ou5.out.grown hgb)
  have XB2 := Lib.hid (XB2.out.grown hgb)
  have XB4 := Lib.hid (XB4.out.grown hgb)
  have XB6 := Lib.hid (box_new w8 #[.int .i64 5, .int .i64 4, .slice u5_a u5_n u5_c] 38); clear hgb
  try clear cB2_0
  have cB2_0 : World.cell? (w8.alloc (.cells #[.int .i64 5, .int .i64 4, .slice u5_a u5_n u5_c] 38 (0, 0))) ⟨w1.heap.size, 0, none⟩ = some (.int .i64 5) := XB2.out.cell 0
  try clear cB2_1
  have cB2_1 : World.cell? (w8.alloc (.cells #[.int .i64 5, .int .i64 4, .slice u5_a u5_n u5_c] 38 (0, 0))) ⟨w1.heap.size, 1, none⟩ = some (.int .i64 4) := XB2.out.cell 1
  try clear cB2_2
  have cB2_2 : World.cell? (w8.alloc (.cells #[.int .i64 5, .int .i64 4, .slice u5_a u5_n u5_c] 38 (0, 0))) ⟨w1.heap.size, 2, none⟩ = some (.slice u1_a u1_n u1_c) := XB2.out.cell 2
  try clear cB4_0
  have cB4_0 : World.cell? (w8.alloc (.cells #[.int .i64 5, .int .i64 4, .slice u5_a u5_n u5_c] 38 (0, 0))) ⟨w3.heap.size, 0, none⟩ = some (.int .i64 5) := XB4.out.cell 0
  try clear cB4_1
  have cB4_1 : World.cell? (w8.alloc (.cells #[.int .i64 5, .int .i64 4, .slice u5_a u5_n u5_c] 38 (0, 0))) ⟨w3.heap.size, 1, none⟩ = some (.int .i64 4) := XB4.out.cell 1
  try clear cB4_2
  have cB4_2 : World.cell? (w8.alloc (.cells #[.int .i64 5, .int .i64 4, .slice u5_a u5_n u5_c] 38 (0, 0))) ⟨w3.heap.size, 2, none⟩ = some (.slice u3_a u3_n u3_c) := XB4.out.cell 2
  try clear cB6_0
  have cB6_0 : World.cell? (w8.alloc (.cells #[.int .i64 5, .int .i64 4, .slice u5_a u5_n u5_c] 38 (0, 0))) ⟨w8.heap.size, 0, none⟩ = some (.int .i64 5) := XB6.out.cell 0
  try clear cB6_1
  have cB6_1 : World.cell? (w8.alloc (.cells #[.int .i64 5, .int .i64 4, .slice u5_a u5_n u5_c] 38 (0, 0))) ⟨w8.heap.size, 1, none⟩ = some (.int .i64 4) := XB6.out.cell 1
  try clear cB6_2
  have cB6_2 : World.cell? (w8.alloc (.cells #[.int .i64 5, .int .i64 4, .slice u5_a u5_n u5_c] 38 (0, 0))) ⟨w8.heap.size, 2, none⟩ = some (.slice u5_a u5_n u5_c) := XB6.out.cell 2
  go_wp2_with fail
  generalize w8.alloc (.cells #[.int .i64 5, .int .i64 4, .slice u5_a u5_n u5_c] 38 (0, 0)) = w9 at *
  refine (LandL.eqLand_same w9 5 4 _ _ _ (Ou5.out.sees) (Ou1.out.sees)).mono ?_
  rintro e w10 ⟨rfl, hg⟩
  have HB10 := Lib.hid (HB9.out.grown hg HB9.out.size (fun _ h => by cases h)); clear HB9
  have Ou1 := Lib.hid (Ou1.out.grown hg)
  have Ou3 := Lib.hid (Ou3.out.grown hg)
  have Ou5 := Lib.hid (Ou5.out.grown hg)
  have XB2 := Lib.hid (XB2.out.grown hg)
  have XB4 := Lib.hid (XB4.out.grown hg)
  have XB6 := Lib.hid (XB6.out.grown hg)
  clear hg
  clear Ou1
  clear Ou5
  try clear cB2_0
  have cB2_0 : World.cell? (w10) ⟨w1.heap.size, 0, none⟩ = some (.int .i64 5) := XB2.out.cell 0
  try clear cB2_1
  have cB2_1 : World.cell? (w10) ⟨w1.heap.size, 1, none⟩ = some (.int .i64 4) := XB2.out.cell 1
  try clear cB2_2
  have cB2_2 : World.cell? (w10) ⟨w1.heap.size, 2, none⟩ = some (.slice u1_a u1_n u1_c) := XB2.out.cell 2
  try clear cB4_0
  have cB4_0 : World.cell? (w10) ⟨w3.heap.size, 0, none⟩ = some (.int .i64 5) := XB4.out.cell 0
  try clear cB4_1
  have cB4_1 : World.cell? (w10) ⟨w3.heap.size, 1, none⟩ = some (.int .i64 4) := XB4.out.cell 1
  try clear cB4_2
  have cB4_2 : World.cell? (w10) ⟨w3.heap.size, 2, none⟩ = some (.slice u3_a u3_n u3_c) := XB4.out.cell 2
  try clear cB6_0
  have cB6_0 : World.cell? (w10) ⟨w8.heap.size, 0, none⟩ = some (.int .i64 5) := XB6.out.cell 0
  try clear cB6_1
  have cB6_1 : World.cell? (w10) ⟨w8.heap.size, 1, none⟩ = some (.int .i64 4) := XB6.out.cell 1
  try clear cB6_2
  have cB6_2 : World.cell? (w10) ⟨w8.heap.size, 2, none⟩ = some (.slice u5_a u5_n u5_c) := XB6.out.cell 2
  go_wp2_with fail
  refine (LandL.heldLand_any w10 5 4 _ (1) ((ExL.exL).length) (Ou3.out.sees) (by simp [ExL.exL])).mono ?_
  rintro e w11 ⟨rfl, hg⟩
  have HB11 := Lib.hid (HB10.out.grown hg HB10.out.size (fun _ h => by cases h)); clear HB10
  have Ou3 := Lib.hid (Ou3.out.grown hg)
  have XB2 := Lib.hid (XB2.out.grown hg)
  have XB4 := Lib.hid (XB4.out.grown hg)
  have XB6 := Lib.hid (XB6.out.grown hg)
  clear hg
  clear Ou3
  try clear cB2_0
  have cB2_0 : World.cell? (w11) ⟨w1.heap.size, 0, none⟩ = some (.int .i64 5) := XB2.out.cell 0
  try clear cB2_1
  have cB2_1 : World.cell? (w11) ⟨w1.heap.size, 1, none⟩ = some (.int .i64 4) := XB2.out.cell 1
  try clear cB2_2
  have cB2_2 : World.cell? (w11) ⟨w1.heap.size, 2, none⟩ = some (.slice u1_a u1_n u1_c) := XB2.out.cell 2
  try clear cB4_0
  have cB4_0 : World.cell? (w11) ⟨w3.heap.size, 0, none⟩ = some (.int .i64 5) := XB4.out.cell 0
  try clear cB4_1
  have cB4_1 : World.cell? (w11) ⟨w3.heap.size, 1, none⟩ = some (.int .i64 4) := XB4.out.cell 1
  try clear cB4_2
  have cB4_2 : World.cell? (w11) ⟨w3.heap.size, 2, none⟩ = some (.slice u3_a u3_n u3_c) := XB4.out.cell 2
  try clear cB6_0
  have cB6_0 : World.cell? (w11) ⟨w8.heap.size, 0, none⟩ = some (.int .i64 5) := XB6.out.cell 0
  try clear cB6_1
  have cB6_1 : World.cell? (w11) ⟨w8.heap.size, 1, none⟩ = some (.int .i64 4) := XB6.out.cell 1
  try clear cB6_2
  have cB6_2 : World.cell? (w11) ⟨w8.heap.size, 2, none⟩ = some (.slice u5_a u5_n u5_c) := XB6.out.cell 2
  go_wp2
  go_ret
  exact ⟨rfl, HB11.out⟩

set_option maxRecDepth 100000 in
/-- What the walk gives, for every argument. -/
theorem contract (H : Type) (enc : TypeId × Value → H) (W : World) (base : Nat) (args : Array Value) (ds gs : List (DataW H)) (before : List MemPlace)
    (hval : ∀ (j : Nat) t v, Try.f5.params[j]? = some t → args[j]? = some v → Value.okWide Try.prog W .any base t v)
    (hW : DataW.Whole enc Try.prog Try.f5.params.toList Rows.fnExactExampleLandSpec.vars false W args.toList ds gs before) :
    Calls Try.prog 5 args W fun e W' => ∃ v, e = .returned v ∧ Rows.fnExactExampleLandSpec.post enc Try.prog Try.f5 false true false false W args v W' := by
  have hW' := hW
  obtain ⟨p, q, hA0, hV, rfl, hfz, hnd⟩ := hW
  have hA : DataW.TrodAll enc Try.prog W 0 (fun _ => true) true Try.f5.params.toList args.toList ds p := hA0
  rw [Try.params5] at hA hval
  obtain ⟨hargs, rfl, rfl⟩ := trodAll_nil hA
  obtain rfl : args = #[] := by cases args; simp_all
  obtain ⟨rfl, rfl⟩ := trodVars_none hV
  clear hA0
  refine (walk W ).mono fun e W' ⟨he, bel⟩ => ?_
  subst he
  exact ⟨_, rfl, _, _, _, [], _, [], hW', trodAll_mk1 (shut_bool Try.underlying4 _), trodAll_mk0, rfl, bel.frame _, fun h => by cases h⟩

noncomputable def laidWorld (os : Os) : World := World.holding Try.prog os ⟨#[], #[], []⟩
theorem reads (os : Os) {H : Type} (enc : TypeId × Value → H) : ∃ places, DataW.whole enc Try.prog ((laidWorld os).forCall (fun _ _ => 0) ⟨#[], #[], []⟩).memory Try.f5.params.toList Rows.fnExactExampleLandSpec.vars false (#[] : Array Value).toList 8 = some ([], [], places) :=
  ⟨[], by kernel_rfl⟩

set_option maxRecDepth 100000 in
theorem lifted (os : Os) (started : os.Started) (H : Type) (enc : TypeId × Value → H) (F : Stop.Interp) :
    ReturnsInHanded {} Try.checked os 5 .any ((OpenSpec.ofChange Rows.fnExactExampleLandSpec).preRow enc Try.prog Try.f5 Rows.fnExactExampleLandRow.domain false Rows.fnExactExampleLandRow.laid) (((OpenSpec.ofChange Rows.fnExactExampleLandSpec).at F).post enc Try.prog Try.f5 false true false false) := by
  obtain ⟨places, hx⟩ := reads os enc
  refine returnsInHanded_of_row (C := Try.checked) (s := (OpenSpec.ofChange Rows.fnExactExampleLandSpec)) own started (by kernel_rfl) Try.func5
    (witness_row_at (enc := enc) (C := Try.checked) false (laidWorld os) #[] rfl (by kernel_rfl) (by kernel_rfl) (by kernel_rfl)
      (OpenSpec.preRow_of_cond 8 hx (by kernel_rfl) (fun k hk => by cases hk) (by kernel_rfl) (laidMetH_nil _ _))) ?_
  intro W base args ds gs before hval hW _ _ _ _ _ _
  exact contract H enc W base args ds gs before hval hW

set_option maxRecDepth 100000 in
theorem said : Rows.FnExactExampleLandSaid :=
  OpenClaim.holds_of_cond 5 Try.f5 rfl rfl rfl rfl rfl rfl rfl ⟨rfl, rfl, rfl, rfl, rfl⟩ rfl rfl rfl rfl rfl (by kernel_rfl) Try.func5 (by kernel_rfl)
    (of_decide_eq_true (by kernel_rfl)) (by unfold Func.isWrapper; first | (rw [if_pos (by decide +kernel)]; kernel_rfl) | (rw [if_neg (by decide +kernel)]; exact ⟨rfl, rfl⟩))
    (fun os started H enc _ F => by rw [OpenClaim.pre_eq_preRow]; exact lifted os started H enc F)

theorem proved : Rows.FnExactExampleLandSaid := said
#print axioms proved
end Go.Proofs.Ytconlnlbaimghaa.fnExactExampleLand

/- The law FnExactPickUp: the program's PickUp answers as its model, for every argument; it writes into no argument, and its answer owns its memory. No condition. -/
import Derived.Deep.RegionHeld3
import Derived.Test.YtfcjbkagofccdaaRows
import Derived.Test.YtfcjbkagofccdaaFieldG
import Derived.Test.YtfcjbkagofccdaaPartyL
import Derived.Test.YtfcjbkagofccdaaPh
import Derived.WalkKit
import Derived.ProofKit
import Derived.OpenShut
import Derived.ShutString
import Derived.ChangeOld
import Derived.Below
import Derived.Deep.DeepHandedRow
import Derived.Deep.DeepWitnessRowRef
import Derived.Lib.LaidTab
namespace Go.Proofs.Ytfcjbkagofccdaa.fnExactPickUp
open Go.ChangeShapes Go.WideShapes Go.ChangeAt Go.RowKit
open Go.ChangeMaps (open_string shut_string)
set_option linter.unusedVariables false

theorem own : ownKnob Try.prog.godebug = none := by kernel_rfl
theorem laidOut : laidOutB Try.prog = true := by kernel_rfl

open Kit Rw
set_option maxRecDepth 100000 in
set_option maxHeartbeats 4000000 in
theorem walk (w : World) (aP_At : Int) (aP_At_h : (Lit.int .i64 aP_At).wf = true) (aP_Food : Int) (aP_Food_h : (Lit.int .i64 aP_Food).wf = true) (aP_Crew_a : Option Addr) (aP_Crew_len aP_Crew_cap : Nat) (aP_Crew_L : List Rg.Mem) (aP_Crew_h : aP_Crew_L.length = aP_Crew_len ∧ Rg.SeesG Rg.encM w (.slice aP_Crew_a aP_Crew_len aP_Crew_cap) aP_Crew_L) (aP_Past_a : Option Addr) (aP_Past_len aP_Past_cap : Nat) (aP_Past_L : List Bool) (aP_Past_h : aP_Past_L.length = aP_Past_len ∧ Rg.SeesG Rg.encB w (.slice aP_Past_a aP_Past_len aP_Past_cap) aP_Past_L) (aN : Int) (aN_h : (Lit.int .i64 aN).wf = true) :
    Calls Try.prog 5 #[.agg #[.int .i64 aP_At, .int .i64 aP_Food, .slice aP_Crew_a aP_Crew_len aP_Crew_cap, .slice aP_Past_a aP_Past_len aP_Past_cap], .int .i64 aN] w fun e w' => e = .returned (.bool true) ∧ Below w.heap.size w w' := by
  obtain ⟨aP_Crew_e, aP_Crew_s0⟩ := aP_Crew_h; have aP_Crew_S := Lib.hid aP_Crew_s0; have aP_Crew_len0 := aP_Crew_s0.len; subst aP_Crew_e; clear aP_Crew_s0
  obtain ⟨aP_Past_e, aP_Past_s0⟩ := aP_Past_h; have aP_Past_S := Lib.hid aP_Past_s0; have aP_Past_len0 := aP_Past_s0.len; subst aP_Past_e; clear aP_Past_s0
  have aP_At_H := Lib.hid aP_At_h; have aP_At_b := i64_of aP_At_h; clear aP_At_h
  have aP_Food_H := Lib.hid aP_Food_h; have aP_Food_b := i64_of aP_Food_h; clear aP_Food_h
  have aN_H := Lib.hid aN_h; have aN_b := i64_of aN_h; clear aN_h
  by_cases aP_l : (aP_Crew_L.length : Int) + (aP_Past_L.length : Int) ≤ (1048576 : Int)
  rotate_left
  ·
    have HB0 : Hid (Below w.heap.size w w) := Below.refl _ _
    have hgb := World.grownBy_alloc w (.cells #[.int .i64 aP_At, .int .i64 aP_Food, .slice aP_Crew_a aP_Crew_L.length aP_Crew_cap, .slice aP_Past_a aP_Past_L.length aP_Past_cap] 32 (0, 0)) none
    have HB1 := Lib.hid (HB0.out.grown hgb HB0.out.size (fun _ h => by cases h)); clear HB0
    have XP0 := Lib.hid (box_new w #[.int .i64 aP_At, .int .i64 aP_Food, .slice aP_Crew_a aP_Crew_L.length aP_Crew_cap, .slice aP_Past_a aP_Past_L.length aP_Past_cap] 32); clear hgb
    go_enter Try.func5, Try.ntmps5
    try clear cP0_0
    have cP0_0 : World.cell? (w.alloc (.cells #[.int .i64 aP_At, .int .i64 aP_Food, .slice aP_Crew_a aP_Crew_L.length aP_Crew_cap, .slice aP_Past_a aP_Past_L.length aP_Past_cap] 32 (0, 0))) ⟨w.heap.size, 0, none⟩ = some (.int .i64 aP_At) := XP0.out.cell 0
    try clear cP0_1
    have cP0_1 : World.cell? (w.alloc (.cells #[.int .i64 aP_At, .int .i64 aP_Food, .slice aP_Crew_a aP_Crew_L.length aP_Crew_cap, .slice aP_Past_a aP_Past_L.length aP_Past_cap] 32 (0, 0))) ⟨w.heap.size, 1, none⟩ = some (.int .i64 aP_Food) := XP0.out.cell 1
    try clear cP0_2
    have cP0_2 : World.cell? (w.alloc (.cells #[.int .i64 aP_At, .int .i64 aP_Food, .slice aP_Crew_a aP_Crew_L.length aP_Crew_cap, .slice aP_Past_a aP_Past_L.length aP_Past_cap] 32 (0, 0))) ⟨w.heap.size, 2, none⟩ = some (.slice aP_Crew_a aP_Crew_L.length aP_Crew_cap) := XP0.out.cell 2
    try clear cP0_3
    have cP0_3 : World.cell? (w.alloc (.cells #[.int .i64 aP_At, .int .i64 aP_Food, .slice aP_Crew_a aP_Crew_L.length aP_Crew_cap, .slice aP_Past_a aP_Past_L.length aP_Past_cap] 32 (0, 0))) ⟨w.heap.size, 3, none⟩ = some (.slice aP_Past_a aP_Past_L.length aP_Past_cap) := XP0.out.cell 3
    go_wp2_with fail
    generalize w.alloc (.cells #[.int .i64 aP_At, .int .i64 aP_Food, .slice aP_Crew_a aP_Crew_L.length aP_Crew_cap, .slice aP_Past_a aP_Past_L.length aP_Past_cap] 32 (0, 0)) = w1 at *
    refine (PartyL.szParty_no w1 aP_At aP_Food _ _ _ _ (1048576 : Int) (aP_Crew_S.out.below HB1.out) (aP_Past_S.out.below HB1.out) (by omega) (by omega) (by omega)).mono ?_
    rintro e w2 ⟨rfl, hg⟩
    have HB2 := Lib.hid (HB1.out.grown hg HB1.out.size (fun _ h => by cases h)); clear HB1
    have XP0 := Lib.hid (XP0.out.grown hg)
    clear hg
    try clear cP0_0
    have cP0_0 : World.cell? (w2) ⟨w.heap.size, 0, none⟩ = some (.int .i64 aP_At) := XP0.out.cell 0
    try clear cP0_1
    have cP0_1 : World.cell? (w2) ⟨w.heap.size, 1, none⟩ = some (.int .i64 aP_Food) := XP0.out.cell 1
    try clear cP0_2
    have cP0_2 : World.cell? (w2) ⟨w.heap.size, 2, none⟩ = some (.slice aP_Crew_a aP_Crew_L.length aP_Crew_cap) := XP0.out.cell 2
    try clear cP0_3
    have cP0_3 : World.cell? (w2) ⟨w.heap.size, 3, none⟩ = some (.slice aP_Past_a aP_Past_L.length aP_Past_cap) := XP0.out.cell 3
    go_wp2
    go_ret
    exact ⟨rfl, HB2.out⟩
  have HB0 : Hid (Below w.heap.size w w) := Below.refl _ _
  have hgb := World.grownBy_alloc w (.cells #[.int .i64 aP_At, .int .i64 aP_Food, .slice aP_Crew_a aP_Crew_L.length aP_Crew_cap, .slice aP_Past_a aP_Past_L.length aP_Past_cap] 32 (0, 0)) none
  have HB1 := Lib.hid (HB0.out.grown hgb HB0.out.size (fun _ h => by cases h)); clear HB0
  have XP0 := Lib.hid (box_new w #[.int .i64 aP_At, .int .i64 aP_Food, .slice aP_Crew_a aP_Crew_L.length aP_Crew_cap, .slice aP_Past_a aP_Past_L.length aP_Past_cap] 32); clear hgb
  go_enter Try.func5, Try.ntmps5
  try clear cP0_0
  have cP0_0 : World.cell? (w.alloc (.cells #[.int .i64 aP_At, .int .i64 aP_Food, .slice aP_Crew_a aP_Crew_L.length aP_Crew_cap, .slice aP_Past_a aP_Past_L.length aP_Past_cap] 32 (0, 0))) ⟨w.heap.size, 0, none⟩ = some (.int .i64 aP_At) := XP0.out.cell 0
  try clear cP0_1
  have cP0_1 : World.cell? (w.alloc (.cells #[.int .i64 aP_At, .int .i64 aP_Food, .slice aP_Crew_a aP_Crew_L.length aP_Crew_cap, .slice aP_Past_a aP_Past_L.length aP_Past_cap] 32 (0, 0))) ⟨w.heap.size, 1, none⟩ = some (.int .i64 aP_Food) := XP0.out.cell 1
  try clear cP0_2
  have cP0_2 : World.cell? (w.alloc (.cells #[.int .i64 aP_At, .int .i64 aP_Food, .slice aP_Crew_a aP_Crew_L.length aP_Crew_cap, .slice aP_Past_a aP_Past_L.length aP_Past_cap] 32 (0, 0))) ⟨w.heap.size, 2, none⟩ = some (.slice aP_Crew_a aP_Crew_L.length aP_Crew_cap) := XP0.out.cell 2
  try clear cP0_3
  have cP0_3 : World.cell? (w.alloc (.cells #[.int .i64 aP_At, .int .i64 aP_Food, .slice aP_Crew_a aP_Crew_L.length aP_Crew_cap, .slice aP_Past_a aP_Past_L.length aP_Past_cap] 32 (0, 0))) ⟨w.heap.size, 3, none⟩ = some (.slice aP_Past_a aP_Past_L.length aP_Past_cap) := XP0.out.cell 3
  go_wp2_with fail
  generalize w.alloc (.cells #[.int .i64 aP_At, .int .i64 aP_Food, .slice aP_Crew_a aP_Crew_L.length aP_Crew_cap, .slice aP_Past_a aP_Past_L.length aP_Past_cap] 32 (0, 0)) = w1 at *
  refine (PartyL.szParty_yes w1 aP_At aP_Food _ _ _ _ (1048576 : Int) (aP_Crew_S.out.below HB1.out) (aP_Past_S.out.below HB1.out) (by omega) (by omega) (by omega)).mono ?_
  rintro e w2 ⟨rfl, hg⟩
  have HB2 := Lib.hid (HB1.out.grown hg HB1.out.size (fun _ h => by cases h)); clear HB1
  have XP0 := Lib.hid (XP0.out.grown hg)
  clear hg
  try clear cP0_0
  have cP0_0 : World.cell? (w2) ⟨w.heap.size, 0, none⟩ = some (.int .i64 aP_At) := XP0.out.cell 0
  try clear cP0_1
  have cP0_1 : World.cell? (w2) ⟨w.heap.size, 1, none⟩ = some (.int .i64 aP_Food) := XP0.out.cell 1
  try clear cP0_2
  have cP0_2 : World.cell? (w2) ⟨w.heap.size, 2, none⟩ = some (.slice aP_Crew_a aP_Crew_L.length aP_Crew_cap) := XP0.out.cell 2
  try clear cP0_3
  have cP0_3 : World.cell? (w2) ⟨w.heap.size, 3, none⟩ = some (.slice aP_Past_a aP_Past_L.length aP_Past_cap) := XP0.out.cell 3
  go_wp2_with fail
  refine (PartyL.toParty_any w2 aP_At aP_Food _ _ _ _ (aP_Crew_S.out.below HB2.out) (aP_Past_S.out.below HB2.out) (by omega) (by omega)).mono ?_
  rintro e w3 ⟨u1, u2, rfl, ho1, ho2, hap, hg⟩
  have D_u1_P0 := Lib.hid (ho1.off XP0.out.lt)
  have Ou1 := Lib.hid (ho1.lower HB2.out.size)
  have D_u2_P0 := Lib.hid (ho2.off XP0.out.lt)
  have Ou2 := Lib.hid (ho2.lower HB2.out.size)
  have A_u2_u1 := Lib.hid hap
  have HB3 := Lib.hid (HB2.out.grown hg HB2.out.size (fun _ h => by cases h)); clear HB2
  have XP0 := Lib.hid (XP0.out.grown hg)
  clear ho1 ho2 hap hg
  try clear cP0_0
  have cP0_0 : World.cell? (w3) ⟨w.heap.size, 0, none⟩ = some (.int .i64 aP_At) := XP0.out.cell 0
  try clear cP0_1
  have cP0_1 : World.cell? (w3) ⟨w.heap.size, 1, none⟩ = some (.int .i64 aP_Food) := XP0.out.cell 1
  try clear cP0_2
  have cP0_2 : World.cell? (w3) ⟨w.heap.size, 2, none⟩ = some (.slice aP_Crew_a aP_Crew_L.length aP_Crew_cap) := XP0.out.cell 2
  try clear cP0_3
  have cP0_3 : World.cell? (w3) ⟨w.heap.size, 3, none⟩ = some (.slice aP_Past_a aP_Past_L.length aP_Past_cap) := XP0.out.cell 3
  go_wp2_with fail
  refine (Ph.sPickL w3 aP_At aP_Food aN _ _ aP_Crew_L aP_Past_L aP_Food_H.out (Ou1.out.sees) (Ou2.out.sees) (by omega) (by omega)).mono ?_
  rintro e w4 ⟨u3, u4, rfl, ho1, ho2, hap, hg⟩
  have A_u3_u1 := Lib.hid (Rg.apart_lt ho1.lt Ou1.out.lt (Nat.le_refl _))
  have A_u3_u2 := Lib.hid (Rg.apart_lt ho1.lt Ou2.out.lt (Nat.le_refl _))
  have D_u3_P0 := Lib.hid (ho1.off XP0.out.lt)
  have Ou3 := Lib.hid (ho1.lower HB3.out.size)
  have A_u4_u1 := Lib.hid (Rg.apart_lt ho2.lt Ou1.out.lt (Nat.le_refl _))
  have A_u4_u2 := Lib.hid (Rg.apart_lt ho2.lt Ou2.out.lt (Nat.le_refl _))
  have D_u4_P0 := Lib.hid (ho2.off XP0.out.lt)
  have Ou4 := Lib.hid (ho2.lower HB3.out.size)
  have A_u4_u3 := Lib.hid hap
  have HB4 := Lib.hid (HB3.out.grown hg HB3.out.size (fun _ h => by cases h)); clear HB3
  have Ou1 := Lib.hid (Ou1.out.grown hg)
  have Ou2 := Lib.hid (Ou2.out.grown hg)
  have XP0 := Lib.hid (XP0.out.grown hg)
  clear ho1 ho2 hap hg
  clear Ou1
  clear Ou2
  obtain ⟨u3_a, u3_n, u3_c, hu3, Nu3⟩ := Ou3.out.sees.shape; subst hu3
  obtain ⟨u4_a, u4_n, u4_c, hu4, Nu4⟩ := Ou4.out.sees.shape; subst hu4
  have hgb := World.grownBy_alloc w4 (.cells #[.int .i64 aP_At, .int .i64 (Ph.pickF aP_Crew_L aP_Food aN), .slice u3_a u3_n u3_c, .slice u4_a u4_n u4_c] 37 (0, 0)) none
  have D_u3_B5 := Lib.hid (Ou3.out.off' (Nat.le_refl _))
  have D_u4_B5 := Lib.hid (Ou4.out.off' (Nat.le_refl _))
  have HB5 := Lib.hid (HB4.out.grown hgb HB4.out.size (fun _ h => by cases h)); clear HB4
  have Ou3 := Lib.hid (Ou3.out.grown hgb)
  have Ou4 := Lib.hid (Ou4.out.grown hgb)
  have XP0 := Lib.hid (XP0.out.grown hgb)
  have XB5 := Lib.hid (box_new w4 #[.int .i64 aP_At, .int .i64 (Ph.pickF aP_Crew_L aP_Food aN), .slice u3_a u3_n u3_c, .slice u4_a u4_n u4_c] 37); clear hgb
  try clear cP0_0
  have cP0_0 : World.cell? (w4.alloc (.cells #[.int .i64 aP_At, .int .i64 (Ph.pickF aP_Crew_L aP_Food aN), .slice u3_a u3_n u3_c, .slice u4_a u4_n u4_c] 37 (0, 0))) ⟨w.heap.size, 0, none⟩ = some (.int .i64 aP_At) := XP0.out.cell 0
  try clear cP0_1
  have cP0_1 : World.cell? (w4.alloc (.cells #[.int .i64 aP_At, .int .i64 (Ph.pickF aP_Crew_L aP_Food aN), .slice u3_a u3_n u3_c, .slice u4_a u4_n u4_c] 37 (0, 0))) ⟨w.heap.size, 1, none⟩ = some (.int .i64 aP_Food) := XP0.out.cell 1
  try clear cP0_2
  have cP0_2 : World.cell? (w4.alloc (.cells #[.int .i64 aP_At, .int .i64 (Ph.pickF aP_Crew_L aP_Food aN), .slice u3_a u3_n u3_c, .slice u4_a u4_n u4_c] 37 (0, 0))) ⟨w.heap.size, 2, none⟩ = some (.slice aP_Crew_a aP_Crew_L.length aP_Crew_cap) := XP0.out.cell 2
  try clear cP0_3
  have cP0_3 : World.cell? (w4.alloc (.cells #[.int .i64 aP_At, .int .i64 (Ph.pickF aP_Crew_L aP_Food aN), .slice u3_a u3_n u3_c, .slice u4_a u4_n u4_c] 37 (0, 0))) ⟨w.heap.size, 3, none⟩ = some (.slice aP_Past_a aP_Past_L.length aP_Past_cap) := XP0.out.cell 3
  try clear cB5_0
  have cB5_0 : World.cell? (w4.alloc (.cells #[.int .i64 aP_At, .int .i64 (Ph.pickF aP_Crew_L aP_Food aN), .slice u3_a u3_n u3_c, .slice u4_a u4_n u4_c] 37 (0, 0))) ⟨w4.heap.size, 0, none⟩ = some (.int .i64 aP_At) := XB5.out.cell 0
  try clear cB5_1
  have cB5_1 : World.cell? (w4.alloc (.cells #[.int .i64 aP_At, .int .i64 (Ph.pickF aP_Crew_L aP_Food aN), .slice u3_a u3_n u3_c, .slice u4_a u4_n u4_c] 37 (0, 0))) ⟨w4.heap.size, 1, none⟩ = some (.int .i64 (Ph.pickF aP_Crew_L aP_Food aN)) := XB5.out.cell 1
  try clear cB5_2
  have cB5_2 : World.cell? (w4.alloc (.cells #[.int .i64 aP_At, .int .i64 (Ph.pickF aP_Crew_L aP_Food aN), .slice u3_a u3_n u3_c, .slice u4_a u4_n u4_c] 37 (0, 0))) ⟨w4.heap.size, 2, none⟩ = some (.slice u3_a u3_n u3_c) := XB5.out.cell 2
  try clear cB5_3
  have cB5_3 : World.cell? (w4.alloc (.cells #[.int .i64 aP_At, .int .i64 (Ph.pickF aP_Crew_L aP_Food aN), .slice u3_a u3_n u3_c, .slice u4_a u4_n u4_c] 37 (0, 0))) ⟨w4.heap.size, 3, none⟩ = some (.slice u4_a u4_n u4_c) := XB5.out.cell 3
  go_wp2_with fail
  generalize w4.alloc (.cells #[.int .i64 aP_At, .int .i64 (Ph.pickF aP_Crew_L aP_Food aN), .slice u3_a u3_n u3_c, .slice u4_a u4_n u4_c] 37 (0, 0)) = w5 at *
  refine (PartyL.toParty_any w5 aP_At aP_Food _ _ _ _ (aP_Crew_S.out.below HB5.out) (aP_Past_S.out.below HB5.out) (by omega) (by omega)).mono ?_
  rintro e w6 ⟨u6, u7, rfl, ho1, ho2, hap, hg⟩
  have A_u6_u3 := Lib.hid (Rg.apart_lt ho1.lt Ou3.out.lt (Nat.le_refl _))
  have A_u6_u4 := Lib.hid (Rg.apart_lt ho1.lt Ou4.out.lt (Nat.le_refl _))
  have D_u6_P0 := Lib.hid (ho1.off XP0.out.lt)
  have D_u6_B5 := Lib.hid (ho1.off XB5.out.lt)
  have Ou6 := Lib.hid (ho1.lower HB5.out.size)
  have A_u7_u3 := Lib.hid (Rg.apart_lt ho2.lt Ou3.out.lt (Nat.le_refl _))
  have A_u7_u4 := Lib.hid (Rg.apart_lt ho2.lt Ou4.out.lt (Nat.le_refl _))
  have D_u7_P0 := Lib.hid (ho2.off XP0.out.lt)
  have D_u7_B5 := Lib.hid (ho2.off XB5.out.lt)
  have Ou7 := Lib.hid (ho2.lower HB5.out.size)
  have A_u7_u6 := Lib.hid hap
  have HB6 := Lib.hid (HB5.out.grown hg HB5.out.size (fun _ h => by cases h)); clear HB5
  have Ou3 := Lib.hid (Ou3.out.grown hg)
  have Ou4 := Lib.hid (Ou4.out.grown hg)
  have XP0 := Lib.hid (XP0.out.grown hg)
  have XB5 := Lib.hid (XB5.out.grown hg)
  clear ho1 ho2 hap hg
  obtain ⟨u6_a, u6_n, u6_c, hu6, Nu6⟩ := Ou6.out.sees.shape; subst hu6
  obtain ⟨u7_a, u7_n, u7_c, hu7, Nu7⟩ := Ou7.out.sees.shape; subst hu7
  have hgb := World.grownBy_alloc w6 (.cells #[.int .i64 aP_At, .int .i64 aP_Food, .slice u6_a u6_n u6_c, .slice u7_a u7_n u7_c] 37 (0, 0)) none
  have D_u3_B8 := Lib.hid (Ou3.out.off' (Nat.le_refl _))
  have D_u4_B8 := Lib.hid (Ou4.out.off' (Nat.le_refl _))
  have D_u6_B8 := Lib.hid (Ou6.out.off' (Nat.le_refl _))
  have D_u7_B8 := Lib.hid (Ou7.out.off' (Nat.le_refl _))
  have HB7 := Lib.hid (HB6.out.grown hgb HB6.out.size (fun _ h => by cases h)); clear HB6
  have Ou3 := Lib.hid (Ou3.out.grown hgb)
  have Ou4 := Lib.hid (Ou4.out.grown hgb)
  have Ou6 := Lib.hid (Ou6.out.grown hgb)
  have Ou7 := Lib.hid (Ou7.out.grown hgb)
  have XP0 := Lib.hid (XP0.out.grown hgb)
  have XB5 := Lib.hid (XB5.out.grown hgb)
  have XB8 := Lib.hid (box_new w6 #[.int .i64 aP_At, .int .i64 aP_Food, .slice u6_a u6_n u6_c, .slice u7_a u7_n u7_c] 37); clear hgb
  try clear cP0_0
  have cP0_0 : World.cell? (w6.alloc (.cells #[.int .i64 aP_At, .int .i64 aP_Food, .slice u6_a u6_n u6_c, .slice u7_a u7_n u7_c] 37 (0, 0))) ⟨w.heap.size, 0, none⟩ = some (.int .i64 aP_At) := XP0.out.cell 0
  try clear cP0_1
  have cP0_1 : World.cell? (w6.alloc (.cells #[.int .i64 aP_At, .int .i64 aP_Food, .slice u6_a u6_n u6_c, .slice u7_a u7_n u7_c] 37 (0, 0))) ⟨w.heap.size, 1, none⟩ = some (.int .i64 aP_Food) := XP0.out.cell 1
  try clear cP0_2
  have cP0_2 : World.cell? (w6.alloc (.cells #[.int .i64 aP_At, .int .i64 aP_Food, .slice u6_a u6_n u6_c, .slice u7_a u7_n u7_c] 37 (0, 0))) ⟨w.heap.size, 2, none⟩ = some (.slice aP_Crew_a aP_Crew_L.length aP_Crew_cap) := XP0.out.cell 2
  try clear cP0_3
  have cP0_3 : World.cell? (w6.alloc (.cells #[.int .i64 aP_At, .int .i64 aP_Food, .slice u6_a u6_n u6_c, .slice u7_a u7_n u7_c] 37 (0, 0))) ⟨w.heap.size, 3, none⟩ = some (.slice aP_Past_a aP_Past_L.length aP_Past_cap) := XP0.out.cell 3
  try clear cB5_0
  have cB5_0 : World.cell? (w6.alloc (.cells #[.int .i64 aP_At, .int .i64 aP_Food, .slice u6_a u6_n u6_c, .slice u7_a u7_n u7_c] 37 (0, 0))) ⟨w4.heap.size, 0, none⟩ = some (.int .i64 aP_At) := XB5.out.cell 0
  try clear cB5_1
  have cB5_1 : World.cell? (w6.alloc (.cells #[.int .i64 aP_At, .int .i64 aP_Food, .slice u6_a u6_n u6_c, .slice u7_a u7_n u7_c] 37 (0, 0))) ⟨w4.heap.size, 1, none⟩ = some (.int .i64 (Ph.pickF aP_Crew_L aP_Food aN)) := XB5.out.cell 1
  try clear cB5_2
  have cB5_2 : World.cell? (w6.alloc (.cells #[.int .i64 aP_At, .int .i64 aP_Food, .slice u6_a u6_n u6_c, .slice u7_a u7_n u7_c] 37 (0, 0))) ⟨w4.heap.size, 2, none⟩ = some (.slice u3_a u3_n u3_c) := XB5.out.cell 2
  try clear cB5_3
  have cB5_3 : World.cell? (w6.alloc (.cells #[.int .i64 aP_At, .int .i64 aP_Food, .slice u6_a u6_n u6_c, .slice u7_a u7_n u7_c] 37 (0, 0))) ⟨w4.heap.size, 3, none⟩ = some (.slice u4_a u4_n u4_c) := XB5.out.cell 3
  try clear cB8_0
  have cB8_0 : World.cell? (w6.alloc (.cells #[.int .i64 aP_At, .int .i64 aP_Food, .slice u6_a u6_n u6_c, .slice u7_a u7_n u7_c] 37 (0, 0))) ⟨w6.heap.size, 0, none⟩ = some (.int .i64 aP_At) := XB8.out.cell 0
  try clear cB8_1
  have cB8_1 : World.cell? (w6.alloc (.cells #[.int .i64 aP_At, .int .i64 aP_Food, .slice u6_a u6_n u6_c, .slice u7_a u7_n u7_c] 37 (0, 0))) ⟨w6.heap.size, 1, none⟩ = some (.int .i64 aP_Food) := XB8.out.cell 1
  try clear cB8_2
  have cB8_2 : World.cell? (w6.alloc (.cells #[.int .i64 aP_At, .int .i64 aP_Food, .slice u6_a u6_n u6_c, .slice u7_a u7_n u7_c] 37 (0, 0))) ⟨w6.heap.size, 2, none⟩ = some (.slice u6_a u6_n u6_c) := XB8.out.cell 2
  try clear cB8_3
  have cB8_3 : World.cell? (w6.alloc (.cells #[.int .i64 aP_At, .int .i64 aP_Food, .slice u6_a u6_n u6_c, .slice u7_a u7_n u7_c] 37 (0, 0))) ⟨w6.heap.size, 3, none⟩ = some (.slice u7_a u7_n u7_c) := XB8.out.cell 3
  go_wp2_with fail
  generalize w6.alloc (.cells #[.int .i64 aP_At, .int .i64 aP_Food, .slice u6_a u6_n u6_c, .slice u7_a u7_n u7_c] 37 (0, 0)) = w7 at *
  refine (Ph.iPickL w7 aP_At aP_Food aN _ _ aP_Crew_L aP_Past_L aP_Food_H.out (Ou6.out.sees) (Ou7.out.sees) (by omega) (by omega)).mono ?_
  rintro e w8 ⟨u9, u10, rfl, ho1, ho2, hap, hg⟩
  have A_u9_u3 := Lib.hid (Rg.apart_lt ho1.lt Ou3.out.lt (Nat.le_refl _))
  have A_u9_u4 := Lib.hid (Rg.apart_lt ho1.lt Ou4.out.lt (Nat.le_refl _))
  have A_u9_u6 := Lib.hid (Rg.apart_lt ho1.lt Ou6.out.lt (Nat.le_refl _))
  have A_u9_u7 := Lib.hid (Rg.apart_lt ho1.lt Ou7.out.lt (Nat.le_refl _))
  have D_u9_P0 := Lib.hid (ho1.off XP0.out.lt)
  have D_u9_B5 := Lib.hid (ho1.off XB5.out.lt)
  have D_u9_B8 := Lib.hid (ho1.off XB8.out.lt)
  have Ou9 := Lib.hid (ho1.lower HB7.out.size)
  have A_u10_u3 := Lib.hid (Rg.apart_lt ho2.lt Ou3.out.lt (Nat.le_refl _))
  have A_u10_u4 := Lib.hid (Rg.apart_lt ho2.lt Ou4.out.lt (Nat.le_refl _))
  have A_u10_u6 := Lib.hid (Rg.apart_lt ho2.lt Ou6.out.lt (Nat.le_refl _))
  have A_u10_u7 := Lib.hid (Rg.apart_lt ho2.lt Ou7.out.lt (Nat.le_refl _))
  have D_u10_P0 := Lib.hid (ho2.off XP0.out.lt)
  have D_u10_B5 := Lib.hid (ho2.off XB5.out.lt)
  have D_u10_B8 := Lib.hid (ho2.off XB8.out.lt)
  have Ou10 := Lib.hid (ho2.lower HB7.out.size)
  have A_u10_u9 := Lib.hid hap
  have HB8 := Lib.hid (HB7.out.grown hg HB7.out.size (fun _ h => by cases h)); clear HB7
  have Ou3 := Lib.hid (Ou3.out.grown hg)
  have Ou4 := Lib.hid (Ou4.out.grown hg)
  have Ou6 := Lib.hid (Ou6.out.grown hg)
  have Ou7 := Lib.hid (Ou7.out.grown hg)
  have XP0 := Lib.hid (XP0.out.grown hg)
  have XB5 := Lib.hid (XB5.out.grown hg)
  have XB8 := Lib.hid (XB8.out.grown hg)
  clear ho1 ho2 hap hg
  obtain ⟨u9_a, u9_n, u9_c, hu9, Nu9⟩ := Ou9.out.sees.shape; subst hu9
  obtain ⟨u10_a, u10_n, u10_c, hu10, Nu10⟩ := Ou10.out.sees.shape; subst hu10
  have hgb := World.grownBy_alloc w8 (.cells #[.int .i64 aP_At, .int .i64 (Ph.pickF aP_Crew_L aP_Food aN), .slice u9_a u9_n u9_c, .slice u10_a u10_n u10_c] 37 (0, 0)) none
  have D_u3_B11 := Lib.hid (Ou3.out.off' (Nat.le_refl _))
  have D_u4_B11 := Lib.hid (Ou4.out.off' (Nat.le_refl _))
  have D_u6_B11 := Lib.hid (Ou6.out.off' (Nat.le_refl _))
  have D_u7_B11 := Lib.hid (Ou7.out.off' (Nat.le_refl _))
  have D_u9_B11 := Lib.hid (Ou9.out.off' (Nat.le_refl _))
  have D_u10_B11 := Lib.hid (Ou10.out.off' (Nat.le_refl _))
  have HB9 := Lib.hid (HB8.out.grown hgb HB8.out.size (fun _ h => by cases h)); clear HB8
  have Ou3 := Lib.hid (Ou3.out.grown hgb)
  have Ou4 := Lib.hid (Ou4.out.grown hgb)
  have Ou6 := Lib.hid (Ou6.out.grown hgb)
  have Ou7 := Lib.hid (Ou7.out.grown hgb)
  have Ou9 := Lib.hid (Ou9.out.grown hgb)
  have Ou10 := Lib.hid (Ou10.out.grown hgb)
  have XP0 := Lib.hid (XP0.out.grown hgb)
  have XB5 := Lib.hid (XB5.out.grown hgb)
  have XB8 := Lib.hid (XB8.out.grown hgb)
  have XB11 := Lib.hid (box_new w8 #[.int .i64 aP_At, .int .i64 (Ph.pickF aP_Crew_L aP_Food aN), .slice u9_a u9_n u9_c, .slice u10_a u10_n u10_c] 37); clear hgb
  try clear cP0_0
  have cP0_0 : World.cell? (w8.alloc (.cells #[.int .i64 aP_At, .int .i64 (Ph.pickF aP_Crew_L aP_Food aN), .slice u9_a u9_n u9_c, .slice u10_a u10_n u10_c] 37 (0, 0))) ⟨w.heap.size, 0, none⟩ = some (.int .i64 aP_At) := XP0.out.cell 0
  try clear cP0_1
  have cP0_1 : World.cell? (w8.alloc (.cells #[.int .i64 aP_At, .int .i64 (Ph.pickF aP_Crew_L aP_Food aN), .slice u9_a u9_n u9_c, .slice u10_a u10_n u10_c] 37 (0, 0))) ⟨w.heap.size, 1, none⟩ = some (.int .i64 aP_Food) := XP0.out.cell 1
  try clear cP0_2
  have cP0_2 : World.cell? (w8.alloc (.cells #[.int .i64 aP_At, .int .i64 (Ph.pickF aP_Crew_L aP_Food aN), .slice u9_a u9_n u9_c, .slice u10_a u10_n u10_c] 37 (0, 0))) ⟨w.heap.size, 2, none⟩ = some (.slice aP_Crew_a aP_Crew_L.length aP_Crew_cap) := XP0.out.cell 2
  try clear cP0_3
  have cP0_3 : World.cell? (w8.alloc (.cells #[.int .i64 aP_At, .int .i64 (Ph.pickF aP_Crew_L aP_Food aN), .slice u9_a u9_n u9_c, .slice u10_a u10_n u10_c] 37 (0, 0))) ⟨w.heap.size, 3, none⟩ = some (.slice aP_Past_a aP_Past_L.length aP_Past_cap) := XP0.out.cell 3
  try clear cB5_0
  have cB5_0 : World.cell? (w8.alloc (.cells #[.int .i64 aP_At, .int .i64 (Ph.pickF aP_Crew_L aP_Food aN), .slice u9_a u9_n u9_c, .slice u10_a u10_n u10_c] 37 (0, 0))) ⟨w4.heap.size, 0, none⟩ = some (.int .i64 aP_At) := XB5.out.cell 0
  try clear cB5_1
  have cB5_1 : World.cell? (w8.alloc (.cells #[.int .i64 aP_At, .int .i64 (Ph.pickF aP_Crew_L aP_Food aN), .slice u9_a u9_n u9_c, .slice u10_a u10_n u10_c] 37 (0, 0))) ⟨w4.heap.size, 1, none⟩ = some (.int .i64 (Ph.pickF aP_Crew_L aP_Food aN)) := XB5.out.cell 1
  try clear cB5_2
  have cB5_2 : World.cell? (w8.alloc (.cells #[.int .i64 aP_At, .int .i64 (Ph.pickF aP_Crew_L aP_Food aN), .slice u9_a u9_n u9_c, .slice u10_a u10_n u10_c] 37 (0, 0))) ⟨w4.heap.size, 2, none⟩ = some (.slice u3_a u3_n u3_c) := XB5.out.cell 2
  try clear cB5_3
  have cB5_3 : World.cell? (w8.alloc (.cells #[.int .i64 aP_At, .int .i64 (Ph.pickF aP_Crew_L aP_Food aN), .slice u9_a u9_n u9_c, .slice u10_a u10_n u10_c] 37 (0, 0))) ⟨w4.heap.size, 3, none⟩ = some (.slice u4_a u4_n u4_c) := XB5.out.cell 3
  try clear cB8_0
  have cB8_0 : World.cell? (w8.alloc (.cells #[.int .i64 aP_At, .int .i64 (Ph.pickF aP_Crew_L aP_Food aN), .slice u9_a u9_n u9_c, .slice u10_a u10_n u10_c] 37 (0, 0))) ⟨w6.heap.size, 0, none⟩ = some (.int .i64 aP_At) := XB8.out.cell 0
  try clear cB8_1
  have cB8_1 : World.cell? (w8.alloc (.cells #[.int .i64 aP_At, .int .i64 (Ph.pickF aP_Crew_L aP_Food aN), .slice u9_a u9_n u9_c, .slice u10_a u10_n u10_c] 37 (0, 0))) ⟨w6.heap.size, 1, none⟩ = some (.int .i64 aP_Food) := XB8.out.cell 1
  try clear cB8_2
  have cB8_2 : World.cell? (w8.alloc (.cells #[.int .i64 aP_At, .int .i64 (Ph.pickF aP_Crew_L aP_Food aN), .slice u9_a u9_n u9_c, .slice u10_a u10_n u10_c] 37 (0, 0))) ⟨w6.heap.size, 2, none⟩ = some (.slice u6_a u6_n u6_c) := XB8.out.cell 2
  try clear cB8_3
  have cB8_3 : World.cell? (w8.alloc (.cells #[.int .i64 aP_At, .int .i64 (Ph.pickF aP_Crew_L aP_Food aN), .slice u9_a u9_n u9_c, .slice u10_a u10_n u10_c] 37 (0, 0))) ⟨w6.heap.size, 3, none⟩ = some (.slice u7_a u7_n u7_c) := XB8.out.cell 3
  try clear cB11_0
  have cB11_0 : World.cell? (w8.alloc (.cells #[.int .i64 aP_At, .int .i64 (Ph.pickF aP_Crew_L aP_Food aN), .slice u9_a u9_n u9_c, .slice u10_a u10_n u10_c] 37 (0, 0))) ⟨w8.heap.size, 0, none⟩ = some (.int .i64 aP_At) := XB11.out.cell 0
  try clear cB11_1
  have cB11_1 : World.cell? (w8.alloc (.cells #[.int .i64 aP_At, .int .i64 (Ph.pickF aP_Crew_L aP_Food aN), .slice u9_a u9_n u9_c, .slice u10_a u10_n u10_c] 37 (0, 0))) ⟨w8.heap.size, 1, none⟩ = some (.int .i64 (Ph.pickF aP_Crew_L aP_Food aN)) := XB11.out.cell 1
  try clear cB11_2
  have cB11_2 : World.cell? (w8.alloc (.cells #[.int .i64 aP_At, .int .i64 (Ph.pickF aP_Crew_L aP_Food aN), .slice u9_a u9_n u9_c, .slice u10_a u10_n u10_c] 37 (0, 0))) ⟨w8.heap.size, 2, none⟩ = some (.slice u9_a u9_n u9_c) := XB11.out.cell 2
  try clear cB11_3
  have cB11_3 : World.cell? (w8.alloc (.cells #[.int .i64 aP_At, .int .i64 (Ph.pickF aP_Crew_L aP_Food aN), .slice u9_a u9_n u9_c, .slice u10_a u10_n u10_c] 37 (0, 0))) ⟨w8.heap.size, 3, none⟩ = some (.slice u10_a u10_n u10_c) := XB11.out.cell 3
  go_wp2_with fail
  generalize w8.alloc (.cells #[.int .i64 aP_At, .int .i64 (Ph.pickF aP_Crew_L aP_Food aN), .slice u9_a u9_n u9_c, .slice u10_a u10_n u10_c] 37 (0, 0)) = w9 at *
  refine (PartyL.eqParty_same w9 aP_At (Ph.pickF aP_Crew_L aP_Food aN) _ _ _ _ _ _ (Ou9.out.sees) (Ou10.out.sees) (Ou3.out.sees) (Ou4.out.sees)).mono ?_
  rintro e w10 ⟨rfl, hg⟩
  have HB10 := Lib.hid (HB9.out.grown hg HB9.out.size (fun _ h => by cases h)); clear HB9
  have Ou3 := Lib.hid (Ou3.out.grown hg)
  have Ou4 := Lib.hid (Ou4.out.grown hg)
  have Ou6 := Lib.hid (Ou6.out.grown hg)
  have Ou7 := Lib.hid (Ou7.out.grown hg)
  have Ou9 := Lib.hid (Ou9.out.grown hg)
  have Ou10 := Lib.hid (Ou10.out.grown hg)
  have XP0 := Lib.hid (XP0.out.grown hg)
  have XB5 := Lib.hid (XB5.out.grown hg)
  have XB8 := Lib.hid (XB8.out.grown hg)
  have XB11 := Lib.hid (XB11.out.grown hg)
  clear hg
  try clear cP0_0
  have cP0_0 : World.cell? (w10) ⟨w.heap.size, 0, none⟩ = some (.int .i64 aP_At) := XP0.out.cell 0
  try clear cP0_1
  have cP0_1 : World.cell? (w10) ⟨w.heap.size, 1, none⟩ = some (.int .i64 aP_Food) := XP0.out.cell 1
  try clear cP0_2
  have cP0_2 : World.cell? (w10) ⟨w.heap.size, 2, none⟩ = some (.slice aP_Crew_a aP_Crew_L.length aP_Crew_cap) := XP0.out.cell 2
  try clear cP0_3
  have cP0_3 : World.cell? (w10) ⟨w.heap.size, 3, none⟩ = some (.slice aP_Past_a aP_Past_L.length aP_Past_cap) := XP0.out.cell 3
  try clear cB5_0
  have cB5_0 : World.cell? (w10) ⟨w4.heap.size, 0, none⟩ = some (.int .i64 aP_At) := XB5.out.cell 0
  try clear cB5_1
  have cB5_1 : World.cell? (w10) ⟨w4.heap.size, 1, none⟩ = some (.int .i64 (Ph.pickF aP_Crew_L aP_Food aN)) := XB5.out.cell 1
  try clear cB5_2
  have cB5_2 : World.cell? (w10) ⟨w4.heap.size, 2, none⟩ = some (.slice u3_a u3_n u3_c) := XB5.out.cell 2
  try clear cB5_3
  have cB5_3 : World.cell? (w10) ⟨w4.heap.size, 3, none⟩ = some (.slice u4_a u4_n u4_c) := XB5.out.cell 3
  try clear cB8_0
  have cB8_0 : World.cell? (w10) ⟨w6.heap.size, 0, none⟩ = some (.int .i64 aP_At) := XB8.out.cell 0
  try clear cB8_1
  have cB8_1 : World.cell? (w10) ⟨w6.heap.size, 1, none⟩ = some (.int .i64 aP_Food) := XB8.out.cell 1
  try clear cB8_2
  have cB8_2 : World.cell? (w10) ⟨w6.heap.size, 2, none⟩ = some (.slice u6_a u6_n u6_c) := XB8.out.cell 2
  try clear cB8_3
  have cB8_3 : World.cell? (w10) ⟨w6.heap.size, 3, none⟩ = some (.slice u7_a u7_n u7_c) := XB8.out.cell 3
  try clear cB11_0
  have cB11_0 : World.cell? (w10) ⟨w8.heap.size, 0, none⟩ = some (.int .i64 aP_At) := XB11.out.cell 0
  try clear cB11_1
  have cB11_1 : World.cell? (w10) ⟨w8.heap.size, 1, none⟩ = some (.int .i64 (Ph.pickF aP_Crew_L aP_Food aN)) := XB11.out.cell 1
  try clear cB11_2
  have cB11_2 : World.cell? (w10) ⟨w8.heap.size, 2, none⟩ = some (.slice u9_a u9_n u9_c) := XB11.out.cell 2
  try clear cB11_3
  have cB11_3 : World.cell? (w10) ⟨w8.heap.size, 3, none⟩ = some (.slice u10_a u10_n u10_c) := XB11.out.cell 3
  go_wp2_with fail
  have hgd := grown_drew (World.grownBy.refl w10 none)
  have HB11 := Lib.hid (HB10.out.grown hgd HB10.out.size (fun _ h => by cases h)); clear HB10
  have Ou3 := Lib.hid (Ou3.out.grown hgd)
  have Ou4 := Lib.hid (Ou4.out.grown hgd)
  have Ou6 := Lib.hid (Ou6.out.grown hgd)
  have Ou7 := Lib.hid (Ou7.out.grown hgd)
  have Ou9 := Lib.hid (Ou9.out.grown hgd)
  have Ou10 := Lib.hid (Ou10.out.grown hgd)
  have XP0 := Lib.hid (XP0.out.grown hgd)
  have XB5 := Lib.hid (XB5.out.grown hgd)
  have XB8 := Lib.hid (XB8.out.grown hgd)
  have XB11 := Lib.hid (XB11.out.grown hgd)
  clear hgd
  try clear cB8_0
  have cB8_0 : World.cell? ((World.drew w10)) ⟨w6.heap.size, 0, none⟩ = some (.int .i64 aP_At) := XB8.out.cell 0
  try clear cB8_1
  have cB8_1 : World.cell? ((World.drew w10)) ⟨w6.heap.size, 1, none⟩ = some (.int .i64 aP_Food) := XB8.out.cell 1
  try clear cB8_2
  have cB8_2 : World.cell? ((World.drew w10)) ⟨w6.heap.size, 2, none⟩ = some (.slice u6_a u6_n u6_c) := XB8.out.cell 2
  try clear cB8_3
  have cB8_3 : World.cell? ((World.drew w10)) ⟨w6.heap.size, 3, none⟩ = some (.slice u7_a u7_n u7_c) := XB8.out.cell 3
  try clear cP0_0
  have cP0_0 : World.cell? ((World.drew w10)) ⟨w.heap.size, 0, none⟩ = some (.int .i64 aP_At) := XP0.out.cell 0
  try clear cP0_1
  have cP0_1 : World.cell? ((World.drew w10)) ⟨w.heap.size, 1, none⟩ = some (.int .i64 aP_Food) := XP0.out.cell 1
  try clear cP0_2
  have cP0_2 : World.cell? ((World.drew w10)) ⟨w.heap.size, 2, none⟩ = some (.slice aP_Crew_a aP_Crew_L.length aP_Crew_cap) := XP0.out.cell 2
  try clear cP0_3
  have cP0_3 : World.cell? ((World.drew w10)) ⟨w.heap.size, 3, none⟩ = some (.slice aP_Past_a aP_Past_L.length aP_Past_cap) := XP0.out.cell 3
  refine wp_region_held_drew (S := fun w' => w'.cell? ⟨w6.heap.size, 0, none⟩ = some (.int .i64 aP_At) ∧ w'.cell? ⟨w6.heap.size, 1, none⟩ = some (.int .i64 aP_Food) ∧ w'.cell? ⟨w6.heap.size, 2, none⟩ = some (.slice u6_a u6_n u6_c) ∧ w'.cell? ⟨w6.heap.size, 3, none⟩ = some (.slice u7_a u7_n u7_c) ∧ w'.cell? ⟨w.heap.size, 0, none⟩ = some (.int .i64 aP_At) ∧ w'.cell? ⟨w.heap.size, 1, none⟩ = some (.int .i64 aP_Food) ∧ w'.cell? ⟨w.heap.size, 2, none⟩ = some (.slice aP_Crew_a aP_Crew_L.length aP_Crew_cap) ∧ w'.cell? ⟨w.heap.size, 3, none⟩ = some (.slice aP_Past_a aP_Past_L.length aP_Past_cap)) (by kernel_rfl) ⟨cB8_0, cB8_1, cB8_2, cB8_3, cP0_0, cP0_1, cP0_2, cP0_3⟩ (fun hHeld => ?_)
  refine wpAnyH_take (i := 0) (v := ?_) rfl (by kernel_rfl) (by kernel_rfl) (by kernel_rfl) (fun _ _ _ h => h) (Or.inl ⟨by rfl, ?_⟩) (by assumption) ?_; rotate_left; (focus (intro wS hSw; (try dsimp only at hSw); go_simp <;> with_reducible rfl)); (try simp only [Act.put, List.getElem_toArray, List.getElem_cons_succ, List.getElem_cons_zero, List.setIfInBounds_toArray, List.set_cons_zero, List.set_cons_succ])
  refine wpAnyH_take (i := 1) (v := ?_) rfl (by kernel_rfl) (by kernel_rfl) (by kernel_rfl) (fun _ _ _ h => h) (Or.inl ⟨by rfl, ?_⟩) (by assumption) ?_; rotate_left; (focus (intro wS hSw; (try dsimp only at hSw); go_simp <;> with_reducible rfl)); (try simp only [Act.put, List.getElem_toArray, List.getElem_cons_succ, List.getElem_cons_zero, List.setIfInBounds_toArray, List.set_cons_zero, List.set_cons_succ])
  refine wpAnyH_ready (rs := [2]) (by kernel_rfl) (by simp) ?_; refine AllReadyH.cons rfl (fun K hK => ?_) AllReadyH.nil; go_simp; (go_at_call 18; refine (PartyL.toParty_any (World.drew w10) aP_At aP_Food _ _ _ _ (aP_Crew_S.out.below HB11.out) (aP_Past_S.out.below HB11.out) (by omega) (by omega)).mono ?_; rintro e w12 ⟨u12, u13, rfl, ho1, ho2, hap, hg⟩; have A_u12_u3 := Lib.hid (Rg.apart_lt ho1.lt Ou3.out.lt (Nat.le_refl _)); have A_u12_u4 := Lib.hid (Rg.apart_lt ho1.lt Ou4.out.lt (Nat.le_refl _)); have A_u12_u6 := Lib.hid (Rg.apart_lt ho1.lt Ou6.out.lt (Nat.le_refl _)); have A_u12_u7 := Lib.hid (Rg.apart_lt ho1.lt Ou7.out.lt (Nat.le_refl _)); have A_u12_u9 := Lib.hid (Rg.apart_lt ho1.lt Ou9.out.lt (Nat.le_refl _)); have A_u12_u10 := Lib.hid (Rg.apart_lt ho1.lt Ou10.out.lt (Nat.le_refl _)); have D_u12_P0 := Lib.hid (ho1.off XP0.out.lt); have D_u12_B5 := Lib.hid (ho1.off XB5.out.lt); have D_u12_B8 := Lib.hid (ho1.off XB8.out.lt); have D_u12_B11 := Lib.hid (ho1.off XB11.out.lt); have Ou12 := Lib.hid (ho1.lower HB11.out.size); have A_u13_u3 := Lib.hid (Rg.apart_lt ho2.lt Ou3.out.lt (Nat.le_refl _)); have A_u13_u4 := Lib.hid (Rg.apart_lt ho2.lt Ou4.out.lt (Nat.le_refl _)); have A_u13_u6 := Lib.hid (Rg.apart_lt ho2.lt Ou6.out.lt (Nat.le_refl _)); have A_u13_u7 := Lib.hid (Rg.apart_lt ho2.lt Ou7.out.lt (Nat.le_refl _)); have A_u13_u9 := Lib.hid (Rg.apart_lt ho2.lt Ou9.out.lt (Nat.le_refl _)); have A_u13_u10 := Lib.hid (Rg.apart_lt ho2.lt Ou10.out.lt (Nat.le_refl _)); have D_u13_P0 := Lib.hid (ho2.off XP0.out.lt); have D_u13_B5 := Lib.hid (ho2.off XB5.out.lt); have D_u13_B8 := Lib.hid (ho2.off XB8.out.lt); have D_u13_B11 := Lib.hid (ho2.off XB11.out.lt); have Ou13 := Lib.hid (ho2.lower HB11.out.size); have A_u13_u12 := Lib.hid hap; have HB12 := Lib.hid (HB11.out.grown hg HB11.out.size (fun _ h => by cases h)); clear HB11; have Ou3 := Lib.hid (Ou3.out.grown hg); have Ou4 := Lib.hid (Ou4.out.grown hg); have Ou6 := Lib.hid (Ou6.out.grown hg); have Ou7 := Lib.hid (Ou7.out.grown hg); have Ou9 := Lib.hid (Ou9.out.grown hg); have Ou10 := Lib.hid (Ou10.out.grown hg); have XP0 := Lib.hid (XP0.out.grown hg); have XB5 := Lib.hid (XB5.out.grown hg); have XB8 := Lib.hid (XB8.out.grown hg); have XB11 := Lib.hid (XB11.out.grown hg); clear ho1 ho2 hap hg)
  refine hK.out _ _ ?_ (fun hHeld => ?_)
  · exact ⟨XB8.out.cell 0, XB8.out.cell 1, XB8.out.cell 2, XB8.out.cell 3, XP0.out.cell 0, XP0.out.cell 1, XP0.out.cell 2, XP0.out.cell 3⟩
  clear hK K
  (try simp only [Act.put, List.getElem_toArray, List.getElem_cons_succ, List.getElem_cons_zero, List.setIfInBounds_toArray, List.set_cons_zero, List.set_cons_succ])
  refine wpAnyH_ready (rs := [3]) (by kernel_rfl) (by simp) ?_; refine AllReadyH.cons rfl (fun K hK => ?_) AllReadyH.nil; go_simp; (go_at_call 20; refine (PartyL.eqParty_same w12 aP_At aP_Food _ _ _ _ _ _ (Ou6.out.sees) (Ou7.out.sees) (Ou12.out.sees) (Ou13.out.sees)).mono ?_; rintro e w13 ⟨rfl, hg⟩; have HB13 := Lib.hid (HB12.out.grown hg HB12.out.size (fun _ h => by cases h)); clear HB12; have Ou3 := Lib.hid (Ou3.out.grown hg); have Ou4 := Lib.hid (Ou4.out.grown hg); have Ou6 := Lib.hid (Ou6.out.grown hg); have Ou7 := Lib.hid (Ou7.out.grown hg); have Ou9 := Lib.hid (Ou9.out.grown hg); have Ou10 := Lib.hid (Ou10.out.grown hg); have Ou12 := Lib.hid (Ou12.out.grown hg); have Ou13 := Lib.hid (Ou13.out.grown hg); have XP0 := Lib.hid (XP0.out.grown hg); have XB5 := Lib.hid (XB5.out.grown hg); have XB8 := Lib.hid (XB8.out.grown hg); have XB11 := Lib.hid (XB11.out.grown hg); clear hg)
  refine hK.out _ _ ?_ (fun hHeld => ?_)
  · exact ⟨XB8.out.cell 0, XB8.out.cell 1, XB8.out.cell 2, XB8.out.cell 3, XP0.out.cell 0, XP0.out.cell 1, XP0.out.cell 2, XP0.out.cell 3⟩
  clear hK K
  (try simp only [Act.put, List.getElem_toArray, List.getElem_cons_succ, List.getElem_cons_zero, List.setIfInBounds_toArray, List.set_cons_zero, List.set_cons_succ])
  refine wpAnyH_take (i := 4) (v := ?_) rfl (by kernel_rfl) (by kernel_rfl) (by kernel_rfl) (fun _ _ _ h => h) (Or.inl ⟨by rfl, ?_⟩) (by assumption) ?_; rotate_left; (focus (intro wS hSw; (try dsimp only at hSw); go_simp <;> with_reducible rfl)); (try simp only [Act.put, List.getElem_toArray, List.getElem_cons_succ, List.getElem_cons_zero, List.setIfInBounds_toArray, List.set_cons_zero, List.set_cons_succ])
  refine wpAnyH_done (by kernel_rfl) ?_ _
  (try simp only [Act.put, List.getElem_toArray, List.getElem_cons_succ, List.getElem_cons_zero, List.setIfInBounds_toArray, List.set_cons_zero, List.set_cons_succ])
  clear Ou12
  clear Ou13
  try clear cP0_0
  have cP0_0 : World.cell? (w13) ⟨w.heap.size, 0, none⟩ = some (.int .i64 aP_At) := XP0.out.cell 0
  try clear cP0_1
  have cP0_1 : World.cell? (w13) ⟨w.heap.size, 1, none⟩ = some (.int .i64 aP_Food) := XP0.out.cell 1
  try clear cP0_2
  have cP0_2 : World.cell? (w13) ⟨w.heap.size, 2, none⟩ = some (.slice aP_Crew_a aP_Crew_L.length aP_Crew_cap) := XP0.out.cell 2
  try clear cP0_3
  have cP0_3 : World.cell? (w13) ⟨w.heap.size, 3, none⟩ = some (.slice aP_Past_a aP_Past_L.length aP_Past_cap) := XP0.out.cell 3
  try clear cB5_0
  have cB5_0 : World.cell? (w13) ⟨w4.heap.size, 0, none⟩ = some (.int .i64 aP_At) := XB5.out.cell 0
  try clear cB5_1
  have cB5_1 : World.cell? (w13) ⟨w4.heap.size, 1, none⟩ = some (.int .i64 (Ph.pickF aP_Crew_L aP_Food aN)) := XB5.out.cell 1
  try clear cB5_2
  have cB5_2 : World.cell? (w13) ⟨w4.heap.size, 2, none⟩ = some (.slice u3_a u3_n u3_c) := XB5.out.cell 2
  try clear cB5_3
  have cB5_3 : World.cell? (w13) ⟨w4.heap.size, 3, none⟩ = some (.slice u4_a u4_n u4_c) := XB5.out.cell 3
  try clear cB8_0
  have cB8_0 : World.cell? (w13) ⟨w6.heap.size, 0, none⟩ = some (.int .i64 aP_At) := XB8.out.cell 0
  try clear cB8_1
  have cB8_1 : World.cell? (w13) ⟨w6.heap.size, 1, none⟩ = some (.int .i64 aP_Food) := XB8.out.cell 1
  try clear cB8_2
  have cB8_2 : World.cell? (w13) ⟨w6.heap.size, 2, none⟩ = some (.slice u6_a u6_n u6_c) := XB8.out.cell 2
  try clear cB8_3
  have cB8_3 : World.cell? (w13) ⟨w6.heap.size, 3, none⟩ = some (.slice u7_a u7_n u7_c) := XB8.out.cell 3
  try clear cB11_0
  have cB11_0 : World.cell? (w13) ⟨w8.heap.size, 0, none⟩ = some (.int .i64 aP_At) := XB11.out.cell 0
  try clear cB11_1
  have cB11_1 : World.cell? (w13) ⟨w8.heap.size, 1, none⟩ = some (.int .i64 (Ph.pickF aP_Crew_L aP_Food aN)) := XB11.out.cell 1
  try clear cB11_2
  have cB11_2 : World.cell? (w13) ⟨w8.heap.size, 2, none⟩ = some (.slice u9_a u9_n u9_c) := XB11.out.cell 2
  try clear cB11_3
  have cB11_3 : World.cell? (w13) ⟨w8.heap.size, 3, none⟩ = some (.slice u10_a u10_n u10_c) := XB11.out.cell 3
  go_wp2_with fail
  refine (PartyL.markParty_any w13 w.heap.size aP_At aP_Food _ _ aP_Crew_L aP_Past_L (1) Ou6.out Ou7.out A_u7_u6.out (by (try simp only [LawsBo.marksB_len, LawsM.marksM_len]); omega)).mono ?_
  rintro e w14 ⟨rfl, ho1, ho2, wm1, hg1, hg2⟩
  have HB14 := Lib.hid (HB13.out.grown hg1 HB13.out.size (fun c hc => (Ou6.out.lt c hc).1)); clear HB13
  have Ou3 := Lib.hid (Ou3.out.kept hg1 (A_u6_u3.out.2))
  have Ou4 := Lib.hid (Ou4.out.kept hg1 (A_u6_u4.out.2))
  have Ou9 := Lib.hid (Ou9.out.kept hg1 (A_u9_u6.out.1))
  have Ou10 := Lib.hid (Ou10.out.kept hg1 (A_u10_u6.out.1))
  have XP0 := Lib.hid (XP0.out.kept hg1 D_u6_P0.out)
  have XB5 := Lib.hid (XB5.out.kept hg1 D_u6_B5.out)
  have XB8 := Lib.hid (XB8.out.kept hg1 D_u6_B8.out)
  have XB11 := Lib.hid (XB11.out.kept hg1 D_u6_B11.out)
  have HB15 := Lib.hid (HB14.out.grown hg2 HB14.out.size (fun c hc => (Ou7.out.lt c hc).1)); clear HB14
  have Ou3 := Lib.hid (Ou3.out.kept hg2 (A_u7_u3.out.2))
  have Ou4 := Lib.hid (Ou4.out.kept hg2 (A_u7_u4.out.2))
  have Ou9 := Lib.hid (Ou9.out.kept hg2 (A_u9_u7.out.1))
  have Ou10 := Lib.hid (Ou10.out.kept hg2 (A_u10_u7.out.1))
  have XP0 := Lib.hid (XP0.out.kept hg2 D_u7_P0.out)
  have XB5 := Lib.hid (XB5.out.kept hg2 D_u7_B5.out)
  have XB8 := Lib.hid (XB8.out.kept hg2 D_u7_B8.out)
  have XB11 := Lib.hid (XB11.out.kept hg2 D_u7_B11.out)
  have Ou6 := Lib.hid ho1
  have Ou7 := Lib.hid ho2
  clear ho1 ho2 hg1 hg2
  try clear cP0_0
  have cP0_0 : World.cell? (w14) ⟨w.heap.size, 0, none⟩ = some (.int .i64 aP_At) := XP0.out.cell 0
  try clear cP0_1
  have cP0_1 : World.cell? (w14) ⟨w.heap.size, 1, none⟩ = some (.int .i64 aP_Food) := XP0.out.cell 1
  try clear cP0_2
  have cP0_2 : World.cell? (w14) ⟨w.heap.size, 2, none⟩ = some (.slice aP_Crew_a aP_Crew_L.length aP_Crew_cap) := XP0.out.cell 2
  try clear cP0_3
  have cP0_3 : World.cell? (w14) ⟨w.heap.size, 3, none⟩ = some (.slice aP_Past_a aP_Past_L.length aP_Past_cap) := XP0.out.cell 3
  try clear cB5_0
  have cB5_0 : World.cell? (w14) ⟨w4.heap.size, 0, none⟩ = some (.int .i64 aP_At) := XB5.out.cell 0
  try clear cB5_1
  have cB5_1 : World.cell? (w14) ⟨w4.heap.size, 1, none⟩ = some (.int .i64 (Ph.pickF aP_Crew_L aP_Food aN)) := XB5.out.cell 1
  try clear cB5_2
  have cB5_2 : World.cell? (w14) ⟨w4.heap.size, 2, none⟩ = some (.slice u3_a u3_n u3_c) := XB5.out.cell 2
  try clear cB5_3
  have cB5_3 : World.cell? (w14) ⟨w4.heap.size, 3, none⟩ = some (.slice u4_a u4_n u4_c) := XB5.out.cell 3
  try clear cB8_0
  have cB8_0 : World.cell? (w14) ⟨w6.heap.size, 0, none⟩ = some (.int .i64 aP_At) := XB8.out.cell 0
  try clear cB8_1
  have cB8_1 : World.cell? (w14) ⟨w6.heap.size, 1, none⟩ = some (.int .i64 aP_Food) := XB8.out.cell 1
  try clear cB8_2
  have cB8_2 : World.cell? (w14) ⟨w6.heap.size, 2, none⟩ = some (.slice u6_a u6_n u6_c) := XB8.out.cell 2
  try clear cB8_3
  have cB8_3 : World.cell? (w14) ⟨w6.heap.size, 3, none⟩ = some (.slice u7_a u7_n u7_c) := XB8.out.cell 3
  try clear cB11_0
  have cB11_0 : World.cell? (w14) ⟨w8.heap.size, 0, none⟩ = some (.int .i64 aP_At) := XB11.out.cell 0
  try clear cB11_1
  have cB11_1 : World.cell? (w14) ⟨w8.heap.size, 1, none⟩ = some (.int .i64 (Ph.pickF aP_Crew_L aP_Food aN)) := XB11.out.cell 1
  try clear cB11_2
  have cB11_2 : World.cell? (w14) ⟨w8.heap.size, 2, none⟩ = some (.slice u9_a u9_n u9_c) := XB11.out.cell 2
  try clear cB11_3
  have cB11_3 : World.cell? (w14) ⟨w8.heap.size, 3, none⟩ = some (.slice u10_a u10_n u10_c) := XB11.out.cell 3
  go_wp2_with fail
  refine (PartyL.eqParty_same w14 aP_At (Ph.pickF aP_Crew_L aP_Food aN) _ _ _ _ _ _ (Ou9.out.sees) (Ou10.out.sees) (Ou3.out.sees) (Ou4.out.sees)).mono ?_
  rintro e w15 ⟨rfl, hg⟩
  have HB16 := Lib.hid (HB15.out.grown hg HB15.out.size (fun _ h => by cases h)); clear HB15
  have Ou3 := Lib.hid (Ou3.out.grown hg)
  have Ou4 := Lib.hid (Ou4.out.grown hg)
  have Ou6 := Lib.hid (Ou6.out.grown hg)
  have Ou7 := Lib.hid (Ou7.out.grown hg)
  have Ou9 := Lib.hid (Ou9.out.grown hg)
  have Ou10 := Lib.hid (Ou10.out.grown hg)
  have XP0 := Lib.hid (XP0.out.grown hg)
  have XB5 := Lib.hid (XB5.out.grown hg)
  have XB8 := Lib.hid (XB8.out.grown hg)
  have XB11 := Lib.hid (XB11.out.grown hg)
  clear hg
  clear Ou6
  clear Ou7
  try clear cP0_0
  have cP0_0 : World.cell? (w15) ⟨w.heap.size, 0, none⟩ = some (.int .i64 aP_At) := XP0.out.cell 0
  try clear cP0_1
  have cP0_1 : World.cell? (w15) ⟨w.heap.size, 1, none⟩ = some (.int .i64 aP_Food) := XP0.out.cell 1
  try clear cP0_2
  have cP0_2 : World.cell? (w15) ⟨w.heap.size, 2, none⟩ = some (.slice aP_Crew_a aP_Crew_L.length aP_Crew_cap) := XP0.out.cell 2
  try clear cP0_3
  have cP0_3 : World.cell? (w15) ⟨w.heap.size, 3, none⟩ = some (.slice aP_Past_a aP_Past_L.length aP_Past_cap) := XP0.out.cell 3
  try clear cB5_0
  have cB5_0 : World.cell? (w15) ⟨w4.heap.size, 0, none⟩ = some (.int .i64 aP_At) := XB5.out.cell 0
  try clear cB5_1
  have cB5_1 : World.cell? (w15) ⟨w4.heap.size, 1, none⟩ = some (.int .i64 (Ph.pickF aP_Crew_L aP_Food aN)) := XB5.out.cell 1
  try clear cB5_2
  have cB5_2 : World.cell? (w15) ⟨w4.heap.size, 2, none⟩ = some (.slice u3_a u3_n u3_c) := XB5.out.cell 2
  try clear cB5_3
  have cB5_3 : World.cell? (w15) ⟨w4.heap.size, 3, none⟩ = some (.slice u4_a u4_n u4_c) := XB5.out.cell 3
  try clear cB8_0
  have cB8_0 : World.cell? (w15) ⟨w6.heap.size, 0, none⟩ = some (.int .i64 aP_At) := XB8.out.cell 0
  try clear cB8_1
  have cB8_1 : World.cell? (w15) ⟨w6.heap.size, 1, none⟩ = some (.int .i64 aP_Food) := XB8.out.cell 1
  try clear cB8_2
  have cB8_2 : World.cell? (w15) ⟨w6.heap.size, 2, none⟩ = some (.slice u6_a u6_n u6_c) := XB8.out.cell 2
  try clear cB8_3
  have cB8_3 : World.cell? (w15) ⟨w6.heap.size, 3, none⟩ = some (.slice u7_a u7_n u7_c) := XB8.out.cell 3
  try clear cB11_0
  have cB11_0 : World.cell? (w15) ⟨w8.heap.size, 0, none⟩ = some (.int .i64 aP_At) := XB11.out.cell 0
  try clear cB11_1
  have cB11_1 : World.cell? (w15) ⟨w8.heap.size, 1, none⟩ = some (.int .i64 (Ph.pickF aP_Crew_L aP_Food aN)) := XB11.out.cell 1
  try clear cB11_2
  have cB11_2 : World.cell? (w15) ⟨w8.heap.size, 2, none⟩ = some (.slice u9_a u9_n u9_c) := XB11.out.cell 2
  try clear cB11_3
  have cB11_3 : World.cell? (w15) ⟨w8.heap.size, 3, none⟩ = some (.slice u10_a u10_n u10_c) := XB11.out.cell 3
  go_wp2_with fail
  refine (PartyL.markParty_any w15 w.heap.size aP_At (Ph.pickF aP_Crew_L aP_Food aN) _ _ aP_Crew_L aP_Past_L (1) Ou9.out Ou10.out A_u10_u9.out (by (try simp only [LawsBo.marksB_len, LawsM.marksM_len]); omega)).mono ?_
  rintro e w16 ⟨rfl, ho1, ho2, wm1, hg1, hg2⟩
  have HB17 := Lib.hid (HB16.out.grown hg1 HB16.out.size (fun c hc => (Ou9.out.lt c hc).1)); clear HB16
  have Ou3 := Lib.hid (Ou3.out.kept hg1 (A_u9_u3.out.2))
  have Ou4 := Lib.hid (Ou4.out.kept hg1 (A_u9_u4.out.2))
  have XP0 := Lib.hid (XP0.out.kept hg1 D_u9_P0.out)
  have XB5 := Lib.hid (XB5.out.kept hg1 D_u9_B5.out)
  have XB8 := Lib.hid (XB8.out.kept hg1 D_u9_B8.out)
  have XB11 := Lib.hid (XB11.out.kept hg1 D_u9_B11.out)
  have HB18 := Lib.hid (HB17.out.grown hg2 HB17.out.size (fun c hc => (Ou10.out.lt c hc).1)); clear HB17
  have Ou3 := Lib.hid (Ou3.out.kept hg2 (A_u10_u3.out.2))
  have Ou4 := Lib.hid (Ou4.out.kept hg2 (A_u10_u4.out.2))
  have XP0 := Lib.hid (XP0.out.kept hg2 D_u10_P0.out)
  have XB5 := Lib.hid (XB5.out.kept hg2 D_u10_B5.out)
  have XB8 := Lib.hid (XB8.out.kept hg2 D_u10_B8.out)
  have XB11 := Lib.hid (XB11.out.kept hg2 D_u10_B11.out)
  have Ou9 := Lib.hid ho1
  have Ou10 := Lib.hid ho2
  clear ho1 ho2 hg1 hg2
  try clear cP0_0
  have cP0_0 : World.cell? (w16) ⟨w.heap.size, 0, none⟩ = some (.int .i64 aP_At) := XP0.out.cell 0
  try clear cP0_1
  have cP0_1 : World.cell? (w16) ⟨w.heap.size, 1, none⟩ = some (.int .i64 aP_Food) := XP0.out.cell 1
  try clear cP0_2
  have cP0_2 : World.cell? (w16) ⟨w.heap.size, 2, none⟩ = some (.slice aP_Crew_a aP_Crew_L.length aP_Crew_cap) := XP0.out.cell 2
  try clear cP0_3
  have cP0_3 : World.cell? (w16) ⟨w.heap.size, 3, none⟩ = some (.slice aP_Past_a aP_Past_L.length aP_Past_cap) := XP0.out.cell 3
  try clear cB5_0
  have cB5_0 : World.cell? (w16) ⟨w4.heap.size, 0, none⟩ = some (.int .i64 aP_At) := XB5.out.cell 0
  try clear cB5_1
  have cB5_1 : World.cell? (w16) ⟨w4.heap.size, 1, none⟩ = some (.int .i64 (Ph.pickF aP_Crew_L aP_Food aN)) := XB5.out.cell 1
  try clear cB5_2
  have cB5_2 : World.cell? (w16) ⟨w4.heap.size, 2, none⟩ = some (.slice u3_a u3_n u3_c) := XB5.out.cell 2
  try clear cB5_3
  have cB5_3 : World.cell? (w16) ⟨w4.heap.size, 3, none⟩ = some (.slice u4_a u4_n u4_c) := XB5.out.cell 3
  try clear cB8_0
  have cB8_0 : World.cell? (w16) ⟨w6.heap.size, 0, none⟩ = some (.int .i64 aP_At) := XB8.out.cell 0
  try clear cB8_1
  have cB8_1 : World.cell? (w16) ⟨w6.heap.size, 1, none⟩ = some (.int .i64 aP_Food) := XB8.out.cell 1
  try clear cB8_2
  have cB8_2 : World.cell? (w16) ⟨w6.heap.size, 2, none⟩ = some (.slice u6_a u6_n u6_c) := XB8.out.cell 2
  try clear cB8_3
  have cB8_3 : World.cell? (w16) ⟨w6.heap.size, 3, none⟩ = some (.slice u7_a u7_n u7_c) := XB8.out.cell 3
  try clear cB11_0
  have cB11_0 : World.cell? (w16) ⟨w8.heap.size, 0, none⟩ = some (.int .i64 aP_At) := XB11.out.cell 0
  try clear cB11_1
  have cB11_1 : World.cell? (w16) ⟨w8.heap.size, 1, none⟩ = some (.int .i64 (Ph.pickF aP_Crew_L aP_Food aN)) := XB11.out.cell 1
  try clear cB11_2
  have cB11_2 : World.cell? (w16) ⟨w8.heap.size, 2, none⟩ = some (.slice u9_a u9_n u9_c) := XB11.out.cell 2
  try clear cB11_3
  have cB11_3 : World.cell? (w16) ⟨w8.heap.size, 3, none⟩ = some (.slice u10_a u10_n u10_c) := XB11.out.cell 3
  go_wp2_with fail
  refine (PartyL.heldParty_any w16 aP_At (Ph.pickF aP_Crew_L aP_Food aN) _ _ (1) (aP_Crew_L).length (aP_Past_L).length (Ou9.out.sees) (Ou10.out.sees) (by (try simp only [LawsBo.marksB_len, LawsM.marksM_len]); omega)).mono ?_
  rintro e w17 ⟨rfl, hg⟩
  have HB19 := Lib.hid (HB18.out.grown hg HB18.out.size (fun _ h => by cases h)); clear HB18
  have Ou3 := Lib.hid (Ou3.out.grown hg)
  have Ou4 := Lib.hid (Ou4.out.grown hg)
  have Ou9 := Lib.hid (Ou9.out.grown hg)
  have Ou10 := Lib.hid (Ou10.out.grown hg)
  have XP0 := Lib.hid (XP0.out.grown hg)
  have XB5 := Lib.hid (XB5.out.grown hg)
  have XB8 := Lib.hid (XB8.out.grown hg)
  have XB11 := Lib.hid (XB11.out.grown hg)
  clear hg
  try clear cP0_0
  have cP0_0 : World.cell? (w17) ⟨w.heap.size, 0, none⟩ = some (.int .i64 aP_At) := XP0.out.cell 0
  try clear cP0_1
  have cP0_1 : World.cell? (w17) ⟨w.heap.size, 1, none⟩ = some (.int .i64 aP_Food) := XP0.out.cell 1
  try clear cP0_2
  have cP0_2 : World.cell? (w17) ⟨w.heap.size, 2, none⟩ = some (.slice aP_Crew_a aP_Crew_L.length aP_Crew_cap) := XP0.out.cell 2
  try clear cP0_3
  have cP0_3 : World.cell? (w17) ⟨w.heap.size, 3, none⟩ = some (.slice aP_Past_a aP_Past_L.length aP_Past_cap) := XP0.out.cell 3
  try clear cB5_0
  have cB5_0 : World.cell? (w17) ⟨w4.heap.size, 0, none⟩ = some (.int .i64 aP_At) := XB5.out.cell 0
  try clear cB5_1
  have cB5_1 : World.cell? (w17) ⟨w4.heap.size, 1, none⟩ = some (.int .i64 (Ph.pickF aP_Crew_L aP_Food aN)) := XB5.out.cell 1
  try clear cB5_2
  have cB5_2 : World.cell? (w17) ⟨w4.heap.size, 2, none⟩ = some (.slice u3_a u3_n u3_c) := XB5.out.cell 2
  try clear cB5_3
  have cB5_3 : World.cell? (w17) ⟨w4.heap.size, 3, none⟩ = some (.slice u4_a u4_n u4_c) := XB5.out.cell 3
  try clear cB8_0
  have cB8_0 : World.cell? (w17) ⟨w6.heap.size, 0, none⟩ = some (.int .i64 aP_At) := XB8.out.cell 0
  try clear cB8_1
  have cB8_1 : World.cell? (w17) ⟨w6.heap.size, 1, none⟩ = some (.int .i64 aP_Food) := XB8.out.cell 1
  try clear cB8_2
  have cB8_2 : World.cell? (w17) ⟨w6.heap.size, 2, none⟩ = some (.slice u6_a u6_n u6_c) := XB8.out.cell 2
  try clear cB8_3
  have cB8_3 : World.cell? (w17) ⟨w6.heap.size, 3, none⟩ = some (.slice u7_a u7_n u7_c) := XB8.out.cell 3
  try clear cB11_0
  have cB11_0 : World.cell? (w17) ⟨w8.heap.size, 0, none⟩ = some (.int .i64 aP_At) := XB11.out.cell 0
  try clear cB11_1
  have cB11_1 : World.cell? (w17) ⟨w8.heap.size, 1, none⟩ = some (.int .i64 (Ph.pickF aP_Crew_L aP_Food aN)) := XB11.out.cell 1
  try clear cB11_2
  have cB11_2 : World.cell? (w17) ⟨w8.heap.size, 2, none⟩ = some (.slice u9_a u9_n u9_c) := XB11.out.cell 2
  try clear cB11_3
  have cB11_3 : World.cell? (w17) ⟨w8.heap.size, 3, none⟩ = some (.slice u10_a u10_n u10_c) := XB11.out.cell 3
  go_wp2_with fail
  refine (PartyL.toParty_any w17 aP_At aP_Food _ _ _ _ (aP_Crew_S.out.below HB19.out) (aP_Past_S.out.below HB19.out) (by omega) (by omega)).mono ?_
  rintro e w18 ⟨u14, u15, rfl, ho1, ho2, hap, hg⟩
  have A_u14_u3 := Lib.hid (Rg.apart_lt ho1.lt Ou3.out.lt (Nat.le_refl _))
  have A_u14_u4 := Lib.hid (Rg.apart_lt ho1.lt Ou4.out.lt (Nat.le_refl _))
  have A_u14_u9 := Lib.hid (Rg.apart_lt ho1.lt Ou9.out.lt (Nat.le_refl _))
  have A_u14_u10 := Lib.hid (Rg.apart_lt ho1.lt Ou10.out.lt (Nat.le_refl _))
  have D_u14_P0 := Lib.hid (ho1.off XP0.out.lt)
  have D_u14_B5 := Lib.hid (ho1.off XB5.out.lt)
  have D_u14_B8 := Lib.hid (ho1.off XB8.out.lt)
  have D_u14_B11 := Lib.hid (ho1.off XB11.out.lt)
  have Ou14 := Lib.hid (ho1.lower HB19.out.size)
  have A_u15_u3 := Lib.hid (Rg.apart_lt ho2.lt Ou3.out.lt (Nat.le_refl _))
  have A_u15_u4 := Lib.hid (Rg.apart_lt ho2.lt Ou4.out.lt (Nat.le_refl _))
  have A_u15_u9 := Lib.hid (Rg.apart_lt ho2.lt Ou9.out.lt (Nat.le_refl _))
  have A_u15_u10 := Lib.hid (Rg.apart_lt ho2.lt Ou10.out.lt (Nat.le_refl _))
  have D_u15_P0 := Lib.hid (ho2.off XP0.out.lt)
  have D_u15_B5 := Lib.hid (ho2.off XB5.out.lt)
  have D_u15_B8 := Lib.hid (ho2.off XB8.out.lt)
  have D_u15_B11 := Lib.hid (ho2.off XB11.out.lt)
  have Ou15 := Lib.hid (ho2.lower HB19.out.size)
  have A_u15_u14 := Lib.hid hap
  have HB20 := Lib.hid (HB19.out.grown hg HB19.out.size (fun _ h => by cases h)); clear HB19
  have Ou3 := Lib.hid (Ou3.out.grown hg)
  have Ou4 := Lib.hid (Ou4.out.grown hg)
  have Ou9 := Lib.hid (Ou9.out.grown hg)
  have Ou10 := Lib.hid (Ou10.out.grown hg)
  have XP0 := Lib.hid (XP0.out.grown hg)
  have XB5 := Lib.hid (XB5.out.grown hg)
  have XB8 := Lib.hid (XB8.out.grown hg)
  have XB11 := Lib.hid (XB11.out.grown hg)
  clear ho1 ho2 hap hg
  try clear cP0_0
  have cP0_0 : World.cell? (w18) ⟨w.heap.size, 0, none⟩ = some (.int .i64 aP_At) := XP0.out.cell 0
  try clear cP0_1
  have cP0_1 : World.cell? (w18) ⟨w.heap.size, 1, none⟩ = some (.int .i64 aP_Food) := XP0.out.cell 1
  try clear cP0_2
  have cP0_2 : World.cell? (w18) ⟨w.heap.size, 2, none⟩ = some (.slice aP_Crew_a aP_Crew_L.length aP_Crew_cap) := XP0.out.cell 2
  try clear cP0_3
  have cP0_3 : World.cell? (w18) ⟨w.heap.size, 3, none⟩ = some (.slice aP_Past_a aP_Past_L.length aP_Past_cap) := XP0.out.cell 3
  try clear cB5_0
  have cB5_0 : World.cell? (w18) ⟨w4.heap.size, 0, none⟩ = some (.int .i64 aP_At) := XB5.out.cell 0
  try clear cB5_1
  have cB5_1 : World.cell? (w18) ⟨w4.heap.size, 1, none⟩ = some (.int .i64 (Ph.pickF aP_Crew_L aP_Food aN)) := XB5.out.cell 1
  try clear cB5_2
  have cB5_2 : World.cell? (w18) ⟨w4.heap.size, 2, none⟩ = some (.slice u3_a u3_n u3_c) := XB5.out.cell 2
  try clear cB5_3
  have cB5_3 : World.cell? (w18) ⟨w4.heap.size, 3, none⟩ = some (.slice u4_a u4_n u4_c) := XB5.out.cell 3
  try clear cB8_0
  have cB8_0 : World.cell? (w18) ⟨w6.heap.size, 0, none⟩ = some (.int .i64 aP_At) := XB8.out.cell 0
  try clear cB8_1
  have cB8_1 : World.cell? (w18) ⟨w6.heap.size, 1, none⟩ = some (.int .i64 aP_Food) := XB8.out.cell 1
  try clear cB8_2
  have cB8_2 : World.cell? (w18) ⟨w6.heap.size, 2, none⟩ = some (.slice u6_a u6_n u6_c) := XB8.out.cell 2
  try clear cB8_3
  have cB8_3 : World.cell? (w18) ⟨w6.heap.size, 3, none⟩ = some (.slice u7_a u7_n u7_c) := XB8.out.cell 3
  try clear cB11_0
  have cB11_0 : World.cell? (w18) ⟨w8.heap.size, 0, none⟩ = some (.int .i64 aP_At) := XB11.out.cell 0
  try clear cB11_1
  have cB11_1 : World.cell? (w18) ⟨w8.heap.size, 1, none⟩ = some (.int .i64 (Ph.pickF aP_Crew_L aP_Food aN)) := XB11.out.cell 1
  try clear cB11_2
  have cB11_2 : World.cell? (w18) ⟨w8.heap.size, 2, none⟩ = some (.slice u9_a u9_n u9_c) := XB11.out.cell 2
  try clear cB11_3
  have cB11_3 : World.cell? (w18) ⟨w8.heap.size, 3, none⟩ = some (.slice u10_a u10_n u10_c) := XB11.out.cell 3
  go_wp2_with fail
  refine (Ph.iPickL w18 aP_At aP_Food aN _ _ aP_Crew_L aP_Past_L aP_Food_H.out (Ou14.out.sees) (Ou15.out.sees) (by omega) (by omega)).mono ?_
  rintro e w19 ⟨u16, u17, rfl, ho1, ho2, hap, hg⟩
  have A_u16_u3 := Lib.hid (Rg.apart_lt ho1.lt Ou3.out.lt (Nat.le_refl _))
  have A_u16_u4 := Lib.hid (Rg.apart_lt ho1.lt Ou4.out.lt (Nat.le_refl _))
  have A_u16_u9 := Lib.hid (Rg.apart_lt ho1.lt Ou9.out.lt (Nat.le_refl _))
  have A_u16_u10 := Lib.hid (Rg.apart_lt ho1.lt Ou10.out.lt (Nat.le_refl _))
  have A_u16_u14 := Lib.hid (Rg.apart_lt ho1.lt Ou14.out.lt (Nat.le_refl _))
  have A_u16_u15 := Lib.hid (Rg.apart_lt ho1.lt Ou15.out.lt (Nat.le_refl _))
  have D_u16_P0 := Lib.hid (ho1.off XP0.out.lt)
  have D_u16_B5 := Lib.hid (ho1.off XB5.out.lt)
  have D_u16_B8 := Lib.hid (ho1.off XB8.out.lt)
  have D_u16_B11 := Lib.hid (ho1.off XB11.out.lt)
  have Ou16 := Lib.hid (ho1.lower HB20.out.size)
  have A_u17_u3 := Lib.hid (Rg.apart_lt ho2.lt Ou3.out.lt (Nat.le_refl _))
  have A_u17_u4 := Lib.hid (Rg.apart_lt ho2.lt Ou4.out.lt (Nat.le_refl _))
  have A_u17_u9 := Lib.hid (Rg.apart_lt ho2.lt Ou9.out.lt (Nat.le_refl _))
  have A_u17_u10 := Lib.hid (Rg.apart_lt ho2.lt Ou10.out.lt (Nat.le_refl _))
  have A_u17_u14 := Lib.hid (Rg.apart_lt ho2.lt Ou14.out.lt (Nat.le_refl _))
  have A_u17_u15 := Lib.hid (Rg.apart_lt ho2.lt Ou15.out.lt (Nat.le_refl _))
  have D_u17_P0 := Lib.hid (ho2.off XP0.out.lt)
  have D_u17_B5 := Lib.hid (ho2.off XB5.out.lt)
  have D_u17_B8 := Lib.hid (ho2.off XB8.out.lt)
  have D_u17_B11 := Lib.hid (ho2.off XB11.out.lt)
  have Ou17 := Lib.hid (ho2.lower HB20.out.size)
  have A_u17_u16 := Lib.hid hap
  have HB21 := Lib.hid (HB20.out.grown hg HB20.out.size (fun _ h => by cases h)); clear HB20
  have Ou3 := Lib.hid (Ou3.out.grown hg)
  have Ou4 := Lib.hid (Ou4.out.grown hg)
  have Ou9 := Lib.hid (Ou9.out.grown hg)
  have Ou10 := Lib.hid (Ou10.out.grown hg)
  have Ou14 := Lib.hid (Ou14.out.grown hg)
  have Ou15 := Lib.hid (Ou15.out.grown hg)
  have XP0 := Lib.hid (XP0.out.grown hg)
  have XB5 := Lib.hid (XB5.out.grown hg)
  have XB8 := Lib.hid (XB8.out.grown hg)
  have XB11 := Lib.hid (XB11.out.grown hg)
  clear ho1 ho2 hap hg
  clear Ou14
  clear Ou15
  obtain ⟨u16_a, u16_n, u16_c, hu16, Nu16⟩ := Ou16.out.sees.shape; subst hu16
  obtain ⟨u17_a, u17_n, u17_c, hu17, Nu17⟩ := Ou17.out.sees.shape; subst hu17
  have hgb := World.grownBy_alloc w19 (.cells #[.int .i64 aP_At, .int .i64 (Ph.pickF aP_Crew_L aP_Food aN), .slice u16_a u16_n u16_c, .slice u17_a u17_n u17_c] 37 (0, 0)) none
  have D_u3_B18 := Lib.hid (Ou3.out.off' (Nat.le_refl _))
  have D_u4_B18 := Lib.hid (Ou4.out.off' (Nat.le_refl _))
  have D_u9_B18 := Lib.hid (Ou9.out.off' (Nat.le_refl _))
  have D_u10_B18 := Lib.hid (Ou10.out.off' (Nat.le_refl _))
  have D_u16_B18 := Lib.hid (Ou16.out.off' (Nat.le_refl _))
  have D_u17_B18 := Lib.hid (Ou17.out.off' (Nat.le_refl _))
  have HB22 := Lib.hid (HB21.out.grown hgb HB21.out.size (fun _ h => by cases h)); clear HB21
  have Ou3 := Lib.hid (Ou3.out.grown hgb)
  have Ou4 := Lib.hid (Ou4.out.grown hgb)
  have Ou9 := Lib.hid (Ou9.out.grown hgb)
  have Ou10 := Lib.hid (Ou10.out.grown hgb)
  have Ou16 := Lib.hid (Ou16.out.grown hgb)
  have Ou17 := Lib.hid (Ou17.out.grown hgb)
  have XP0 := Lib.hid (XP0.out.grown hgb)
  have XB5 := Lib.hid (XB5.out.grown hgb)
  have XB8 := Lib.hid (XB8.out.grown hgb)
  have XB11 := Lib.hid (XB11.out.grown hgb)
  have XB18 := Lib.hid (box_new w19 #[.int .i64 aP_At, .int .i64 (Ph.pickF aP_Crew_L aP_Food aN), .slice u16_a u16_n u16_c, .slice u17_a u17_n u17_c] 37); clear hgb
  try clear cP0_0
  have cP0_0 : World.cell? (w19.alloc (.cells #[.int .i64 aP_At, .int .i64 (Ph.pickF aP_Crew_L aP_Food aN), .slice u16_a u16_n u16_c, .slice u17_a u17_n u17_c] 37 (0, 0))) ⟨w.heap.size, 0, none⟩ = some (.int .i64 aP_At) := XP0.out.cell 0
  try clear cP0_1
  have cP0_1 : World.cell? (w19.alloc (.cells #[.int .i64 aP_At, .int .i64 (Ph.pickF aP_Crew_L aP_Food aN), .slice u16_a u16_n u16_c, .slice u17_a u17_n u17_c] 37 (0, 0))) ⟨w.heap.size, 1, none⟩ = some (.int .i64 aP_Food) := XP0.out.cell 1
  try clear cP0_2
  have cP0_2 : World.cell? (w19.alloc (.cells #[.int .i64 aP_At, .int .i64 (Ph.pickF aP_Crew_L aP_Food aN), .slice u16_a u16_n u16_c, .slice u17_a u17_n u17_c] 37 (0, 0))) ⟨w.heap.size, 2, none⟩ = some (.slice aP_Crew_a aP_Crew_L.length aP_Crew_cap) := XP0.out.cell 2
  try clear cP0_3
  have cP0_3 : World.cell? (w19.alloc (.cells #[.int .i64 aP_At, .int .i64 (Ph.pickF aP_Crew_L aP_Food aN), .slice u16_a u16_n u16_c, .slice u17_a u17_n u17_c] 37 (0, 0))) ⟨w.heap.size, 3, none⟩ = some (.slice aP_Past_a aP_Past_L.length aP_Past_cap) := XP0.out.cell 3
  try clear cB5_0
  have cB5_0 : World.cell? (w19.alloc (.cells #[.int .i64 aP_At, .int .i64 (Ph.pickF aP_Crew_L aP_Food aN), .slice u16_a u16_n u16_c, .slice u17_a u17_n u17_c] 37 (0, 0))) ⟨w4.heap.size, 0, none⟩ = some (.int .i64 aP_At) := XB5.out.cell 0
  try clear cB5_1
  have cB5_1 : World.cell? (w19.alloc (.cells #[.int .i64 aP_At, .int .i64 (Ph.pickF aP_Crew_L aP_Food aN), .slice u16_a u16_n u16_c, .slice u17_a u17_n u17_c] 37 (0, 0))) ⟨w4.heap.size, 1, none⟩ = some (.int .i64 (Ph.pickF aP_Crew_L aP_Food aN)) := XB5.out.cell 1
  try clear cB5_2
  have cB5_2 : World.cell? (w19.alloc (.cells #[.int .i64 aP_At, .int .i64 (Ph.pickF aP_Crew_L aP_Food aN), .slice u16_a u16_n u16_c, .slice u17_a u17_n u17_c] 37 (0, 0))) ⟨w4.heap.size, 2, none⟩ = some (.slice u3_a u3_n u3_c) := XB5.out.cell 2
  try clear cB5_3
  have cB5_3 : World.cell? (w19.alloc (.cells #[.int .i64 aP_At, .int .i64 (Ph.pickF aP_Crew_L aP_Food aN), .slice u16_a u16_n u16_c, .slice u17_a u17_n u17_c] 37 (0, 0))) ⟨w4.heap.size, 3, none⟩ = some (.slice u4_a u4_n u4_c) := XB5.out.cell 3
  try clear cB8_0
  have cB8_0 : World.cell? (w19.alloc (.cells #[.int .i64 aP_At, .int .i64 (Ph.pickF aP_Crew_L aP_Food aN), .slice u16_a u16_n u16_c, .slice u17_a u17_n u17_c] 37 (0, 0))) ⟨w6.heap.size, 0, none⟩ = some (.int .i64 aP_At) := XB8.out.cell 0
  try clear cB8_1
  have cB8_1 : World.cell? (w19.alloc (.cells #[.int .i64 aP_At, .int .i64 (Ph.pickF aP_Crew_L aP_Food aN), .slice u16_a u16_n u16_c, .slice u17_a u17_n u17_c] 37 (0, 0))) ⟨w6.heap.size, 1, none⟩ = some (.int .i64 aP_Food) := XB8.out.cell 1
  try clear cB8_2
  have cB8_2 : World.cell? (w19.alloc (.cells #[.int .i64 aP_At, .int .i64 (Ph.pickF aP_Crew_L aP_Food aN), .slice u16_a u16_n u16_c, .slice u17_a u17_n u17_c] 37 (0, 0))) ⟨w6.heap.size, 2, none⟩ = some (.slice u6_a u6_n u6_c) := XB8.out.cell 2
  try clear cB8_3
  have cB8_3 : World.cell? (w19.alloc (.cells #[.int .i64 aP_At, .int .i64 (Ph.pickF aP_Crew_L aP_Food aN), .slice u16_a u16_n u16_c, .slice u17_a u17_n u17_c] 37 (0, 0))) ⟨w6.heap.size, 3, none⟩ = some (.slice u7_a u7_n u7_c) := XB8.out.cell 3
  try clear cB11_0
  have cB11_0 : World.cell? (w19.alloc (.cells #[.int .i64 aP_At, .int .i64 (Ph.pickF aP_Crew_L aP_Food aN), .slice u16_a u16_n u16_c, .slice u17_a u17_n u17_c] 37 (0, 0))) ⟨w8.heap.size, 0, none⟩ = some (.int .i64 aP_At) := XB11.out.cell 0
  try clear cB11_1
  have cB11_1 : World.cell? (w19.alloc (.cells #[.int .i64 aP_At, .int .i64 (Ph.pickF aP_Crew_L aP_Food aN), .slice u16_a u16_n u16_c, .slice u17_a u17_n u17_c] 37 (0, 0))) ⟨w8.heap.size, 1, none⟩ = some (.int .i64 (Ph.pickF aP_Crew_L aP_Food aN)) := XB11.out.cell 1
  try clear cB11_2
  have cB11_2 : World.cell? (w19.alloc (.cells #[.int .i64 aP_At, .int .i64 (Ph.pickF aP_Crew_L aP_Food aN), .slice u16_a u16_n u16_c, .slice u17_a u17_n u17_c] 37 (0, 0))) ⟨w8.heap.size, 2, none⟩ = some (.slice u9_a u9_n u9_c) := XB11.out.cell 2
  try clear cB11_3
  have cB11_3 : World.cell? (w19.alloc (.cells #[.int .i64 aP_At, .int .i64 (Ph.pickF aP_Crew_L aP_Food aN), .slice u16_a u16_n u16_c, .slice u17_a u17_n u17_c] 37 (0, 0))) ⟨w8.heap.size, 3, none⟩ = some (.slice u10_a u10_n u10_c) := XB11.out.cell 3
  try clear cB18_0
  have cB18_0 : World.cell? (w19.alloc (.cells #[.int .i64 aP_At, .int .i64 (Ph.pickF aP_Crew_L aP_Food aN), .slice u16_a u16_n u16_c, .slice u17_a u17_n u17_c] 37 (0, 0))) ⟨w19.heap.size, 0, none⟩ = some (.int .i64 aP_At) := XB18.out.cell 0
  try clear cB18_1
  have cB18_1 : World.cell? (w19.alloc (.cells #[.int .i64 aP_At, .int .i64 (Ph.pickF aP_Crew_L aP_Food aN), .slice u16_a u16_n u16_c, .slice u17_a u17_n u17_c] 37 (0, 0))) ⟨w19.heap.size, 1, none⟩ = some (.int .i64 (Ph.pickF aP_Crew_L aP_Food aN)) := XB18.out.cell 1
  try clear cB18_2
  have cB18_2 : World.cell? (w19.alloc (.cells #[.int .i64 aP_At, .int .i64 (Ph.pickF aP_Crew_L aP_Food aN), .slice u16_a u16_n u16_c, .slice u17_a u17_n u17_c] 37 (0, 0))) ⟨w19.heap.size, 2, none⟩ = some (.slice u16_a u16_n u16_c) := XB18.out.cell 2
  try clear cB18_3
  have cB18_3 : World.cell? (w19.alloc (.cells #[.int .i64 aP_At, .int .i64 (Ph.pickF aP_Crew_L aP_Food aN), .slice u16_a u16_n u16_c, .slice u17_a u17_n u17_c] 37 (0, 0))) ⟨w19.heap.size, 3, none⟩ = some (.slice u17_a u17_n u17_c) := XB18.out.cell 3
  go_wp2_with fail
  generalize w19.alloc (.cells #[.int .i64 aP_At, .int .i64 (Ph.pickF aP_Crew_L aP_Food aN), .slice u16_a u16_n u16_c, .slice u17_a u17_n u17_c] 37 (0, 0)) = w20 at *
  refine (PartyL.eqParty_same w20 aP_At (Ph.pickF aP_Crew_L aP_Food aN) _ _ _ _ _ _ (Ou16.out.sees) (Ou17.out.sees) (Ou3.out.sees) (Ou4.out.sees)).mono ?_
  rintro e w21 ⟨rfl, hg⟩
  have HB23 := Lib.hid (HB22.out.grown hg HB22.out.size (fun _ h => by cases h)); clear HB22
  have Ou3 := Lib.hid (Ou3.out.grown hg)
  have Ou4 := Lib.hid (Ou4.out.grown hg)
  have Ou9 := Lib.hid (Ou9.out.grown hg)
  have Ou10 := Lib.hid (Ou10.out.grown hg)
  have Ou16 := Lib.hid (Ou16.out.grown hg)
  have Ou17 := Lib.hid (Ou17.out.grown hg)
  have XP0 := Lib.hid (XP0.out.grown hg)
  have XB5 := Lib.hid (XB5.out.grown hg)
  have XB8 := Lib.hid (XB8.out.grown hg)
  have XB11 := Lib.hid (XB11.out.grown hg)
  have XB18 := Lib.hid (XB18.out.grown hg)
  clear hg
  clear Ou3
  clear Ou4
  clear Ou16
  clear Ou17
  try clear cP0_0
  have cP0_0 : World.cell? (w21) ⟨w.heap.size, 0, none⟩ = some (.int .i64 aP_At) := XP0.out.cell 0
  try clear cP0_1
  have cP0_1 : World.cell? (w21) ⟨w.heap.size, 1, none⟩ = some (.int .i64 aP_Food) := XP0.out.cell 1
  try clear cP0_2
  have cP0_2 : World.cell? (w21) ⟨w.heap.size, 2, none⟩ = some (.slice aP_Crew_a aP_Crew_L.length aP_Crew_cap) := XP0.out.cell 2
  try clear cP0_3
  have cP0_3 : World.cell? (w21) ⟨w.heap.size, 3, none⟩ = some (.slice aP_Past_a aP_Past_L.length aP_Past_cap) := XP0.out.cell 3
  try clear cB5_0
  have cB5_0 : World.cell? (w21) ⟨w4.heap.size, 0, none⟩ = some (.int .i64 aP_At) := XB5.out.cell 0
  try clear cB5_1
  have cB5_1 : World.cell? (w21) ⟨w4.heap.size, 1, none⟩ = some (.int .i64 (Ph.pickF aP_Crew_L aP_Food aN)) := XB5.out.cell 1
  try clear cB5_2
  have cB5_2 : World.cell? (w21) ⟨w4.heap.size, 2, none⟩ = some (.slice u3_a u3_n u3_c) := XB5.out.cell 2
  try clear cB5_3
  have cB5_3 : World.cell? (w21) ⟨w4.heap.size, 3, none⟩ = some (.slice u4_a u4_n u4_c) := XB5.out.cell 3
  try clear cB8_0
  have cB8_0 : World.cell? (w21) ⟨w6.heap.size, 0, none⟩ = some (.int .i64 aP_At) := XB8.out.cell 0
  try clear cB8_1
  have cB8_1 : World.cell? (w21) ⟨w6.heap.size, 1, none⟩ = some (.int .i64 aP_Food) := XB8.out.cell 1
  try clear cB8_2
  have cB8_2 : World.cell? (w21) ⟨w6.heap.size, 2, none⟩ = some (.slice u6_a u6_n u6_c) := XB8.out.cell 2
  try clear cB8_3
  have cB8_3 : World.cell? (w21) ⟨w6.heap.size, 3, none⟩ = some (.slice u7_a u7_n u7_c) := XB8.out.cell 3
  try clear cB11_0
  have cB11_0 : World.cell? (w21) ⟨w8.heap.size, 0, none⟩ = some (.int .i64 aP_At) := XB11.out.cell 0
  try clear cB11_1
  have cB11_1 : World.cell? (w21) ⟨w8.heap.size, 1, none⟩ = some (.int .i64 (Ph.pickF aP_Crew_L aP_Food aN)) := XB11.out.cell 1
  try clear cB11_2
  have cB11_2 : World.cell? (w21) ⟨w8.heap.size, 2, none⟩ = some (.slice u9_a u9_n u9_c) := XB11.out.cell 2
  try clear cB11_3
  have cB11_3 : World.cell? (w21) ⟨w8.heap.size, 3, none⟩ = some (.slice u10_a u10_n u10_c) := XB11.out.cell 3
  try clear cB18_0
  have cB18_0 : World.cell? (w21) ⟨w19.heap.size, 0, none⟩ = some (.int .i64 aP_At) := XB18.out.cell 0
  try clear cB18_1
  have cB18_1 : World.cell? (w21) ⟨w19.heap.size, 1, none⟩ = some (.int .i64 (Ph.pickF aP_Crew_L aP_Food aN)) := XB18.out.cell 1
  try clear cB18_2
  have cB18_2 : World.cell? (w21) ⟨w19.heap.size, 2, none⟩ = some (.slice u16_a u16_n u16_c) := XB18.out.cell 2
  try clear cB18_3
  have cB18_3 : World.cell? (w21) ⟨w19.heap.size, 3, none⟩ = some (.slice u17_a u17_n u17_c) := XB18.out.cell 3
  go_wp2_with fail
  refine (PartyL.heldParty_any w21 aP_At (Ph.pickF aP_Crew_L aP_Food aN) _ _ (1) (aP_Crew_L).length (aP_Past_L).length (Ou9.out.sees) (Ou10.out.sees) (by (try simp only [LawsBo.marksB_len, LawsM.marksM_len]); omega)).mono ?_
  rintro e w22 ⟨rfl, hg⟩
  have HB24 := Lib.hid (HB23.out.grown hg HB23.out.size (fun _ h => by cases h)); clear HB23
  have Ou9 := Lib.hid (Ou9.out.grown hg)
  have Ou10 := Lib.hid (Ou10.out.grown hg)
  have XP0 := Lib.hid (XP0.out.grown hg)
  have XB5 := Lib.hid (XB5.out.grown hg)
  have XB8 := Lib.hid (XB8.out.grown hg)
  have XB11 := Lib.hid (XB11.out.grown hg)
  have XB18 := Lib.hid (XB18.out.grown hg)
  clear hg
  clear Ou9
  clear Ou10
  try clear cP0_0
  have cP0_0 : World.cell? (w22) ⟨w.heap.size, 0, none⟩ = some (.int .i64 aP_At) := XP0.out.cell 0
  try clear cP0_1
  have cP0_1 : World.cell? (w22) ⟨w.heap.size, 1, none⟩ = some (.int .i64 aP_Food) := XP0.out.cell 1
  try clear cP0_2
  have cP0_2 : World.cell? (w22) ⟨w.heap.size, 2, none⟩ = some (.slice aP_Crew_a aP_Crew_L.length aP_Crew_cap) := XP0.out.cell 2
  try clear cP0_3
  have cP0_3 : World.cell? (w22) ⟨w.heap.size, 3, none⟩ = some (.slice aP_Past_a aP_Past_L.length aP_Past_cap) := XP0.out.cell 3
  try clear cB5_0
  have cB5_0 : World.cell? (w22) ⟨w4.heap.size, 0, none⟩ = some (.int .i64 aP_At) := XB5.out.cell 0
  try clear cB5_1
  have cB5_1 : World.cell? (w22) ⟨w4.heap.size, 1, none⟩ = some (.int .i64 (Ph.pickF aP_Crew_L aP_Food aN)) := XB5.out.cell 1
  try clear cB5_2
  have cB5_2 : World.cell? (w22) ⟨w4.heap.size, 2, none⟩ = some (.slice u3_a u3_n u3_c) := XB5.out.cell 2
  try clear cB5_3
  have cB5_3 : World.cell? (w22) ⟨w4.heap.size, 3, none⟩ = some (.slice u4_a u4_n u4_c) := XB5.out.cell 3
  try clear cB8_0
  have cB8_0 : World.cell? (w22) ⟨w6.heap.size, 0, none⟩ = some (.int .i64 aP_At) := XB8.out.cell 0
  try clear cB8_1
  have cB8_1 : World.cell? (w22) ⟨w6.heap.size, 1, none⟩ = some (.int .i64 aP_Food) := XB8.out.cell 1
  try clear cB8_2
  have cB8_2 : World.cell? (w22) ⟨w6.heap.size, 2, none⟩ = some (.slice u6_a u6_n u6_c) := XB8.out.cell 2
  try clear cB8_3
  have cB8_3 : World.cell? (w22) ⟨w6.heap.size, 3, none⟩ = some (.slice u7_a u7_n u7_c) := XB8.out.cell 3
  try clear cB11_0
  have cB11_0 : World.cell? (w22) ⟨w8.heap.size, 0, none⟩ = some (.int .i64 aP_At) := XB11.out.cell 0
  try clear cB11_1
  have cB11_1 : World.cell? (w22) ⟨w8.heap.size, 1, none⟩ = some (.int .i64 (Ph.pickF aP_Crew_L aP_Food aN)) := XB11.out.cell 1
  try clear cB11_2
  have cB11_2 : World.cell? (w22) ⟨w8.heap.size, 2, none⟩ = some (.slice u9_a u9_n u9_c) := XB11.out.cell 2
  try clear cB11_3
  have cB11_3 : World.cell? (w22) ⟨w8.heap.size, 3, none⟩ = some (.slice u10_a u10_n u10_c) := XB11.out.cell 3
  try clear cB18_0
  have cB18_0 : World.cell? (w22) ⟨w19.heap.size, 0, none⟩ = some (.int .i64 aP_At) := XB18.out.cell 0
  try clear cB18_1
  have cB18_1 : World.cell? (w22) ⟨w19.heap.size, 1, none⟩ = some (.int .i64 (Ph.pickF aP_Crew_L aP_Food aN)) := XB18.out.cell 1
  try clear cB18_2
  have cB18_2 : World.cell? (w22) ⟨w19.heap.size, 2, none⟩ = some (.slice u16_a u16_n u16_c) := XB18.out.cell 2
  try clear cB18_3
  have cB18_3 : World.cell? (w22) ⟨w19.heap.size, 3, none⟩ = some (.slice u17_a u17_n u17_c) := XB18.out.cell 3
  go_wp2
  go_ret
  exact ⟨rfl, HB24.out⟩

set_option maxRecDepth 100000 in
/-- What the walk gives, for every argument. -/
theorem contract (H : Type) (enc : TypeId × Value → H) (W : World) (base : Nat) (args : Array Value) (ds gs : List (DataW H)) (before : List MemPlace)
    (hval : ∀ (j : Nat) t v, Try.f5.params[j]? = some t → args[j]? = some v → Value.okWide Try.prog W .any base t v)
    (hW : DataW.Whole enc Try.prog Try.f5.params.toList Rows.fnExactPickUpSpec.vars false W args.toList ds gs before) :
    Calls Try.prog 5 args W fun e W' => ∃ v, e = .returned v ∧ Rows.fnExactPickUpSpec.post enc Try.prog Try.f5 false true false false W args v W' := by
  have hW' := hW
  obtain ⟨p, q, hA0, hV, rfl, hfz, hnd⟩ := hW
  have hA : DataW.TrodAll enc Try.prog W 0 (fun _ => true) true Try.f5.params.toList args.toList ds p := hA0
  rw [Try.params5] at hA hval
  obtain ⟨v0, vs0, d0, ds0, p0, q0, hargs, rfl, rfl, h0, r0⟩ := trodAll_cons hA
  obtain ⟨v1, vs1, d1, ds1, p1, q1, rfl, rfl, rfl, h1, r1⟩ := trodAll_cons r0
  obtain ⟨rfl, rfl, rfl⟩ := trodAll_nil r1
  obtain rfl : args = #[v0, v1] := by cases args; simp_all
  obtain ⟨rfl, rfl⟩ := trodVars_none hV
  have k0 := h0
  have lt0 : ∀ x ∈ p0, x.block < W.heap.size := by obtain ⟨m, hm⟩ := k0; exact DataW.trod_lt m _ _ _ hm
  obtain ⟨f0_0, f0_1, f0_2, f0_3, y0_0, y0_1, y0_2, y0_3, fn0, rfl, rfl, rfl, g0_0, g0_1, g0_2, g0_3⟩ := Go.Joins.open_agg4 Try.underlying32 (by kernel_rfl) (by kernel_rfl) (hval 0 32 v0 rfl rfl) h0
  obtain ⟨x0_0, rfl, w0_0⟩ := Kit.field_int Try.underlying3 g0_0
  obtain ⟨x0_1, rfl, w0_1⟩ := Kit.field_int Try.underlying3 g0_1
  obtain ⟨a0_2, l0_2, c0_2, z0_2, rfl, w0_2⟩ := Rg.field_rowG (e := Rg.encM) Try.underlying29 (by kernel_rfl) (Rg.encM_open Try.underlying94 (by kernel_rfl) Try.underlying3 Try.underlying3 Try.underlying3 Try.underlying4) g0_2
  obtain ⟨a0_3, l0_3, c0_3, z0_3, rfl, w0_3⟩ := Rg.field_rowG (e := Rg.encB) Try.underlying30 (by kernel_rfl) (Rg.encB_open Try.underlying4) g0_3
  obtain ⟨a1, rfl, rfl, rfl, w1⟩ := open_int Try.underlying3 (hval 1 3 v1 rfl rfl) h1
  clear hA0
  refine (walk W x0_0 w0_0 x0_1 w0_1 a0_2 l0_2 c0_2 z0_2 w0_2 a0_3 l0_3 c0_3 z0_3 w0_3 a1 w1).mono fun e W' ⟨he, bel⟩ => ?_
  subst he
  exact ⟨_, rfl, _, _, _, [], _, [], hW', trodAll_mk1 (shut_bool Try.underlying4 _), (trodAll_cons_mk (Below.trod laidOut (by kernel_rfl) (of_decide_eq_true (by kernel_rfl)) k0 bel lt0) (trodAll_cons_mk (shut_int Try.underlying3 w1) trodAll_mk0)), rfl, bel.frame _, fun h => by cases h⟩

noncomputable def laidWorld (os : Os) : World := World.holding Try.prog os ⟨#[], #[], []⟩
theorem reads (os : Os) {H : Type} (enc : TypeId × Value → H) : ∃ places, DataW.whole enc Try.prog ((laidWorld os).forCall (fun _ _ => 0) ⟨#[], #[.agg #[.int .i64 0, .int .i64 0, .slice none 0 0, .slice none 0 0], .int .i64 0], []⟩).memory Try.f5.params.toList Rows.fnExactPickUpSpec.vars false (#[.agg #[.int .i64 0, .int .i64 0, .slice none 0 0, .slice none 0 0], .int .i64 0] : Array Value).toList 8 = some ([.agg [.lit (.int .i64 0), .lit (.int .i64 0), .nil, .nil], .lit (.int .i64 0)], [], places) :=
  ⟨[], by kernel_rfl⟩

set_option maxRecDepth 100000 in
theorem lifted (os : Os) (started : os.Started) (H : Type) (enc : TypeId × Value → H) (F : Stop.Interp) :
    ReturnsInHanded {} Try.checked os 5 .any ((OpenSpec.ofChange Rows.fnExactPickUpSpec).preRow enc Try.prog Try.f5 Rows.fnExactPickUpRow.domain false Rows.fnExactPickUpRow.laid) (((OpenSpec.ofChange Rows.fnExactPickUpSpec).at F).post enc Try.prog Try.f5 false true false false) := by
  obtain ⟨places, hx⟩ := reads os enc
  refine returnsInHanded_of_row (C := Try.checked) (s := (OpenSpec.ofChange Rows.fnExactPickUpSpec)) own started (by kernel_rfl) Try.func5
    (witness_row_at (enc := enc) (C := Try.checked) false (laidWorld os) #[.agg #[.int .i64 0, .int .i64 0, .slice none 0 0, .slice none 0 0], .int .i64 0] rfl (by kernel_rfl) (by kernel_rfl) (by kernel_rfl)
      (OpenSpec.preRow_of_cond 8 hx (by kernel_rfl) (fun k hk => by cases hk) (by kernel_rfl) (laidMetH_nil _ _))) ?_
  intro W base args ds gs before hval hW _ _ _ _ _ _
  exact contract H enc W base args ds gs before hval hW

set_option maxRecDepth 100000 in
theorem said : Rows.FnExactPickUpSaid :=
  OpenClaim.holds_of_cond 5 Try.f5 rfl rfl rfl rfl rfl rfl rfl ⟨rfl, rfl, rfl, rfl, rfl⟩ rfl rfl rfl rfl rfl (by kernel_rfl) Try.func5 (by kernel_rfl)
    (of_decide_eq_true (by kernel_rfl)) (by unfold Func.isWrapper; first | (rw [if_pos (by decide +kernel)]; kernel_rfl) | (rw [if_neg (by decide +kernel)]; exact ⟨rfl, rfl⟩))
    (fun os started H enc _ F => by rw [OpenClaim.pre_eq_preRow]; exact lifted os started H enc F)

theorem proved : Rows.FnExactPickUpSaid := said
#print axioms proved
end Go.Proofs.Ytfcjbkagofccdaa.fnExactPickUp

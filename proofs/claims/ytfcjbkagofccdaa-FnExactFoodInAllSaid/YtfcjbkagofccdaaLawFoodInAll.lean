/- The law FnExactFoodInAll: the program's FoodInAll answers as its model, for every argument; it writes into no argument, and its answer owns its memory. No condition. -/
import Derived.Deep.RegionHeld3
import Derived.Test.YtfcjbkagofccdaaRows
import Derived.Test.YtfcjbkagofccdaaFieldG
import Derived.Test.YtfcjbkagofccdaaPartyL
import Derived.Test.YtfcjbkagofccdaaLawsP
import Derived.Test.YtfcjbkagofccdaaSzP
import Derived.Test.YtfcjbkagofccdaaFia
import Derived.WalkKit
import Derived.ProofKit
import Derived.OpenShut
import Derived.ShutString
import Derived.ChangeOld
import Derived.Below
import Derived.Deep.DeepHandedRow
import Derived.Deep.DeepWitnessRowRef
import Derived.Lib.LaidTab
namespace Go.Proofs.Ytfcjbkagofccdaa.fnExactFoodInAll
open Go.ChangeShapes Go.WideShapes Go.ChangeAt Go.RowKit
open Go.ChangeMaps (open_string shut_string)
set_option linter.unusedVariables false

theorem own : ownKnob Try.prog.godebug = none := by kernel_rfl
theorem laidOut : laidOutB Try.prog = true := by kernel_rfl

open Kit Rw
set_option maxRecDepth 100000 in
set_option maxHeartbeats 4000000 in
theorem walk (w : World) (aL_a : Option Addr) (aL_len aL_cap : Nat) (aL_L : List (Int × Int)) (aL_h : aL_L.length = aL_len ∧ Rg.SeesG Rg.encP w (.slice aL_a aL_len aL_cap) aL_L) (aP_At : Int) (aP_At_h : (Lit.int .i64 aP_At).wf = true) (aP_Food : Int) (aP_Food_h : (Lit.int .i64 aP_Food).wf = true) (aP_Crew_a : Option Addr) (aP_Crew_len aP_Crew_cap : Nat) (aP_Crew_L : List Rg.Mem) (aP_Crew_h : aP_Crew_L.length = aP_Crew_len ∧ Rg.SeesG Rg.encM w (.slice aP_Crew_a aP_Crew_len aP_Crew_cap) aP_Crew_L) (aP_Past_a : Option Addr) (aP_Past_len aP_Past_cap : Nat) (aP_Past_L : List Bool) (aP_Past_h : aP_Past_L.length = aP_Past_len ∧ Rg.SeesG Rg.encB w (.slice aP_Past_a aP_Past_len aP_Past_cap) aP_Past_L) :
    Calls Try.prog 4 #[.slice aL_a aL_len aL_cap, .agg #[.int .i64 aP_At, .int .i64 aP_Food, .slice aP_Crew_a aP_Crew_len aP_Crew_cap, .slice aP_Past_a aP_Past_len aP_Past_cap]] w fun e w' => e = .returned (.bool true) ∧ Below w.heap.size w w' := by
  obtain ⟨aL_e, aL_s0⟩ := aL_h; have aL_S := Lib.hid aL_s0; have aL_len0 := aL_s0.len; subst aL_e; clear aL_s0
  obtain ⟨aP_Crew_e, aP_Crew_s0⟩ := aP_Crew_h; have aP_Crew_S := Lib.hid aP_Crew_s0; have aP_Crew_len0 := aP_Crew_s0.len; subst aP_Crew_e; clear aP_Crew_s0
  obtain ⟨aP_Past_e, aP_Past_s0⟩ := aP_Past_h; have aP_Past_S := Lib.hid aP_Past_s0; have aP_Past_len0 := aP_Past_s0.len; subst aP_Past_e; clear aP_Past_s0
  have aP_At_H := Lib.hid aP_At_h; have aP_At_b := i64_of aP_At_h; clear aP_At_h
  have aP_Food_H := Lib.hid aP_Food_h; have aP_Food_b := i64_of aP_Food_h; clear aP_Food_h
  by_cases aL_l : (aL_L.length : Int) ≤ (1048576 : Int)
  rotate_left
  ·
    have HB0 : Hid (Below w.heap.size w w) := Below.refl _ _
    have hgb := World.grownBy_alloc w (.cells #[.int .i64 aP_At, .int .i64 aP_Food, .slice aP_Crew_a aP_Crew_L.length aP_Crew_cap, .slice aP_Past_a aP_Past_L.length aP_Past_cap] 32 (0, 0)) none
    have HB1 := Lib.hid (HB0.out.grown hgb HB0.out.size (fun _ h => by cases h)); clear HB0
    have XP0 := Lib.hid (box_new w #[.int .i64 aP_At, .int .i64 aP_Food, .slice aP_Crew_a aP_Crew_L.length aP_Crew_cap, .slice aP_Past_a aP_Past_L.length aP_Past_cap] 32); clear hgb
    go_enter Try.func4, Try.ntmps4
    try clear cP0_0
    have cP0_0 : World.cell? (w.alloc (.cells #[.int .i64 aP_At, .int .i64 aP_Food, .slice aP_Crew_a aP_Crew_L.length aP_Crew_cap, .slice aP_Past_a aP_Past_L.length aP_Past_cap] 32 (0, 0))) ⟨w.heap.size, 0, none⟩ = some (.int .i64 aP_At) := XP0.out.cell 0
    try clear cP0_1
    have cP0_1 : World.cell? (w.alloc (.cells #[.int .i64 aP_At, .int .i64 aP_Food, .slice aP_Crew_a aP_Crew_L.length aP_Crew_cap, .slice aP_Past_a aP_Past_L.length aP_Past_cap] 32 (0, 0))) ⟨w.heap.size, 1, none⟩ = some (.int .i64 aP_Food) := XP0.out.cell 1
    try clear cP0_2
    have cP0_2 : World.cell? (w.alloc (.cells #[.int .i64 aP_At, .int .i64 aP_Food, .slice aP_Crew_a aP_Crew_L.length aP_Crew_cap, .slice aP_Past_a aP_Past_L.length aP_Past_cap] 32 (0, 0))) ⟨w.heap.size, 2, none⟩ = some (.slice aP_Crew_a aP_Crew_L.length aP_Crew_cap) := XP0.out.cell 2
    try clear cP0_3
    have cP0_3 : World.cell? (w.alloc (.cells #[.int .i64 aP_At, .int .i64 aP_Food, .slice aP_Crew_a aP_Crew_L.length aP_Crew_cap, .slice aP_Past_a aP_Past_L.length aP_Past_cap] 32 (0, 0))) ⟨w.heap.size, 3, none⟩ = some (.slice aP_Past_a aP_Past_L.length aP_Past_cap) := XP0.out.cell 3
    go_wp2_with fail
    generalize w.alloc (.cells #[.int .i64 aP_At, .int .i64 aP_Food, .slice aP_Crew_a aP_Crew_L.length aP_Crew_cap, .slice aP_Past_a aP_Past_L.length aP_Past_cap] 32 (0, 0)) = w1 at *
    refine (LawsP.szP_no w1 _ _ (1048576 : Int) (aL_S.out.below HB1.out) (by omega) (by omega) (by omega)).mono ?_
    rintro e w2 ⟨rfl, hg⟩
    have HB2 := Lib.hid (HB1.out.grown hg HB1.out.size (fun _ h => by cases h)); clear HB1
    have XP0 := Lib.hid (XP0.out.grown hg)
    clear hg
    try clear cP0_0
    have cP0_0 : World.cell? (w2) ⟨w.heap.size, 0, none⟩ = some (.int .i64 aP_At) := XP0.out.cell 0
    try clear cP0_1
    have cP0_1 : World.cell? (w2) ⟨w.heap.size, 1, none⟩ = some (.int .i64 aP_Food) := XP0.out.cell 1
    try clear cP0_2
    have cP0_2 : World.cell? (w2) ⟨w.heap.size, 2, none⟩ = some (.slice aP_Crew_a aP_Crew_L.length aP_Crew_cap) := XP0.out.cell 2
    try clear cP0_3
    have cP0_3 : World.cell? (w2) ⟨w.heap.size, 3, none⟩ = some (.slice aP_Past_a aP_Past_L.length aP_Past_cap) := XP0.out.cell 3
    go_wp2
    go_ret
    exact ⟨rfl, HB2.out⟩
  by_cases aP_l : (aP_Crew_L.length : Int) + (aP_Past_L.length : Int) ≤ ((1048576 : Int) - ((aL_L.length : Int)))
  rotate_left
  ·
    have HB0 : Hid (Below w.heap.size w w) := Below.refl _ _
    have hgb := World.grownBy_alloc w (.cells #[.int .i64 aP_At, .int .i64 aP_Food, .slice aP_Crew_a aP_Crew_L.length aP_Crew_cap, .slice aP_Past_a aP_Past_L.length aP_Past_cap] 32 (0, 0)) none
    have HB1 := Lib.hid (HB0.out.grown hgb HB0.out.size (fun _ h => by cases h)); clear HB0
    have XP0 := Lib.hid (box_new w #[.int .i64 aP_At, .int .i64 aP_Food, .slice aP_Crew_a aP_Crew_L.length aP_Crew_cap, .slice aP_Past_a aP_Past_L.length aP_Past_cap] 32); clear hgb
    go_enter Try.func4, Try.ntmps4
    try clear cP0_0
    have cP0_0 : World.cell? (w.alloc (.cells #[.int .i64 aP_At, .int .i64 aP_Food, .slice aP_Crew_a aP_Crew_L.length aP_Crew_cap, .slice aP_Past_a aP_Past_L.length aP_Past_cap] 32 (0, 0))) ⟨w.heap.size, 0, none⟩ = some (.int .i64 aP_At) := XP0.out.cell 0
    try clear cP0_1
    have cP0_1 : World.cell? (w.alloc (.cells #[.int .i64 aP_At, .int .i64 aP_Food, .slice aP_Crew_a aP_Crew_L.length aP_Crew_cap, .slice aP_Past_a aP_Past_L.length aP_Past_cap] 32 (0, 0))) ⟨w.heap.size, 1, none⟩ = some (.int .i64 aP_Food) := XP0.out.cell 1
    try clear cP0_2
    have cP0_2 : World.cell? (w.alloc (.cells #[.int .i64 aP_At, .int .i64 aP_Food, .slice aP_Crew_a aP_Crew_L.length aP_Crew_cap, .slice aP_Past_a aP_Past_L.length aP_Past_cap] 32 (0, 0))) ⟨w.heap.size, 2, none⟩ = some (.slice aP_Crew_a aP_Crew_L.length aP_Crew_cap) := XP0.out.cell 2
    try clear cP0_3
    have cP0_3 : World.cell? (w.alloc (.cells #[.int .i64 aP_At, .int .i64 aP_Food, .slice aP_Crew_a aP_Crew_L.length aP_Crew_cap, .slice aP_Past_a aP_Past_L.length aP_Past_cap] 32 (0, 0))) ⟨w.heap.size, 3, none⟩ = some (.slice aP_Past_a aP_Past_L.length aP_Past_cap) := XP0.out.cell 3
    go_wp2_with fail
    generalize w.alloc (.cells #[.int .i64 aP_At, .int .i64 aP_Food, .slice aP_Crew_a aP_Crew_L.length aP_Crew_cap, .slice aP_Past_a aP_Past_L.length aP_Past_cap] 32 (0, 0)) = w1 at *
    refine (LawsP.szP_yes w1 _ _ (1048576 : Int) (aL_S.out.below HB1.out) (by omega) (by omega) (by omega)).mono ?_
    rintro e w2 ⟨rfl, hg⟩
    have HB2 := Lib.hid (HB1.out.grown hg HB1.out.size (fun _ h => by cases h)); clear HB1
    have XP0 := Lib.hid (XP0.out.grown hg)
    clear hg
    try clear cP0_0
    have cP0_0 : World.cell? (w2) ⟨w.heap.size, 0, none⟩ = some (.int .i64 aP_At) := XP0.out.cell 0
    try clear cP0_1
    have cP0_1 : World.cell? (w2) ⟨w.heap.size, 1, none⟩ = some (.int .i64 aP_Food) := XP0.out.cell 1
    try clear cP0_2
    have cP0_2 : World.cell? (w2) ⟨w.heap.size, 2, none⟩ = some (.slice aP_Crew_a aP_Crew_L.length aP_Crew_cap) := XP0.out.cell 2
    try clear cP0_3
    have cP0_3 : World.cell? (w2) ⟨w.heap.size, 3, none⟩ = some (.slice aP_Past_a aP_Past_L.length aP_Past_cap) := XP0.out.cell 3
    go_wp2_with fail
    refine (PartyL.szParty_no w2 aP_At aP_Food _ _ _ _ ((1048576 : Int) - ((aL_L.length : Int))) (aP_Crew_S.out.below HB2.out) (aP_Past_S.out.below HB2.out) (by omega) (by omega) (by omega)).mono ?_
    rintro e w3 ⟨rfl, hg⟩
    have HB3 := Lib.hid (HB2.out.grown hg HB2.out.size (fun _ h => by cases h)); clear HB2
    have XP0 := Lib.hid (XP0.out.grown hg)
    clear hg
    try clear cP0_0
    have cP0_0 : World.cell? (w3) ⟨w.heap.size, 0, none⟩ = some (.int .i64 aP_At) := XP0.out.cell 0
    try clear cP0_1
    have cP0_1 : World.cell? (w3) ⟨w.heap.size, 1, none⟩ = some (.int .i64 aP_Food) := XP0.out.cell 1
    try clear cP0_2
    have cP0_2 : World.cell? (w3) ⟨w.heap.size, 2, none⟩ = some (.slice aP_Crew_a aP_Crew_L.length aP_Crew_cap) := XP0.out.cell 2
    try clear cP0_3
    have cP0_3 : World.cell? (w3) ⟨w.heap.size, 3, none⟩ = some (.slice aP_Past_a aP_Past_L.length aP_Past_cap) := XP0.out.cell 3
    go_wp2
    go_ret
    exact ⟨rfl, HB3.out⟩
  have HB0 : Hid (Below w.heap.size w w) := Below.refl _ _
  have hgb := World.grownBy_alloc w (.cells #[.int .i64 aP_At, .int .i64 aP_Food, .slice aP_Crew_a aP_Crew_L.length aP_Crew_cap, .slice aP_Past_a aP_Past_L.length aP_Past_cap] 32 (0, 0)) none
  have HB1 := Lib.hid (HB0.out.grown hgb HB0.out.size (fun _ h => by cases h)); clear HB0
  have XP0 := Lib.hid (box_new w #[.int .i64 aP_At, .int .i64 aP_Food, .slice aP_Crew_a aP_Crew_L.length aP_Crew_cap, .slice aP_Past_a aP_Past_L.length aP_Past_cap] 32); clear hgb
  go_enter Try.func4, Try.ntmps4
  try clear cP0_0
  have cP0_0 : World.cell? (w.alloc (.cells #[.int .i64 aP_At, .int .i64 aP_Food, .slice aP_Crew_a aP_Crew_L.length aP_Crew_cap, .slice aP_Past_a aP_Past_L.length aP_Past_cap] 32 (0, 0))) ⟨w.heap.size, 0, none⟩ = some (.int .i64 aP_At) := XP0.out.cell 0
  try clear cP0_1
  have cP0_1 : World.cell? (w.alloc (.cells #[.int .i64 aP_At, .int .i64 aP_Food, .slice aP_Crew_a aP_Crew_L.length aP_Crew_cap, .slice aP_Past_a aP_Past_L.length aP_Past_cap] 32 (0, 0))) ⟨w.heap.size, 1, none⟩ = some (.int .i64 aP_Food) := XP0.out.cell 1
  try clear cP0_2
  have cP0_2 : World.cell? (w.alloc (.cells #[.int .i64 aP_At, .int .i64 aP_Food, .slice aP_Crew_a aP_Crew_L.length aP_Crew_cap, .slice aP_Past_a aP_Past_L.length aP_Past_cap] 32 (0, 0))) ⟨w.heap.size, 2, none⟩ = some (.slice aP_Crew_a aP_Crew_L.length aP_Crew_cap) := XP0.out.cell 2
  try clear cP0_3
  have cP0_3 : World.cell? (w.alloc (.cells #[.int .i64 aP_At, .int .i64 aP_Food, .slice aP_Crew_a aP_Crew_L.length aP_Crew_cap, .slice aP_Past_a aP_Past_L.length aP_Past_cap] 32 (0, 0))) ⟨w.heap.size, 3, none⟩ = some (.slice aP_Past_a aP_Past_L.length aP_Past_cap) := XP0.out.cell 3
  go_wp2_with fail
  generalize w.alloc (.cells #[.int .i64 aP_At, .int .i64 aP_Food, .slice aP_Crew_a aP_Crew_L.length aP_Crew_cap, .slice aP_Past_a aP_Past_L.length aP_Past_cap] 32 (0, 0)) = w1 at *
  refine (LawsP.szP_yes w1 _ _ (1048576 : Int) (aL_S.out.below HB1.out) (by omega) (by omega) (by omega)).mono ?_
  rintro e w2 ⟨rfl, hg⟩
  have HB2 := Lib.hid (HB1.out.grown hg HB1.out.size (fun _ h => by cases h)); clear HB1
  have XP0 := Lib.hid (XP0.out.grown hg)
  clear hg
  try clear cP0_0
  have cP0_0 : World.cell? (w2) ⟨w.heap.size, 0, none⟩ = some (.int .i64 aP_At) := XP0.out.cell 0
  try clear cP0_1
  have cP0_1 : World.cell? (w2) ⟨w.heap.size, 1, none⟩ = some (.int .i64 aP_Food) := XP0.out.cell 1
  try clear cP0_2
  have cP0_2 : World.cell? (w2) ⟨w.heap.size, 2, none⟩ = some (.slice aP_Crew_a aP_Crew_L.length aP_Crew_cap) := XP0.out.cell 2
  try clear cP0_3
  have cP0_3 : World.cell? (w2) ⟨w.heap.size, 3, none⟩ = some (.slice aP_Past_a aP_Past_L.length aP_Past_cap) := XP0.out.cell 3
  go_wp2_with fail
  refine (PartyL.szParty_yes w2 aP_At aP_Food _ _ _ _ ((1048576 : Int) - ((aL_L.length : Int))) (aP_Crew_S.out.below HB2.out) (aP_Past_S.out.below HB2.out) (by omega) (by omega) (by omega)).mono ?_
  rintro e w3 ⟨rfl, hg⟩
  have HB3 := Lib.hid (HB2.out.grown hg HB2.out.size (fun _ h => by cases h)); clear HB2
  have XP0 := Lib.hid (XP0.out.grown hg)
  clear hg
  try clear cP0_0
  have cP0_0 : World.cell? (w3) ⟨w.heap.size, 0, none⟩ = some (.int .i64 aP_At) := XP0.out.cell 0
  try clear cP0_1
  have cP0_1 : World.cell? (w3) ⟨w.heap.size, 1, none⟩ = some (.int .i64 aP_Food) := XP0.out.cell 1
  try clear cP0_2
  have cP0_2 : World.cell? (w3) ⟨w.heap.size, 2, none⟩ = some (.slice aP_Crew_a aP_Crew_L.length aP_Crew_cap) := XP0.out.cell 2
  try clear cP0_3
  have cP0_3 : World.cell? (w3) ⟨w.heap.size, 3, none⟩ = some (.slice aP_Past_a aP_Past_L.length aP_Past_cap) := XP0.out.cell 3
  go_wp2_with fail
  have hgd := grown_drew (World.grownBy.refl w3 none)
  have HB4 := Lib.hid (HB3.out.grown hgd HB3.out.size (fun _ h => by cases h)); clear HB3
  have XP0 := Lib.hid (XP0.out.grown hgd)
  clear hgd
  try clear cP0_0
  have cP0_0 : World.cell? ((World.drew w3)) ⟨w.heap.size, 0, none⟩ = some (.int .i64 aP_At) := XP0.out.cell 0
  try clear cP0_1
  have cP0_1 : World.cell? ((World.drew w3)) ⟨w.heap.size, 1, none⟩ = some (.int .i64 aP_Food) := XP0.out.cell 1
  try clear cP0_2
  have cP0_2 : World.cell? ((World.drew w3)) ⟨w.heap.size, 2, none⟩ = some (.slice aP_Crew_a aP_Crew_L.length aP_Crew_cap) := XP0.out.cell 2
  try clear cP0_3
  have cP0_3 : World.cell? ((World.drew w3)) ⟨w.heap.size, 3, none⟩ = some (.slice aP_Past_a aP_Past_L.length aP_Past_cap) := XP0.out.cell 3
  refine wp_region_held_drew (S := fun w' => w'.cell? ⟨w.heap.size, 0, none⟩ = some (.int .i64 aP_At) ∧ w'.cell? ⟨w.heap.size, 1, none⟩ = some (.int .i64 aP_Food) ∧ w'.cell? ⟨w.heap.size, 2, none⟩ = some (.slice aP_Crew_a aP_Crew_L.length aP_Crew_cap) ∧ w'.cell? ⟨w.heap.size, 3, none⟩ = some (.slice aP_Past_a aP_Past_L.length aP_Past_cap)) (by kernel_rfl) ⟨cP0_0, cP0_1, cP0_2, cP0_3⟩ (fun hHeld => ?_)
  refine wpAnyH_take (i := 0) (v := ?_) rfl (by kernel_rfl) (by kernel_rfl) (by kernel_rfl) (fun _ _ _ h => h) (Or.inl ⟨by rfl, ?_⟩) (by assumption) ?_; rotate_left; (focus (intro wS hSw; (try dsimp only at hSw); go_simp <;> with_reducible rfl)); (try simp only [Act.put, List.getElem_toArray, List.getElem_cons_succ, List.getElem_cons_zero, List.setIfInBounds_toArray, List.set_cons_zero, List.set_cons_succ])
  refine wpAnyH_take (i := 2) (v := ?_) rfl (by kernel_rfl) (by kernel_rfl) (by kernel_rfl) (fun _ _ _ h => h) (Or.inl ⟨by rfl, ?_⟩) (by assumption) ?_; rotate_left; (focus (intro wS hSw; (try dsimp only at hSw); go_simp <;> with_reducible rfl)); (try simp only [Act.put, List.getElem_toArray, List.getElem_cons_succ, List.getElem_cons_zero, List.setIfInBounds_toArray, List.set_cons_zero, List.set_cons_succ])
  refine wpAnyH_ready (rs := [1]) (by kernel_rfl) (by simp) ?_; refine AllReadyH.cons rfl (fun K hK => ?_) AllReadyH.nil; go_simp; (go_at_call 13; refine (LawsP.to_any (World.drew w3) (.slice aL_a aL_L.length aL_cap) aL_L (aL_S.out.below HB4.out) (by (try simp only [LawsBo.marksB_len, LawsM.marksM_len, LawsP.marksP_len]); omega)).mono ?_; rintro e w5 ⟨u1, rfl, ho, hg⟩; have D_u1_P0 := Lib.hid (ho.off XP0.out.lt); have Ou1 := Lib.hid (ho.lower HB4.out.size); have HB5 := Lib.hid (HB4.out.grown hg HB4.out.size (fun _ h => by cases h)); clear HB4; have XP0 := Lib.hid (XP0.out.grown hg); clear ho hg)
  refine hK.out _ _ ?_ (fun hHeld => ?_)
  · exact ⟨XP0.out.cell 0, XP0.out.cell 1, XP0.out.cell 2, XP0.out.cell 3⟩
  clear hK K
  (try simp only [Act.put, List.getElem_toArray, List.getElem_cons_succ, List.getElem_cons_zero, List.setIfInBounds_toArray, List.set_cons_zero, List.set_cons_succ])
  refine wpAnyH_ready (rs := [3]) (by kernel_rfl) (by simp) ?_; refine AllReadyH.cons rfl (fun K hK => ?_) AllReadyH.nil; go_simp; (go_at_call 18; refine (PartyL.toParty_any w5 aP_At aP_Food _ _ _ _ (aP_Crew_S.out.below HB5.out) (aP_Past_S.out.below HB5.out) (by omega) (by omega)).mono ?_; rintro e w6 ⟨u2, u3, rfl, ho1, ho2, hap, hg⟩; have A_u2_u1 := Lib.hid (Rg.apart_lt ho1.lt Ou1.out.lt (Nat.le_refl _)); have D_u2_P0 := Lib.hid (ho1.off XP0.out.lt); have Ou2 := Lib.hid (ho1.lower HB5.out.size); have A_u3_u1 := Lib.hid (Rg.apart_lt ho2.lt Ou1.out.lt (Nat.le_refl _)); have D_u3_P0 := Lib.hid (ho2.off XP0.out.lt); have Ou3 := Lib.hid (ho2.lower HB5.out.size); have A_u3_u2 := Lib.hid hap; have HB6 := Lib.hid (HB5.out.grown hg HB5.out.size (fun _ h => by cases h)); clear HB5; have Ou1 := Lib.hid (Ou1.out.grown hg); have XP0 := Lib.hid (XP0.out.grown hg); clear ho1 ho2 hap hg)
  refine hK.out _ _ ?_ (fun hHeld => ?_)
  · exact ⟨XP0.out.cell 0, XP0.out.cell 1, XP0.out.cell 2, XP0.out.cell 3⟩
  clear hK K
  (try simp only [Act.put, List.getElem_toArray, List.getElem_cons_succ, List.getElem_cons_zero, List.setIfInBounds_toArray, List.set_cons_zero, List.set_cons_succ])
  refine wpAnyH_ready (rs := [4]) (by kernel_rfl) (by simp) ?_; refine AllReadyH.cons rfl (fun K hK => ?_) AllReadyH.nil; go_simp; (go_at_call 17; refine (Fia.sAll_any w6 aP_At aP_Food _ _ _ aL_L (Ou1.out.sees) (by (try simp only [LawsBo.marksB_len, LawsM.marksM_len, LawsP.marksP_len]); omega)).mono ?_; rintro e w7 ⟨rfl, hg⟩; have HB7 := Lib.hid (HB6.out.grown hg HB6.out.size (fun _ h => by cases h)); clear HB6; have Ou1 := Lib.hid (Ou1.out.grown hg); have Ou2 := Lib.hid (Ou2.out.grown hg); have Ou3 := Lib.hid (Ou3.out.grown hg); have XP0 := Lib.hid (XP0.out.grown hg); clear hg)
  refine hK.out _ _ ?_ (fun hHeld => ?_)
  · exact ⟨XP0.out.cell 0, XP0.out.cell 1, XP0.out.cell 2, XP0.out.cell 3⟩
  clear hK K
  (try simp only [Act.put, List.getElem_toArray, List.getElem_cons_succ, List.getElem_cons_zero, List.setIfInBounds_toArray, List.set_cons_zero, List.set_cons_succ])
  refine wpAnyH_take (i := 5) (v := ?_) rfl (by kernel_rfl) (by kernel_rfl) (by kernel_rfl) (fun _ _ _ h => h) (Or.inl ⟨by rfl, ?_⟩) (by assumption) ?_; rotate_left; (focus (intro wS hSw; (try dsimp only at hSw); go_simp <;> with_reducible rfl)); (try simp only [Act.put, List.getElem_toArray, List.getElem_cons_succ, List.getElem_cons_zero, List.setIfInBounds_toArray, List.set_cons_zero, List.set_cons_succ])
  refine wpAnyH_done (by kernel_rfl) ?_ _
  (try simp only [Act.put, List.getElem_toArray, List.getElem_cons_succ, List.getElem_cons_zero, List.setIfInBounds_toArray, List.set_cons_zero, List.set_cons_succ])
  clear Ou1
  clear Ou2
  clear Ou3
  try clear cP0_0
  have cP0_0 : World.cell? (w7) ⟨w.heap.size, 0, none⟩ = some (.int .i64 aP_At) := XP0.out.cell 0
  try clear cP0_1
  have cP0_1 : World.cell? (w7) ⟨w.heap.size, 1, none⟩ = some (.int .i64 aP_Food) := XP0.out.cell 1
  try clear cP0_2
  have cP0_2 : World.cell? (w7) ⟨w.heap.size, 2, none⟩ = some (.slice aP_Crew_a aP_Crew_L.length aP_Crew_cap) := XP0.out.cell 2
  try clear cP0_3
  have cP0_3 : World.cell? (w7) ⟨w.heap.size, 3, none⟩ = some (.slice aP_Past_a aP_Past_L.length aP_Past_cap) := XP0.out.cell 3
  go_wp2_with fail
  refine (LawsP.to_any w7 (.slice aL_a aL_L.length aL_cap) aL_L (aL_S.out.below HB7.out) (by (try simp only [LawsBo.marksB_len, LawsM.marksM_len, LawsP.marksP_len]); omega)).mono ?_
  rintro e w8 ⟨u4, rfl, ho, hg⟩
  have D_u4_P0 := Lib.hid (ho.off XP0.out.lt)
  have Ou4 := Lib.hid (ho.lower HB7.out.size)
  have HB8 := Lib.hid (HB7.out.grown hg HB7.out.size (fun _ h => by cases h)); clear HB7
  have XP0 := Lib.hid (XP0.out.grown hg)
  clear ho hg
  try clear cP0_0
  have cP0_0 : World.cell? (w8) ⟨w.heap.size, 0, none⟩ = some (.int .i64 aP_At) := XP0.out.cell 0
  try clear cP0_1
  have cP0_1 : World.cell? (w8) ⟨w.heap.size, 1, none⟩ = some (.int .i64 aP_Food) := XP0.out.cell 1
  try clear cP0_2
  have cP0_2 : World.cell? (w8) ⟨w.heap.size, 2, none⟩ = some (.slice aP_Crew_a aP_Crew_L.length aP_Crew_cap) := XP0.out.cell 2
  try clear cP0_3
  have cP0_3 : World.cell? (w8) ⟨w.heap.size, 3, none⟩ = some (.slice aP_Past_a aP_Past_L.length aP_Past_cap) := XP0.out.cell 3
  go_wp2_with fail
  refine (PartyL.toParty_any w8 aP_At aP_Food _ _ _ _ (aP_Crew_S.out.below HB8.out) (aP_Past_S.out.below HB8.out) (by omega) (by omega)).mono ?_
  rintro e w9 ⟨u5, u6, rfl, ho1, ho2, hap, hg⟩
  have A_u5_u4 := Lib.hid (Rg.apart_lt ho1.lt Ou4.out.lt (Nat.le_refl _))
  have D_u5_P0 := Lib.hid (ho1.off XP0.out.lt)
  have Ou5 := Lib.hid (ho1.lower HB8.out.size)
  have A_u6_u4 := Lib.hid (Rg.apart_lt ho2.lt Ou4.out.lt (Nat.le_refl _))
  have D_u6_P0 := Lib.hid (ho2.off XP0.out.lt)
  have Ou6 := Lib.hid (ho2.lower HB8.out.size)
  have A_u6_u5 := Lib.hid hap
  have HB9 := Lib.hid (HB8.out.grown hg HB8.out.size (fun _ h => by cases h)); clear HB8
  have Ou4 := Lib.hid (Ou4.out.grown hg)
  have XP0 := Lib.hid (XP0.out.grown hg)
  clear ho1 ho2 hap hg
  obtain ⟨u5_a, u5_n, u5_c, hu5, Nu5⟩ := Ou5.out.sees.shape; subst hu5
  obtain ⟨u6_a, u6_n, u6_c, hu6, Nu6⟩ := Ou6.out.sees.shape; subst hu6
  have hgb := World.grownBy_alloc w9 (.cells #[.int .i64 aP_At, .int .i64 aP_Food, .slice u5_a u5_n u5_c, .slice u6_a u6_n u6_c] 37 (0, 0)) none
  have D_u4_B7 := Lib.hid (Ou4.out.off' (Nat.le_refl _))
  have D_u5_B7 := Lib.hid (Ou5.out.off' (Nat.le_refl _))
  have D_u6_B7 := Lib.hid (Ou6.out.off' (Nat.le_refl _))
  have HB10 := Lib.hid (HB9.out.grown hgb HB9.out.size (fun _ h => by cases h)); clear HB9
  have Ou4 := Lib.hid (Ou4.out.grown hgb)
  have Ou5 := Lib.hid (Ou5.out.grown hgb)
  have Ou6 := Lib.hid (Ou6.out.grown hgb)
  have XP0 := Lib.hid (XP0.out.grown hgb)
  have XB7 := Lib.hid (box_new w9 #[.int .i64 aP_At, .int .i64 aP_Food, .slice u5_a u5_n u5_c, .slice u6_a u6_n u6_c] 37); clear hgb
  try clear cP0_0
  have cP0_0 : World.cell? (w9.alloc (.cells #[.int .i64 aP_At, .int .i64 aP_Food, .slice u5_a u5_n u5_c, .slice u6_a u6_n u6_c] 37 (0, 0))) ⟨w.heap.size, 0, none⟩ = some (.int .i64 aP_At) := XP0.out.cell 0
  try clear cP0_1
  have cP0_1 : World.cell? (w9.alloc (.cells #[.int .i64 aP_At, .int .i64 aP_Food, .slice u5_a u5_n u5_c, .slice u6_a u6_n u6_c] 37 (0, 0))) ⟨w.heap.size, 1, none⟩ = some (.int .i64 aP_Food) := XP0.out.cell 1
  try clear cP0_2
  have cP0_2 : World.cell? (w9.alloc (.cells #[.int .i64 aP_At, .int .i64 aP_Food, .slice u5_a u5_n u5_c, .slice u6_a u6_n u6_c] 37 (0, 0))) ⟨w.heap.size, 2, none⟩ = some (.slice aP_Crew_a aP_Crew_L.length aP_Crew_cap) := XP0.out.cell 2
  try clear cP0_3
  have cP0_3 : World.cell? (w9.alloc (.cells #[.int .i64 aP_At, .int .i64 aP_Food, .slice u5_a u5_n u5_c, .slice u6_a u6_n u6_c] 37 (0, 0))) ⟨w.heap.size, 3, none⟩ = some (.slice aP_Past_a aP_Past_L.length aP_Past_cap) := XP0.out.cell 3
  try clear cB7_0
  have cB7_0 : World.cell? (w9.alloc (.cells #[.int .i64 aP_At, .int .i64 aP_Food, .slice u5_a u5_n u5_c, .slice u6_a u6_n u6_c] 37 (0, 0))) ⟨w9.heap.size, 0, none⟩ = some (.int .i64 aP_At) := XB7.out.cell 0
  try clear cB7_1
  have cB7_1 : World.cell? (w9.alloc (.cells #[.int .i64 aP_At, .int .i64 aP_Food, .slice u5_a u5_n u5_c, .slice u6_a u6_n u6_c] 37 (0, 0))) ⟨w9.heap.size, 1, none⟩ = some (.int .i64 aP_Food) := XB7.out.cell 1
  try clear cB7_2
  have cB7_2 : World.cell? (w9.alloc (.cells #[.int .i64 aP_At, .int .i64 aP_Food, .slice u5_a u5_n u5_c, .slice u6_a u6_n u6_c] 37 (0, 0))) ⟨w9.heap.size, 2, none⟩ = some (.slice u5_a u5_n u5_c) := XB7.out.cell 2
  try clear cB7_3
  have cB7_3 : World.cell? (w9.alloc (.cells #[.int .i64 aP_At, .int .i64 aP_Food, .slice u5_a u5_n u5_c, .slice u6_a u6_n u6_c] 37 (0, 0))) ⟨w9.heap.size, 3, none⟩ = some (.slice u6_a u6_n u6_c) := XB7.out.cell 3
  go_wp2_with fail
  generalize w9.alloc (.cells #[.int .i64 aP_At, .int .i64 aP_Food, .slice u5_a u5_n u5_c, .slice u6_a u6_n u6_c] 37 (0, 0)) = w10 at *
  refine (Fia.iAll_any w10 aP_At aP_Food _ _ _ aL_L (Ou4.out.sees) (by (try simp only [LawsBo.marksB_len, LawsM.marksM_len, LawsP.marksP_len]); omega)).mono ?_
  rintro e w11 ⟨rfl, hg⟩
  have HB11 := Lib.hid (HB10.out.grown hg HB10.out.size (fun _ h => by cases h)); clear HB10
  have Ou4 := Lib.hid (Ou4.out.grown hg)
  have Ou5 := Lib.hid (Ou5.out.grown hg)
  have Ou6 := Lib.hid (Ou6.out.grown hg)
  have XP0 := Lib.hid (XP0.out.grown hg)
  have XB7 := Lib.hid (XB7.out.grown hg)
  clear hg
  try clear cP0_0
  have cP0_0 : World.cell? (w11) ⟨w.heap.size, 0, none⟩ = some (.int .i64 aP_At) := XP0.out.cell 0
  try clear cP0_1
  have cP0_1 : World.cell? (w11) ⟨w.heap.size, 1, none⟩ = some (.int .i64 aP_Food) := XP0.out.cell 1
  try clear cP0_2
  have cP0_2 : World.cell? (w11) ⟨w.heap.size, 2, none⟩ = some (.slice aP_Crew_a aP_Crew_L.length aP_Crew_cap) := XP0.out.cell 2
  try clear cP0_3
  have cP0_3 : World.cell? (w11) ⟨w.heap.size, 3, none⟩ = some (.slice aP_Past_a aP_Past_L.length aP_Past_cap) := XP0.out.cell 3
  try clear cB7_0
  have cB7_0 : World.cell? (w11) ⟨w9.heap.size, 0, none⟩ = some (.int .i64 aP_At) := XB7.out.cell 0
  try clear cB7_1
  have cB7_1 : World.cell? (w11) ⟨w9.heap.size, 1, none⟩ = some (.int .i64 aP_Food) := XB7.out.cell 1
  try clear cB7_2
  have cB7_2 : World.cell? (w11) ⟨w9.heap.size, 2, none⟩ = some (.slice u5_a u5_n u5_c) := XB7.out.cell 2
  try clear cB7_3
  have cB7_3 : World.cell? (w11) ⟨w9.heap.size, 3, none⟩ = some (.slice u6_a u6_n u6_c) := XB7.out.cell 3
  go_wp2_with fail
  refine (LawsP.to_any w11 (.slice aL_a aL_L.length aL_cap) aL_L (aL_S.out.below HB11.out) (by (try simp only [LawsBo.marksB_len, LawsM.marksM_len, LawsP.marksP_len]); omega)).mono ?_
  rintro e w12 ⟨u8, rfl, ho, hg⟩
  have A_u8_u4 := Lib.hid (Rg.apart_lt ho.lt Ou4.out.lt (Nat.le_refl _))
  have A_u8_u5 := Lib.hid (Rg.apart_lt ho.lt Ou5.out.lt (Nat.le_refl _))
  have A_u8_u6 := Lib.hid (Rg.apart_lt ho.lt Ou6.out.lt (Nat.le_refl _))
  have D_u8_P0 := Lib.hid (ho.off XP0.out.lt)
  have D_u8_B7 := Lib.hid (ho.off XB7.out.lt)
  have Ou8 := Lib.hid (ho.lower HB11.out.size)
  have HB12 := Lib.hid (HB11.out.grown hg HB11.out.size (fun _ h => by cases h)); clear HB11
  have Ou4 := Lib.hid (Ou4.out.grown hg)
  have Ou5 := Lib.hid (Ou5.out.grown hg)
  have Ou6 := Lib.hid (Ou6.out.grown hg)
  have XP0 := Lib.hid (XP0.out.grown hg)
  have XB7 := Lib.hid (XB7.out.grown hg)
  clear ho hg
  try clear cP0_0
  have cP0_0 : World.cell? (w12) ⟨w.heap.size, 0, none⟩ = some (.int .i64 aP_At) := XP0.out.cell 0
  try clear cP0_1
  have cP0_1 : World.cell? (w12) ⟨w.heap.size, 1, none⟩ = some (.int .i64 aP_Food) := XP0.out.cell 1
  try clear cP0_2
  have cP0_2 : World.cell? (w12) ⟨w.heap.size, 2, none⟩ = some (.slice aP_Crew_a aP_Crew_L.length aP_Crew_cap) := XP0.out.cell 2
  try clear cP0_3
  have cP0_3 : World.cell? (w12) ⟨w.heap.size, 3, none⟩ = some (.slice aP_Past_a aP_Past_L.length aP_Past_cap) := XP0.out.cell 3
  try clear cB7_0
  have cB7_0 : World.cell? (w12) ⟨w9.heap.size, 0, none⟩ = some (.int .i64 aP_At) := XB7.out.cell 0
  try clear cB7_1
  have cB7_1 : World.cell? (w12) ⟨w9.heap.size, 1, none⟩ = some (.int .i64 aP_Food) := XB7.out.cell 1
  try clear cB7_2
  have cB7_2 : World.cell? (w12) ⟨w9.heap.size, 2, none⟩ = some (.slice u5_a u5_n u5_c) := XB7.out.cell 2
  try clear cB7_3
  have cB7_3 : World.cell? (w12) ⟨w9.heap.size, 3, none⟩ = some (.slice u6_a u6_n u6_c) := XB7.out.cell 3
  go_wp2_with fail
  refine (LawsP.eq_same w12 (u4) (u8) aL_L (Ou4.out.sees) (Ou8.out.sees)).mono ?_
  rintro e w13 ⟨rfl, hg⟩
  have HB13 := Lib.hid (HB12.out.grown hg HB12.out.size (fun _ h => by cases h)); clear HB12
  have Ou4 := Lib.hid (Ou4.out.grown hg)
  have Ou5 := Lib.hid (Ou5.out.grown hg)
  have Ou6 := Lib.hid (Ou6.out.grown hg)
  have Ou8 := Lib.hid (Ou8.out.grown hg)
  have XP0 := Lib.hid (XP0.out.grown hg)
  have XB7 := Lib.hid (XB7.out.grown hg)
  clear hg
  clear Ou8
  clear Ou4
  try clear cP0_0
  have cP0_0 : World.cell? (w13) ⟨w.heap.size, 0, none⟩ = some (.int .i64 aP_At) := XP0.out.cell 0
  try clear cP0_1
  have cP0_1 : World.cell? (w13) ⟨w.heap.size, 1, none⟩ = some (.int .i64 aP_Food) := XP0.out.cell 1
  try clear cP0_2
  have cP0_2 : World.cell? (w13) ⟨w.heap.size, 2, none⟩ = some (.slice aP_Crew_a aP_Crew_L.length aP_Crew_cap) := XP0.out.cell 2
  try clear cP0_3
  have cP0_3 : World.cell? (w13) ⟨w.heap.size, 3, none⟩ = some (.slice aP_Past_a aP_Past_L.length aP_Past_cap) := XP0.out.cell 3
  try clear cB7_0
  have cB7_0 : World.cell? (w13) ⟨w9.heap.size, 0, none⟩ = some (.int .i64 aP_At) := XB7.out.cell 0
  try clear cB7_1
  have cB7_1 : World.cell? (w13) ⟨w9.heap.size, 1, none⟩ = some (.int .i64 aP_Food) := XB7.out.cell 1
  try clear cB7_2
  have cB7_2 : World.cell? (w13) ⟨w9.heap.size, 2, none⟩ = some (.slice u5_a u5_n u5_c) := XB7.out.cell 2
  try clear cB7_3
  have cB7_3 : World.cell? (w13) ⟨w9.heap.size, 3, none⟩ = some (.slice u6_a u6_n u6_c) := XB7.out.cell 3
  go_wp2_with fail
  have hgd := grown_drew (World.grownBy.refl w13 none)
  have HB14 := Lib.hid (HB13.out.grown hgd HB13.out.size (fun _ h => by cases h)); clear HB13
  have Ou5 := Lib.hid (Ou5.out.grown hgd)
  have Ou6 := Lib.hid (Ou6.out.grown hgd)
  have XP0 := Lib.hid (XP0.out.grown hgd)
  have XB7 := Lib.hid (XB7.out.grown hgd)
  clear hgd
  try clear cB7_0
  have cB7_0 : World.cell? ((World.drew w13)) ⟨w9.heap.size, 0, none⟩ = some (.int .i64 aP_At) := XB7.out.cell 0
  try clear cB7_1
  have cB7_1 : World.cell? ((World.drew w13)) ⟨w9.heap.size, 1, none⟩ = some (.int .i64 aP_Food) := XB7.out.cell 1
  try clear cB7_2
  have cB7_2 : World.cell? ((World.drew w13)) ⟨w9.heap.size, 2, none⟩ = some (.slice u5_a u5_n u5_c) := XB7.out.cell 2
  try clear cB7_3
  have cB7_3 : World.cell? ((World.drew w13)) ⟨w9.heap.size, 3, none⟩ = some (.slice u6_a u6_n u6_c) := XB7.out.cell 3
  try clear cP0_0
  have cP0_0 : World.cell? ((World.drew w13)) ⟨w.heap.size, 0, none⟩ = some (.int .i64 aP_At) := XP0.out.cell 0
  try clear cP0_1
  have cP0_1 : World.cell? ((World.drew w13)) ⟨w.heap.size, 1, none⟩ = some (.int .i64 aP_Food) := XP0.out.cell 1
  try clear cP0_2
  have cP0_2 : World.cell? ((World.drew w13)) ⟨w.heap.size, 2, none⟩ = some (.slice aP_Crew_a aP_Crew_L.length aP_Crew_cap) := XP0.out.cell 2
  try clear cP0_3
  have cP0_3 : World.cell? ((World.drew w13)) ⟨w.heap.size, 3, none⟩ = some (.slice aP_Past_a aP_Past_L.length aP_Past_cap) := XP0.out.cell 3
  refine wp_region_held_drew (S := fun w' => w'.cell? ⟨w9.heap.size, 0, none⟩ = some (.int .i64 aP_At) ∧ w'.cell? ⟨w9.heap.size, 1, none⟩ = some (.int .i64 aP_Food) ∧ w'.cell? ⟨w9.heap.size, 2, none⟩ = some (.slice u5_a u5_n u5_c) ∧ w'.cell? ⟨w9.heap.size, 3, none⟩ = some (.slice u6_a u6_n u6_c) ∧ w'.cell? ⟨w.heap.size, 0, none⟩ = some (.int .i64 aP_At) ∧ w'.cell? ⟨w.heap.size, 1, none⟩ = some (.int .i64 aP_Food) ∧ w'.cell? ⟨w.heap.size, 2, none⟩ = some (.slice aP_Crew_a aP_Crew_L.length aP_Crew_cap) ∧ w'.cell? ⟨w.heap.size, 3, none⟩ = some (.slice aP_Past_a aP_Past_L.length aP_Past_cap)) (by kernel_rfl) ⟨cB7_0, cB7_1, cB7_2, cB7_3, cP0_0, cP0_1, cP0_2, cP0_3⟩ (fun hHeld => ?_)
  refine wpAnyH_take (i := 0) (v := ?_) rfl (by kernel_rfl) (by kernel_rfl) (by kernel_rfl) (fun _ _ _ h => h) (Or.inl ⟨by rfl, ?_⟩) (by assumption) ?_; rotate_left; (focus (intro wS hSw; (try dsimp only at hSw); go_simp <;> with_reducible rfl)); (try simp only [Act.put, List.getElem_toArray, List.getElem_cons_succ, List.getElem_cons_zero, List.setIfInBounds_toArray, List.set_cons_zero, List.set_cons_succ])
  refine wpAnyH_take (i := 1) (v := ?_) rfl (by kernel_rfl) (by kernel_rfl) (by kernel_rfl) (fun _ _ _ h => h) (Or.inl ⟨by rfl, ?_⟩) (by assumption) ?_; rotate_left; (focus (intro wS hSw; (try dsimp only at hSw); go_simp <;> with_reducible rfl)); (try simp only [Act.put, List.getElem_toArray, List.getElem_cons_succ, List.getElem_cons_zero, List.setIfInBounds_toArray, List.set_cons_zero, List.set_cons_succ])
  refine wpAnyH_ready (rs := [2]) (by kernel_rfl) (by simp) ?_; refine AllReadyH.cons rfl (fun K hK => ?_) AllReadyH.nil; go_simp; (go_at_call 18; refine (PartyL.toParty_any (World.drew w13) aP_At aP_Food _ _ _ _ (aP_Crew_S.out.below HB14.out) (aP_Past_S.out.below HB14.out) (by omega) (by omega)).mono ?_; rintro e w15 ⟨u9, u10, rfl, ho1, ho2, hap, hg⟩; have A_u9_u5 := Lib.hid (Rg.apart_lt ho1.lt Ou5.out.lt (Nat.le_refl _)); have A_u9_u6 := Lib.hid (Rg.apart_lt ho1.lt Ou6.out.lt (Nat.le_refl _)); have D_u9_P0 := Lib.hid (ho1.off XP0.out.lt); have D_u9_B7 := Lib.hid (ho1.off XB7.out.lt); have Ou9 := Lib.hid (ho1.lower HB14.out.size); have A_u10_u5 := Lib.hid (Rg.apart_lt ho2.lt Ou5.out.lt (Nat.le_refl _)); have A_u10_u6 := Lib.hid (Rg.apart_lt ho2.lt Ou6.out.lt (Nat.le_refl _)); have D_u10_P0 := Lib.hid (ho2.off XP0.out.lt); have D_u10_B7 := Lib.hid (ho2.off XB7.out.lt); have Ou10 := Lib.hid (ho2.lower HB14.out.size); have A_u10_u9 := Lib.hid hap; have HB15 := Lib.hid (HB14.out.grown hg HB14.out.size (fun _ h => by cases h)); clear HB14; have Ou5 := Lib.hid (Ou5.out.grown hg); have Ou6 := Lib.hid (Ou6.out.grown hg); have XP0 := Lib.hid (XP0.out.grown hg); have XB7 := Lib.hid (XB7.out.grown hg); clear ho1 ho2 hap hg)
  refine hK.out _ _ ?_ (fun hHeld => ?_)
  · exact ⟨XB7.out.cell 0, XB7.out.cell 1, XB7.out.cell 2, XB7.out.cell 3, XP0.out.cell 0, XP0.out.cell 1, XP0.out.cell 2, XP0.out.cell 3⟩
  clear hK K
  (try simp only [Act.put, List.getElem_toArray, List.getElem_cons_succ, List.getElem_cons_zero, List.setIfInBounds_toArray, List.set_cons_zero, List.set_cons_succ])
  refine wpAnyH_ready (rs := [3]) (by kernel_rfl) (by simp) ?_; refine AllReadyH.cons rfl (fun K hK => ?_) AllReadyH.nil; go_simp; (go_at_call 20; refine (PartyL.eqParty_same w15 aP_At aP_Food _ _ _ _ _ _ (Ou5.out.sees) (Ou6.out.sees) (Ou9.out.sees) (Ou10.out.sees)).mono ?_; rintro e w16 ⟨rfl, hg⟩; have HB16 := Lib.hid (HB15.out.grown hg HB15.out.size (fun _ h => by cases h)); clear HB15; have Ou5 := Lib.hid (Ou5.out.grown hg); have Ou6 := Lib.hid (Ou6.out.grown hg); have Ou9 := Lib.hid (Ou9.out.grown hg); have Ou10 := Lib.hid (Ou10.out.grown hg); have XP0 := Lib.hid (XP0.out.grown hg); have XB7 := Lib.hid (XB7.out.grown hg); clear hg)
  refine hK.out _ _ ?_ (fun hHeld => ?_)
  · exact ⟨XB7.out.cell 0, XB7.out.cell 1, XB7.out.cell 2, XB7.out.cell 3, XP0.out.cell 0, XP0.out.cell 1, XP0.out.cell 2, XP0.out.cell 3⟩
  clear hK K
  (try simp only [Act.put, List.getElem_toArray, List.getElem_cons_succ, List.getElem_cons_zero, List.setIfInBounds_toArray, List.set_cons_zero, List.set_cons_succ])
  refine wpAnyH_take (i := 4) (v := ?_) rfl (by kernel_rfl) (by kernel_rfl) (by kernel_rfl) (fun _ _ _ h => h) (Or.inl ⟨by rfl, ?_⟩) (by assumption) ?_; rotate_left; (focus (intro wS hSw; (try dsimp only at hSw); go_simp <;> with_reducible rfl)); (try simp only [Act.put, List.getElem_toArray, List.getElem_cons_succ, List.getElem_cons_zero, List.setIfInBounds_toArray, List.set_cons_zero, List.set_cons_succ])
  refine wpAnyH_done (by kernel_rfl) ?_ _
  (try simp only [Act.put, List.getElem_toArray, List.getElem_cons_succ, List.getElem_cons_zero, List.setIfInBounds_toArray, List.set_cons_zero, List.set_cons_succ])
  clear Ou9
  clear Ou10
  clear Ou5
  clear Ou6
  try clear cP0_0
  have cP0_0 : World.cell? (w16) ⟨w.heap.size, 0, none⟩ = some (.int .i64 aP_At) := XP0.out.cell 0
  try clear cP0_1
  have cP0_1 : World.cell? (w16) ⟨w.heap.size, 1, none⟩ = some (.int .i64 aP_Food) := XP0.out.cell 1
  try clear cP0_2
  have cP0_2 : World.cell? (w16) ⟨w.heap.size, 2, none⟩ = some (.slice aP_Crew_a aP_Crew_L.length aP_Crew_cap) := XP0.out.cell 2
  try clear cP0_3
  have cP0_3 : World.cell? (w16) ⟨w.heap.size, 3, none⟩ = some (.slice aP_Past_a aP_Past_L.length aP_Past_cap) := XP0.out.cell 3
  try clear cB7_0
  have cB7_0 : World.cell? (w16) ⟨w9.heap.size, 0, none⟩ = some (.int .i64 aP_At) := XB7.out.cell 0
  try clear cB7_1
  have cB7_1 : World.cell? (w16) ⟨w9.heap.size, 1, none⟩ = some (.int .i64 aP_Food) := XB7.out.cell 1
  try clear cB7_2
  have cB7_2 : World.cell? (w16) ⟨w9.heap.size, 2, none⟩ = some (.slice u5_a u5_n u5_c) := XB7.out.cell 2
  try clear cB7_3
  have cB7_3 : World.cell? (w16) ⟨w9.heap.size, 3, none⟩ = some (.slice u6_a u6_n u6_c) := XB7.out.cell 3
  go_wp2
  go_ret
  exact ⟨rfl, HB16.out⟩

set_option maxRecDepth 100000 in
/-- What the walk gives, for every argument. -/
theorem contract (H : Type) (enc : TypeId × Value → H) (W : World) (base : Nat) (args : Array Value) (ds gs : List (DataW H)) (before : List MemPlace)
    (hval : ∀ (j : Nat) t v, Try.f4.params[j]? = some t → args[j]? = some v → Value.okWide Try.prog W .any base t v)
    (hW : DataW.Whole enc Try.prog Try.f4.params.toList Rows.fnExactFoodInAllSpec.vars false W args.toList ds gs before) :
    Calls Try.prog 4 args W fun e W' => ∃ v, e = .returned v ∧ Rows.fnExactFoodInAllSpec.post enc Try.prog Try.f4 false true false false W args v W' := by
  have hW' := hW
  obtain ⟨p, q, hA0, hV, rfl, hfz, hnd⟩ := hW
  have hA : DataW.TrodAll enc Try.prog W 0 (fun _ => true) true Try.f4.params.toList args.toList ds p := hA0
  rw [Try.params4] at hA hval
  obtain ⟨v0, vs0, d0, ds0, p0, q0, hargs, rfl, rfl, h0, r0⟩ := trodAll_cons hA
  obtain ⟨v1, vs1, d1, ds1, p1, q1, rfl, rfl, rfl, h1, r1⟩ := trodAll_cons r0
  obtain ⟨rfl, rfl, rfl⟩ := trodAll_nil r1
  obtain rfl : args = #[v0, v1] := by cases args; simp_all
  obtain ⟨rfl, rfl⟩ := trodVars_none hV
  obtain ⟨a0, len0, cap0, rfl⟩ := okWide_slice Try.underlying22 (hval 0 22 v0 rfl rfl)
  have k0 := h0
  have lt0 : ∀ x ∈ p0, x.block < W.heap.size := by obtain ⟨m, hm⟩ := k0; exact DataW.trod_lt m _ _ _ hm
  obtain ⟨z0, w0⟩ := Rg.row_openG (e := Rg.encP) Try.underlying22 (by kernel_rfl) (Rg.encP_open Try.underlying76 (by kernel_rfl) Try.underlying3 Try.underlying3) h0
  have k1 := h1
  have lt1 : ∀ x ∈ p1, x.block < W.heap.size := by obtain ⟨m, hm⟩ := k1; exact DataW.trod_lt m _ _ _ hm
  obtain ⟨f1_0, f1_1, f1_2, f1_3, y1_0, y1_1, y1_2, y1_3, fn1, rfl, rfl, rfl, g1_0, g1_1, g1_2, g1_3⟩ := Go.Joins.open_agg4 Try.underlying32 (by kernel_rfl) (by kernel_rfl) (hval 1 32 v1 rfl rfl) h1
  obtain ⟨x1_0, rfl, w1_0⟩ := Kit.field_int Try.underlying3 g1_0
  obtain ⟨x1_1, rfl, w1_1⟩ := Kit.field_int Try.underlying3 g1_1
  obtain ⟨a1_2, l1_2, c1_2, z1_2, rfl, w1_2⟩ := Rg.field_rowG (e := Rg.encM) Try.underlying29 (by kernel_rfl) (Rg.encM_open Try.underlying94 (by kernel_rfl) Try.underlying3 Try.underlying3 Try.underlying3 Try.underlying4) g1_2
  obtain ⟨a1_3, l1_3, c1_3, z1_3, rfl, w1_3⟩ := Rg.field_rowG (e := Rg.encB) Try.underlying30 (by kernel_rfl) (Rg.encB_open Try.underlying4) g1_3
  clear hA0
  refine (walk W a0 len0 cap0 z0 w0 x1_0 w1_0 x1_1 w1_1 a1_2 l1_2 c1_2 z1_2 w1_2 a1_3 l1_3 c1_3 z1_3 w1_3).mono fun e W' ⟨he, bel⟩ => ?_
  subst he
  exact ⟨_, rfl, _, _, _, [], _, [], hW', trodAll_mk1 (shut_bool Try.underlying4 _), (trodAll_cons_mk (Below.trod laidOut (by kernel_rfl) (of_decide_eq_true (by kernel_rfl)) k0 bel lt0) (trodAll_cons_mk (Below.trod laidOut (by kernel_rfl) (of_decide_eq_true (by kernel_rfl)) k1 bel lt1) trodAll_mk0)), rfl, bel.frame _, fun h => by cases h⟩

noncomputable def laidWorld (os : Os) : World := World.holding Try.prog os ⟨#[], #[], []⟩
theorem reads (os : Os) {H : Type} (enc : TypeId × Value → H) : ∃ places, DataW.whole enc Try.prog ((laidWorld os).forCall (fun _ _ => 0) ⟨#[], #[.slice none 0 0, .agg #[.int .i64 0, .int .i64 0, .slice none 0 0, .slice none 0 0]], []⟩).memory Try.f4.params.toList Rows.fnExactFoodInAllSpec.vars false (#[.slice none 0 0, .agg #[.int .i64 0, .int .i64 0, .slice none 0 0, .slice none 0 0]] : Array Value).toList 8 = some ([.nil, .agg [.lit (.int .i64 0), .lit (.int .i64 0), .nil, .nil]], [], places) :=
  ⟨[], by kernel_rfl⟩

set_option maxRecDepth 100000 in
theorem lifted (os : Os) (started : os.Started) (H : Type) (enc : TypeId × Value → H) (F : Stop.Interp) :
    ReturnsInHanded {} Try.checked os 4 .any ((OpenSpec.ofChange Rows.fnExactFoodInAllSpec).preRow enc Try.prog Try.f4 Rows.fnExactFoodInAllRow.domain false Rows.fnExactFoodInAllRow.laid) (((OpenSpec.ofChange Rows.fnExactFoodInAllSpec).at F).post enc Try.prog Try.f4 false true false false) := by
  obtain ⟨places, hx⟩ := reads os enc
  refine returnsInHanded_of_row (C := Try.checked) (s := (OpenSpec.ofChange Rows.fnExactFoodInAllSpec)) own started (by kernel_rfl) Try.func4
    (witness_row_at (enc := enc) (C := Try.checked) false (laidWorld os) #[.slice none 0 0, .agg #[.int .i64 0, .int .i64 0, .slice none 0 0, .slice none 0 0]] rfl (by kernel_rfl) (by kernel_rfl) (by kernel_rfl)
      (OpenSpec.preRow_of_cond 8 hx (by kernel_rfl) (fun k hk => by cases hk) (by kernel_rfl) (laidMetH_nil _ _))) ?_
  intro W base args ds gs before hval hW _ _ _ _ _ _
  exact contract H enc W base args ds gs before hval hW

set_option maxRecDepth 100000 in
theorem said : Rows.FnExactFoodInAllSaid :=
  OpenClaim.holds_of_cond 4 Try.f4 rfl rfl rfl rfl rfl rfl rfl ⟨rfl, rfl, rfl, rfl, rfl⟩ rfl rfl rfl rfl rfl (by kernel_rfl) Try.func4 (by kernel_rfl)
    (of_decide_eq_true (by kernel_rfl)) (by unfold Func.isWrapper; first | (rw [if_pos (by decide +kernel)]; kernel_rfl) | (rw [if_neg (by decide +kernel)]; exact ⟨rfl, rfl⟩))
    (fun os started H enc _ F => by rw [OpenClaim.pre_eq_preRow]; exact lifted os started H enc F)

theorem proved : Rows.FnExactFoodInAllSaid := said
#print axioms proved
end Go.Proofs.Ytfcjbkagofccdaa.fnExactFoodInAll

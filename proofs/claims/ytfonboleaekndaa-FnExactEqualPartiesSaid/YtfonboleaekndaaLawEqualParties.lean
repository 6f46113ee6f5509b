/- The law FnExactEqualParties: the program's EqualParties answers as its model, for every argument; it writes into no argument, and its answer owns its memory. No condition. -/
import Derived.Deep.RegionHeld3
import Derived.Test.YtfonboleaekndaaRows
import Derived.Test.YtfonboleaekndaaFieldG
import Derived.Test.YtfonboleaekndaaPartyL
import Derived.Test.YtfonboleaekndaaPb
import Derived.WalkKit
import Derived.ProofKit
import Derived.OpenShut
import Derived.ShutString
import Derived.ChangeOld
import Derived.Below
import Derived.Deep.DeepHandedRow
import Derived.Deep.DeepWitnessRowRef
import Derived.Lib.LaidTab
namespace Go.Proofs.Ytfonboleaekndaa.fnExactEqualParties
open Go.ChangeShapes Go.WideShapes Go.ChangeAt Go.RowKit
open Go.ChangeMaps (open_string shut_string)
set_option linter.unusedVariables false

theorem own : ownKnob Try.prog.godebug = none := by kernel_rfl
theorem laidOut : laidOutB Try.prog = true := by kernel_rfl

open Kit Rw
set_option maxRecDepth 100000 in
set_option maxHeartbeats 4000000 in
theorem walk (w : World) (aA_At : Int) (aA_At_h : (Lit.int .i64 aA_At).wf = true) (aA_Food : Int) (aA_Food_h : (Lit.int .i64 aA_Food).wf = true) (aA_Crew_a : Option Addr) (aA_Crew_len aA_Crew_cap : Nat) (aA_Crew_L : List Rg.Mem) (aA_Crew_h : aA_Crew_L.length = aA_Crew_len ∧ Rg.SeesG Rg.encM w (.slice aA_Crew_a aA_Crew_len aA_Crew_cap) aA_Crew_L) (aA_Past_a : Option Addr) (aA_Past_len aA_Past_cap : Nat) (aA_Past_L : List Bool) (aA_Past_h : aA_Past_L.length = aA_Past_len ∧ Rg.SeesG Rg.encB w (.slice aA_Past_a aA_Past_len aA_Past_cap) aA_Past_L) (aB_At : Int) (aB_At_h : (Lit.int .i64 aB_At).wf = true) (aB_Food : Int) (aB_Food_h : (Lit.int .i64 aB_Food).wf = true) (aB_Crew_a : Option Addr) (aB_Crew_len aB_Crew_cap : Nat) (aB_Crew_L : List Rg.Mem) (aB_Crew_h : aB_Crew_L.length = aB_Crew_len ∧ Rg.SeesG Rg.encM w (.slice aB_Crew_a aB_Crew_len aB_Crew_cap) aB_Crew_L) (aB_Past_a : Option Addr) (aB_Past_len aB_Past_cap : Nat) (aB_Past_L : List Bool) (aB_Past_h : aB_Past_L.length = aB_Past_len ∧ Rg.SeesG Rg.encB w (.slice aB_Past_a aB_Past_len aB_Past_cap) aB_Past_L) :
    Calls Try.prog 11 #[.agg #[.int .i64 aA_At, .int .i64 aA_Food, .slice aA_Crew_a aA_Crew_len aA_Crew_cap, .slice aA_Past_a aA_Past_len aA_Past_cap], .agg #[.int .i64 aB_At, .int .i64 aB_Food, .slice aB_Crew_a aB_Crew_len aB_Crew_cap, .slice aB_Past_a aB_Past_len aB_Past_cap]] w fun e w' => e = .returned (.bool true) ∧ Below w.heap.size w w' := by
  obtain ⟨aA_Crew_e, aA_Crew_s0⟩ := aA_Crew_h; have aA_Crew_S := Lib.hid aA_Crew_s0; have aA_Crew_len0 := aA_Crew_s0.len; subst aA_Crew_e; clear aA_Crew_s0
  obtain ⟨aA_Past_e, aA_Past_s0⟩ := aA_Past_h; have aA_Past_S := Lib.hid aA_Past_s0; have aA_Past_len0 := aA_Past_s0.len; subst aA_Past_e; clear aA_Past_s0
  obtain ⟨aB_Crew_e, aB_Crew_s0⟩ := aB_Crew_h; have aB_Crew_S := Lib.hid aB_Crew_s0; have aB_Crew_len0 := aB_Crew_s0.len; subst aB_Crew_e; clear aB_Crew_s0
  obtain ⟨aB_Past_e, aB_Past_s0⟩ := aB_Past_h; have aB_Past_S := Lib.hid aB_Past_s0; have aB_Past_len0 := aB_Past_s0.len; subst aB_Past_e; clear aB_Past_s0
  have aA_At_H := Lib.hid aA_At_h; have aA_At_b := i64_of aA_At_h; clear aA_At_h
  have aA_Food_H := Lib.hid aA_Food_h; have aA_Food_b := i64_of aA_Food_h; clear aA_Food_h
  have aB_At_H := Lib.hid aB_At_h; have aB_At_b := i64_of aB_At_h; clear aB_At_h
  have aB_Food_H := Lib.hid aB_Food_h; have aB_Food_b := i64_of aB_Food_h; clear aB_Food_h
  by_cases aA_l : (aA_Crew_L.length : Int) + (aA_Past_L.length : Int) ≤ (1048576 : Int)
  rotate_left
  ·
    have HB0 : Hid (Below w.heap.size w w) := Below.refl _ _
    have hgb := World.grownBy_alloc w (.cells #[.int .i64 aA_At, .int .i64 aA_Food, .slice aA_Crew_a aA_Crew_L.length aA_Crew_cap, .slice aA_Past_a aA_Past_L.length aA_Past_cap] 43 (0, 0)) none
    have HB1 := Lib.hid (HB0.out.grown hgb HB0.out.size (fun _ h => by cases h)); clear HB0
    have XP0 := Lib.hid (box_new w #[.int .i64 aA_At, .int .i64 aA_Food, .slice aA_Crew_a aA_Crew_L.length aA_Crew_cap, .slice aA_Past_a aA_Past_L.length aA_Past_cap] 43); clear hgb
    have hgb := World.grownBy_alloc (w.alloc (.cells #[.int .i64 aA_At, .int .i64 aA_Food, .slice aA_Crew_a aA_Crew_L.length aA_Crew_cap, .slice aA_Past_a aA_Past_L.length aA_Past_cap] 43 (0, 0))) (.cells #[.int .i64 aB_At, .int .i64 aB_Food, .slice aB_Crew_a aB_Crew_L.length aB_Crew_cap, .slice aB_Past_a aB_Past_L.length aB_Past_cap] 43 (0, 0)) none
    have HB2 := Lib.hid (HB1.out.grown hgb HB1.out.size (fun _ h => by cases h)); clear HB1
    have XP0 := Lib.hid (XP0.out.grown hgb)
    have XP1 := Lib.hid (box_new (w.alloc (.cells #[.int .i64 aA_At, .int .i64 aA_Food, .slice aA_Crew_a aA_Crew_L.length aA_Crew_cap, .slice aA_Past_a aA_Past_L.length aA_Past_cap] 43 (0, 0))) #[.int .i64 aB_At, .int .i64 aB_Food, .slice aB_Crew_a aB_Crew_L.length aB_Crew_cap, .slice aB_Past_a aB_Past_L.length aB_Past_cap] 43); clear hgb
    simp only [World.size_alloc] at XP1
    go_enter Try.func11, Try.ntmps11
    try clear cP0_0
    have cP0_0 : World.cell? ((w.alloc (.cells #[.int .i64 aA_At, .int .i64 aA_Food, .slice aA_Crew_a aA_Crew_L.length aA_Crew_cap, .slice aA_Past_a aA_Past_L.length aA_Past_cap] 43 (0, 0))).alloc (.cells #[.int .i64 aB_At, .int .i64 aB_Food, .slice aB_Crew_a aB_Crew_L.length aB_Crew_cap, .slice aB_Past_a aB_Past_L.length aB_Past_cap] 43 (0, 0))) ⟨w.heap.size, 0, none⟩ = some (.int .i64 aA_At) := XP0.out.cell 0
    try clear cP0_1
    have cP0_1 : World.cell? ((w.alloc (.cells #[.int .i64 aA_At, .int .i64 aA_Food, .slice aA_Crew_a aA_Crew_L.length aA_Crew_cap, .slice aA_Past_a aA_Past_L.length aA_Past_cap] 43 (0, 0))).alloc (.cells #[.int .i64 aB_At, .int .i64 aB_Food, .slice aB_Crew_a aB_Crew_L.length aB_Crew_cap, .slice aB_Past_a aB_Past_L.length aB_Past_cap] 43 (0, 0))) ⟨w.heap.size, 1, none⟩ = some (.int .i64 aA_Food) := XP0.out.cell 1
    try clear cP0_2
    have cP0_2 : World.cell? ((w.alloc (.cells #[.int .i64 aA_At, .int .i64 aA_Food, .slice aA_Crew_a aA_Crew_L.length aA_Crew_cap, .slice aA_Past_a aA_Past_L.length aA_Past_cap] 43 (0, 0))).alloc (.cells #[.int .i64 aB_At, .int .i64 aB_Food, .slice aB_Crew_a aB_Crew_L.length aB_Crew_cap, .slice aB_Past_a aB_Past_L.length aB_Past_cap] 43 (0, 0))) ⟨w.heap.size, 2, none⟩ = some (.slice aA_Crew_a aA_Crew_L.length aA_Crew_cap) := XP0.out.cell 2
    try clear cP0_3
    have cP0_3 : World.cell? ((w.alloc (.cells #[.int .i64 aA_At, .int .i64 aA_Food, .slice aA_Crew_a aA_Crew_L.length aA_Crew_cap, .slice aA_Past_a aA_Past_L.length aA_Past_cap] 43 (0, 0))).alloc (.cells #[.int .i64 aB_At, .int .i64 aB_Food, .slice aB_Crew_a aB_Crew_L.length aB_Crew_cap, .slice aB_Past_a aB_Past_L.length aB_Past_cap] 43 (0, 0))) ⟨w.heap.size, 3, none⟩ = some (.slice aA_Past_a aA_Past_L.length aA_Past_cap) := XP0.out.cell 3
    try clear cP1_0
    have cP1_0 : World.cell? ((w.alloc (.cells #[.int .i64 aA_At, .int .i64 aA_Food, .slice aA_Crew_a aA_Crew_L.length aA_Crew_cap, .slice aA_Past_a aA_Past_L.length aA_Past_cap] 43 (0, 0))).alloc (.cells #[.int .i64 aB_At, .int .i64 aB_Food, .slice aB_Crew_a aB_Crew_L.length aB_Crew_cap, .slice aB_Past_a aB_Past_L.length aB_Past_cap] 43 (0, 0))) ⟨w.heap.size + 1, 0, none⟩ = some (.int .i64 aB_At) := XP1.out.cell 0
    try clear cP1_1
    have cP1_1 : World.cell? ((w.alloc (.cells #[.int .i64 aA_At, .int .i64 aA_Food, .slice aA_Crew_a aA_Crew_L.length aA_Crew_cap, .slice aA_Past_a aA_Past_L.length aA_Past_cap] 43 (0, 0))).alloc (.cells #[.int .i64 aB_At, .int .i64 aB_Food, .slice aB_Crew_a aB_Crew_L.length aB_Crew_cap, .slice aB_Past_a aB_Past_L.length aB_Past_cap] 43 (0, 0))) ⟨w.heap.size + 1, 1, none⟩ = some (.int .i64 aB_Food) := XP1.out.cell 1
    try clear cP1_2
    have cP1_2 : World.cell? ((w.alloc (.cells #[.int .i64 aA_At, .int .i64 aA_Food, .slice aA_Crew_a aA_Crew_L.length aA_Crew_cap, .slice aA_Past_a aA_Past_L.length aA_Past_cap] 43 (0, 0))).alloc (.cells #[.int .i64 aB_At, .int .i64 aB_Food, .slice aB_Crew_a aB_Crew_L.length aB_Crew_cap, .slice aB_Past_a aB_Past_L.length aB_Past_cap] 43 (0, 0))) ⟨w.heap.size + 1, 2, none⟩ = some (.slice aB_Crew_a aB_Crew_L.length aB_Crew_cap) := XP1.out.cell 2
    try clear cP1_3
    have cP1_3 : World.cell? ((w.alloc (.cells #[.int .i64 aA_At, .int .i64 aA_Food, .slice aA_Crew_a aA_Crew_L.length aA_Crew_cap, .slice aA_Past_a aA_Past_L.length aA_Past_cap] 43 (0, 0))).alloc (.cells #[.int .i64 aB_At, .int .i64 aB_Food, .slice aB_Crew_a aB_Crew_L.length aB_Crew_cap, .slice aB_Past_a aB_Past_L.length aB_Past_cap] 43 (0, 0))) ⟨w.heap.size + 1, 3, none⟩ = some (.slice aB_Past_a aB_Past_L.length aB_Past_cap) := XP1.out.cell 3
    go_wp2_with fail
    generalize (w.alloc (.cells #[.int .i64 aA_At, .int .i64 aA_Food, .slice aA_Crew_a aA_Crew_L.length aA_Crew_cap, .slice aA_Past_a aA_Past_L.length aA_Past_cap] 43 (0, 0))).alloc (.cells #[.int .i64 aB_At, .int .i64 aB_Food, .slice aB_Crew_a aB_Crew_L.length aB_Crew_cap, .slice aB_Past_a aB_Past_L.length aB_Past_cap] 43 (0, 0)) = w1 at *
    refine (PartyL.szParty_no w1 aA_At aA_Food _ _ _ _ (1048576 : Int) (aA_Crew_S.out.below HB2.out) (aA_Past_S.out.below HB2.out) (by omega) (by omega) (by omega)).mono ?_
    rintro e w2 ⟨rfl, hg⟩
    have HB3 := Lib.hid (HB2.out.grown hg HB2.out.size (fun _ h => by cases h)); clear HB2
    have XP0 := Lib.hid (XP0.out.grown hg)
    have XP1 := Lib.hid (XP1.out.grown hg)
    clear hg
    try clear cP0_0
    have cP0_0 : World.cell? (w2) ⟨w.heap.size, 0, none⟩ = some (.int .i64 aA_At) := XP0.out.cell 0
    try clear cP0_1
    have cP0_1 : World.cell? (w2) ⟨w.heap.size, 1, none⟩ = some (.int .i64 aA_Food) := XP0.out.cell 1
    try clear cP0_2
    have cP0_2 : World.cell? (w2) ⟨w.heap.size, 2, none⟩ = some (.slice aA_Crew_a aA_Crew_L.length aA_Crew_cap) := XP0.out.cell 2
    try clear cP0_3
    have cP0_3 : World.cell? (w2) ⟨w.heap.size, 3, none⟩ = some (.slice aA_Past_a aA_Past_L.length aA_Past_cap) := XP0.out.cell 3
    try clear cP1_0
    have cP1_0 : World.cell? (w2) ⟨w.heap.size + 1, 0, none⟩ = some (.int .i64 aB_At) := XP1.out.cell 0
    try clear cP1_1
    have cP1_1 : World.cell? (w2) ⟨w.heap.size + 1, 1, none⟩ = some (.int .i64 aB_Food) := XP1.out.cell 1
    try clear cP1_2
    have cP1_2 : World.cell? (w2) ⟨w.heap.size + 1, 2, none⟩ = some (.slice aB_Crew_a aB_Crew_L.length aB_Crew_cap) := XP1.out.cell 2
    try clear cP1_3
    have cP1_3 : World.cell? (w2) ⟨w.heap.size + 1, 3, none⟩ = some (.slice aB_Past_a aB_Past_L.length aB_Past_cap) := XP1.out.cell 3
    go_wp2
    go_ret
    exact ⟨rfl, HB3.out⟩
  by_cases aB_l : (aB_Crew_L.length : Int) + (aB_Past_L.length : Int) ≤ ((1048576 : Int) - ((aA_Crew_L.length : Int) + (aA_Past_L.length : Int)))
  rotate_left
  ·
    have HB0 : Hid (Below w.heap.size w w) := Below.refl _ _
    have hgb := World.grownBy_alloc w (.cells #[.int .i64 aA_At, .int .i64 aA_Food, .slice aA_Crew_a aA_Crew_L.length aA_Crew_cap, .slice aA_Past_a aA_Past_L.length aA_Past_cap] 43 (0, 0)) none
    have HB1 := Lib.hid (HB0.out.grown hgb HB0.out.size (fun _ h => by cases h)); clear HB0
    have XP0 := Lib.hid (box_new w #[.int .i64 aA_At, .int .i64 aA_Food, .slice aA_Crew_a aA_Crew_L.length aA_Crew_cap, .slice aA_Past_a aA_Past_L.length aA_Past_cap] 43); clear hgb
    have hgb := World.grownBy_alloc (w.alloc (.cells #[.int .i64 aA_At, .int .i64 aA_Food, .slice aA_Crew_a aA_Crew_L.length aA_Crew_cap, .slice aA_Past_a aA_Past_L.length aA_Past_cap] 43 (0, 0))) (.cells #[.int .i64 aB_At, .int .i64 aB_Food, .slice aB_Crew_a aB_Crew_L.length aB_Crew_cap, .slice aB_Past_a aB_Past_L.length aB_Past_cap] 43 (0, 0)) none
    have HB2 := Lib.hid (HB1.out.grown hgb HB1.out.size (fun _ h => by cases h)); clear HB1
    have XP0 := Lib.hid (XP0.out.grown hgb)
    have XP1 := Lib.hid (box_new (w.alloc (.cells #[.int .i64 aA_At, .int .i64 aA_Food, .slice aA_Crew_a aA_Crew_L.length aA_Crew_cap, .slice aA_Past_a aA_Past_L.length aA_Past_cap] 43 (0, 0))) #[.int .i64 aB_At, .int .i64 aB_Food, .slice aB_Crew_a aB_Crew_L.length aB_Crew_cap, .slice aB_Past_a aB_Past_L.length aB_Past_cap] 43); clear hgb
    simp only [World.size_alloc] at XP1
    go_enter Try.func11, Try.ntmps11
    try clear cP0_0
    have cP0_0 : World.cell? ((w.alloc (.cells #[.int .i64 aA_At, .int .i64 aA_Food, .slice aA_Crew_a aA_Crew_L.length aA_Crew_cap, .slice aA_Past_a aA_Past_L.length aA_Past_cap] 43 (0, 0))).alloc (.cells #[.int .i64 aB_At, .int .i64 aB_Food, .slice aB_Crew_a aB_Crew_L.length aB_Crew_cap, .slice aB_Past_a aB_Past_L.length aB_Past_cap] 43 (0, 0))) ⟨w.heap.size, 0, none⟩ = some (.int .i64 aA_At) := XP0.out.cell 0
    try clear cP0_1
    have cP0_1 : World.cell? ((w.alloc (.cells #[.int .i64 aA_At, .int .i64 aA_Food, .slice aA_Crew_a aA_Crew_L.length aA_Crew_cap, .slice aA_Past_a aA_Past_L.length aA_Past_cap] 43 (0, 0))).alloc (.cells #[.int .i64 aB_At, .int .i64 aB_Food, .slice aB_Crew_a aB_Crew_L.length aB_Crew_cap, .slice aB_Past_a aB_Past_L.length aB_Past_cap] 43 (0, 0))) ⟨w.heap.size, 1, none⟩ = some (.int .i64 aA_Food) := XP0.out.cell 1
    try clear cP0_2
    have cP0_2 : World.cell? ((w.alloc (.cells #[.int .i64 aA_At, .int .i64 aA_Food, .slice aA_Crew_a aA_Crew_L.length aA_Crew_cap, .slice aA_Past_a aA_Past_L.length aA_Past_cap] 43 (0, 0))).alloc (.cells #[.int .i64 aB_At, .int .i64 aB_Food, .slice aB_Crew_a aB_Crew_L.length aB_Crew_cap, .slice aB_Past_a aB_Past_L.length aB_Past_cap] 43 (0, 0))) ⟨w.heap.size, 2, none⟩ = some (.slice aA_Crew_a aA_Crew_L.length aA_Crew_cap) := XP0.out.cell 2
    try clear cP0_3
    have cP0_3 : World.cell? ((w.alloc (.cells #[.int .i64 aA_At, .int .i64 aA_Food, .slice aA_Crew_a aA_Crew_L.length aA_Crew_cap, .slice aA_Past_a aA_Past_L.length aA_Past_cap] 43 (0, 0))).alloc (.cells #[.int .i64 aB_At, .int .i64 aB_Food, .slice aB_Crew_a aB_Crew_L.length aB_Crew_cap, .slice aB_Past_a aB_Past_L.length aB_Past_cap] 43 (0, 0))) ⟨w.heap.size, 3, none⟩ = some (.slice aA_Past_a aA_Past_L.length aA_Past_cap) := XP0.out.cell 3
    try clear cP1_0
    have cP1_0 : World.cell? ((w.alloc (.cells #[.int .i64 aA_At, .int .i64 aA_Food, .slice aA_Crew_a aA_Crew_L.length aA_Crew_cap, .slice aA_Past_a aA_Past_L.length aA_Past_cap] 43 (0, 0))).alloc (.cells #[.int .i64 aB_At, .int .i64 aB_Food, .slice aB_Crew_a aB_Crew_L.length aB_Crew_cap, .slice aB_Past_a aB_Past_L.length aB_Past_cap] 43 (0, 0))) ⟨w.heap.size + 1, 0, none⟩ = some (.int .i64 aB_At) := XP1.out.cell 0
    try clear cP1_1
    have cP1_1 : World.cell? ((w.alloc (.cells #[.int .i64 aA_At, .int .i64 aA_Food, .slice aA_Crew_a aA_Crew_L.length aA_Crew_cap, .slice aA_Past_a aA_Past_L.length aA_Past_cap] 43 (0, 0))).alloc (.cells #[.int .i64 aB_At, .int .i64 aB_Food, .slice aB_Crew_a aB_Crew_L.length aB_Crew_cap, .slice aB_Past_a aB_Past_L.length aB_Past_cap] 43 (0, 0))) ⟨w.heap.size + 1, 1, none⟩ = some (.int .i64 aB_Food) := XP1.out.cell 1
    try clear cP1_2
    have cP1_2 : World.cell? ((w.alloc (.cells #[.int .i64 aA_At, .int .i64 aA_Food, .slice aA_Crew_a aA_Crew_L.length aA_Crew_cap, .slice aA_Past_a aA_Past_L.length aA_Past_cap] 43 (0, 0))).alloc (.cells #[.int .i64 aB_At, .int .i64 aB_Food, .slice aB_Crew_a aB_Crew_L.length aB_Crew_cap, .slice aB_Past_a aB_Past_L.length aB_Past_cap] 43 (0, 0))) ⟨w.heap.size + 1, 2, none⟩ = some (.slice aB_Crew_a aB_Crew_L.length aB_Crew_cap) := XP1.out.cell 2
    try clear cP1_3
    have cP1_3 : World.cell? ((w.alloc (.cells #[.int .i64 aA_At, .int .i64 aA_Food, .slice aA_Crew_a aA_Crew_L.length aA_Crew_cap, .slice aA_Past_a aA_Past_L.length aA_Past_cap] 43 (0, 0))).alloc (.cells #[.int .i64 aB_At, .int .i64 aB_Food, .slice aB_Crew_a aB_Crew_L.length aB_Crew_cap, .slice aB_Past_a aB_Past_L.length aB_Past_cap] 43 (0, 0))) ⟨w.heap.size + 1, 3, none⟩ = some (.slice aB_Past_a aB_Past_L.length aB_Past_cap) := XP1.out.cell 3
    go_wp2_with fail
    generalize (w.alloc (.cells #[.int .i64 aA_At, .int .i64 aA_Food, .slice aA_Crew_a aA_Crew_L.length aA_Crew_cap, .slice aA_Past_a aA_Past_L.length aA_Past_cap] 43 (0, 0))).alloc (.cells #[.int .i64 aB_At, .int .i64 aB_Food, .slice aB_Crew_a aB_Crew_L.length aB_Crew_cap, .slice aB_Past_a aB_Past_L.length aB_Past_cap] 43 (0, 0)) = w1 at *
    refine (PartyL.szParty_yes w1 aA_At aA_Food _ _ _ _ (1048576 : Int) (aA_Crew_S.out.below HB2.out) (aA_Past_S.out.below HB2.out) (by omega) (by omega) (by omega)).mono ?_
    rintro e w2 ⟨rfl, hg⟩
    have HB3 := Lib.hid (HB2.out.grown hg HB2.out.size (fun _ h => by cases h)); clear HB2
    have XP0 := Lib.hid (XP0.out.grown hg)
    have XP1 := Lib.hid (XP1.out.grown hg)
    clear hg
    try clear cP0_0
    have cP0_0 : World.cell? (w2) ⟨w.heap.size, 0, none⟩ = some (.int .i64 aA_At) := XP0.out.cell 0
    try clear cP0_1
    have cP0_1 : World.cell? (w2) ⟨w.heap.size, 1, none⟩ = some (.int .i64 aA_Food) := XP0.out.cell 1
    try clear cP0_2
    have cP0_2 : World.cell? (w2) ⟨w.heap.size, 2, none⟩ = some (.slice aA_Crew_a aA_Crew_L.length aA_Crew_cap) := XP0.out.cell 2
    try clear cP0_3
    have cP0_3 : World.cell? (w2) ⟨w.heap.size, 3, none⟩ = some (.slice aA_Past_a aA_Past_L.length aA_Past_cap) := XP0.out.cell 3
    try clear cP1_0
    have cP1_0 : World.cell? (w2) ⟨w.heap.size + 1, 0, none⟩ = some (.int .i64 aB_At) := XP1.out.cell 0
    try clear cP1_1
    have cP1_1 : World.cell? (w2) ⟨w.heap.size + 1, 1, none⟩ = some (.int .i64 aB_Food) := XP1.out.cell 1
    try clear cP1_2
    have cP1_2 : World.cell? (w2) ⟨w.heap.size + 1, 2, none⟩ = some (.slice aB_Crew_a aB_Crew_L.length aB_Crew_cap) := XP1.out.cell 2
    try clear cP1_3
    have cP1_3 : World.cell? (w2) ⟨w.heap.size + 1, 3, none⟩ = some (.slice aB_Past_a aB_Past_L.length aB_Past_cap) := XP1.out.cell 3
    go_wp2_with fail
    refine (PartyL.szParty_no w2 aB_At aB_Food _ _ _ _ ((1048576 : Int) - ((aA_Crew_L.length : Int) + (aA_Past_L.length : Int))) (aB_Crew_S.out.below HB3.out) (aB_Past_S.out.below HB3.out) (by omega) (by omega) (by omega)).mono ?_
    rintro e w3 ⟨rfl, hg⟩
    have HB4 := Lib.hid (HB3.out.grown hg HB3.out.size (fun _ h => by cases h)); clear HB3
    have XP0 := Lib.hid (XP0.out.grown hg)
    have XP1 := Lib.hid (XP1.out.grown hg)
    clear hg
    try clear cP0_0
    have cP0_0 : World.cell? (w3) ⟨w.heap.size, 0, none⟩ = some (.int .i64 aA_At) := XP0.out.cell 0
    try clear cP0_1
    have cP0_1 : World.cell? (w3) ⟨w.heap.size, 1, none⟩ = some (.int .i64 aA_Food) := XP0.out.cell 1
    try clear cP0_2
    have cP0_2 : World.cell? (w3) ⟨w.heap.size, 2, none⟩ = some (.slice aA_Crew_a aA_Crew_L.length aA_Crew_cap) := XP0.out.cell 2
    try clear cP0_3
    have cP0_3 : World.cell? (w3) ⟨w.heap.size, 3, none⟩ = some (.slice aA_Past_a aA_Past_L.length aA_Past_cap) := XP0.out.cell 3
    try clear cP1_0
    have cP1_0 : World.cell? (w3) ⟨w.heap.size + 1, 0, none⟩ = some (.int .i64 aB_At) := XP1.out.cell 0
    try clear cP1_1
    have cP1_1 : World.cell? (w3) ⟨w.heap.size + 1, 1, none⟩ = some (.int .i64 aB_Food) := XP1.out.cell 1
    try clear cP1_2
    have cP1_2 : World.cell? (w3) ⟨w.heap.size + 1, 2, none⟩ = some (.slice aB_Crew_a aB_Crew_L.length aB_Crew_cap) := XP1.out.cell 2
    try clear cP1_3
    have cP1_3 : World.cell? (w3) ⟨w.heap.size + 1, 3, none⟩ = some (.slice aB_Past_a aB_Past_L.length aB_Past_cap) := XP1.out.cell 3
    go_wp2
    go_ret
    exact ⟨rfl, HB4.out⟩
  have HB0 : Hid (Below w.heap.size w w) := Below.refl _ _
  have hgb := World.grownBy_alloc w (.cells #[.int .i64 aA_At, .int .i64 aA_Food, .slice aA_Crew_a aA_Crew_L.length aA_Crew_cap, .slice aA_Past_a aA_Past_L.length aA_Past_cap] 43 (0, 0)) none
  have HB1 := Lib.hid (HB0.out.grown hgb HB0.out.size (fun _ h => by cases h)); clear HB0
  have XP0 := Lib.hid (box_new w #[.int .i64 aA_At, .int .i64 aA_Food, .slice aA_Crew_a aA_Crew_L.length aA_Crew_cap, .slice aA_Past_a aA_Past_L.length aA_Past_cap] 43); clear hgb
  have hgb := World.grownBy_alloc (w.alloc (.cells #[.int .i64 aA_At, .int .i64 aA_Food, .slice aA_Crew_a aA_Crew_L.length aA_Crew_cap, .slice aA_Past_a aA_Past_L.length aA_Past_cap] 43 (0, 0))) (.cells #[.int .i64 aB_At, .int .i64 aB_Food, .slice aB_Crew_a aB_Crew_L.length aB_Crew_cap, .slice aB_Past_a aB_Past_L.length aB_Past_cap] 43 (0, 0)) none
  have HB2 := Lib.hid (HB1.out.grown hgb HB1.out.size (fun _ h => by cases h)); clear HB1
  have XP0 := Lib.hid (XP0.out.grown hgb)
  have XP1 := Lib.hid (box_new (w.alloc (.cells #[.int .i64 aA_At, .int .i64 aA_Food, .slice aA_Crew_a aA_Crew_L.length aA_Crew_cap, .slice aA_Past_a aA_Past_L.length aA_Past_cap] 43 (0, 0))) #[.int .i64 aB_At, .int .i64 aB_Food, .slice aB_Crew_a aB_Crew_L.length aB_Crew_cap, .slice aB_Past_a aB_Past_L.length aB_Past_cap] 43); clear hgb
  simp only [World.size_alloc] at XP1
  go_enter Try.func11, Try.ntmps11
  try clear cP0_0
  have cP0_0 : World.cell? ((w.alloc (.cells #[.int .i64 aA_At, .int .i64 aA_Food, .slice aA_Crew_a aA_Crew_L.length aA_Crew_cap, .slice aA_Past_a aA_Past_L.length aA_Past_cap] 43 (0, 0))).alloc (.cells #[.int .i64 aB_At, .int .i64 aB_Food, .slice aB_Crew_a aB_Crew_L.length aB_Crew_cap, .slice aB_Past_a aB_Past_L.length aB_Past_cap] 43 (0, 0))) ⟨w.heap.size, 0, none⟩ = some (.int .i64 aA_At) := XP0.out.cell 0
  try clear cP0_1
  have cP0_1 : World.cell? ((w.alloc (.cells #[.int .i64 aA_At, .int .i64 aA_Food, .slice aA_Crew_a aA_Crew_L.length aA_Crew_cap, .slice aA_Past_a aA_Past_L.length aA_Past_cap] 43 (0, 0))).alloc (.cells #[.int .i64 aB_At, .int .i64 aB_Food, .slice aB_Crew_a aB_Crew_L.length aB_Crew_cap, .slice aB_Past_a aB_Past_L.length aB_Past_cap] 43 (0, 0))) ⟨w.heap.size, 1, none⟩ = some (.int .i64 aA_Food) := XP0.out.cell 1
  try clear cP0_2
  have cP0_2 : World.cell? ((w.alloc (.cells #[.int .i64 aA_At, .int .i64 aA_Food, .slice aA_Crew_a aA_Crew_L.length aA_Crew_cap, .slice aA_Past_a aA_Past_L.length aA_Past_cap] 43 (0, 0))).alloc (.cells #[.int .i64 aB_At, .int .i64 aB_Food, .slice aB_Crew_a aB_Crew_L.length aB_Crew_cap, .slice aB_Past_a aB_Past_L.length aB_Past_cap] 43 (0, 0))) ⟨w.heap.size, 2, none⟩ = some (.slice aA_Crew_a aA_Crew_L.length aA_Crew_cap) := XP0.out.cell 2
  try clear cP0_3
  have cP0_3 : World.cell? ((w.alloc (.cells #[.int .i64 aA_At, .int .i64 aA_Food, .slice aA_Crew_a aA_Crew_L.length aA_Crew_cap, .slice aA_Past_a aA_Past_L.length aA_Past_cap] 43 (0, 0))).alloc (.cells #[.int .i64 aB_At, .int .i64 aB_Food, .slice aB_Crew_a aB_Crew_L.length aB_Crew_cap, .slice aB_Past_a aB_Past_L.length aB_Past_cap] 43 (0, 0))) ⟨w.heap.size, 3, none⟩ = some (.slice aA_Past_a aA_Past_L.length aA_Past_cap) := XP0.out.cell 3
  try clear cP1_0
  have cP1_0 : World.cell? ((w.alloc (.cells #[.int .i64 aA_At, .int .i64 aA_Food, .slice aA_Crew_a aA_Crew_L.length aA_Crew_cap, .slice aA_Past_a aA_Past_L.length aA_Past_cap] 43 (0, 0))).alloc (.cells #[.int .i64 aB_At, .int .i64 aB_Food, .slice aB_Crew_a aB_Crew_L.length aB_Crew_cap, .slice aB_Past_a aB_Past_L.length aB_Past_cap] 43 (0, 0))) ⟨w.heap.size + 1, 0, none⟩ = some (.int .i64 aB_At) := XP1.out.cell 0
  try clear cP1_1
  have cP1_1 : World.cell? ((w.alloc (.cells #[.int .i64 aA_At, .int .i64 aA_Food, .slice aA_Crew_a aA_Crew_L.length aA_Crew_cap, .slice aA_Past_a aA_Past_L.length aA_Past_cap] 43 (0, 0))).alloc (.cells #[.int .i64 aB_At, .int .i64 aB_Food, .slice aB_Crew_a aB_Crew_L.length aB_Crew_cap, .slice aB_Past_a aB_Past_L.length aB_Past_cap] 43 (0, 0))) ⟨w.heap.size + 1, 1, none⟩ = some (.int .i64 aB_Food) := XP1.out.cell 1
  try clear cP1_2
  have cP1_2 : World.cell? ((w.alloc (.cells #[.int .i64 aA_At, .int .i64 aA_Food, .slice aA_Crew_a aA_Crew_L.length aA_Crew_cap, .slice aA_Past_a aA_Past_L.length aA_Past_cap] 43 (0, 0))).alloc (.cells #[.int .i64 aB_At, .int .i64 aB_Food, .slice aB_Crew_a aB_Crew_L.length aB_Crew_cap, .slice aB_Past_a aB_Past_L.length aB_Past_cap] 43 (0, 0))) ⟨w.heap.size + 1, 2, none⟩ = some (.slice aB_Crew_a aB_Crew_L.length aB_Crew_cap) := XP1.out.cell 2
  try clear cP1_3
  have cP1_3 : World.cell? ((w.alloc (.cells #[.int .i64 aA_At, .int .i64 aA_Food, .slice aA_Crew_a aA_Crew_L.length aA_Crew_cap, .slice aA_Past_a aA_Past_L.length aA_Past_cap] 43 (0, 0))).alloc (.cells #[.int .i64 aB_At, .int .i64 aB_Food, .slice aB_Crew_a aB_Crew_L.length aB_Crew_cap, .slice aB_Past_a aB_Past_L.length aB_Past_cap] 43 (0, 0))) ⟨w.heap.size + 1, 3, none⟩ = some (.slice aB_Past_a aB_Past_L.length aB_Past_cap) := XP1.out.cell 3
  go_wp2_with fail
  generalize (w.alloc (.cells #[.int .i64 aA_At, .int .i64 aA_Food, .slice aA_Crew_a aA_Crew_L.length aA_Crew_cap, .slice aA_Past_a aA_Past_L.length aA_Past_cap] 43 (0, 0))).alloc (.cells #[.int .i64 aB_At, .int .i64 aB_Food, .slice aB_Crew_a aB_Crew_L.length aB_Crew_cap, .slice aB_Past_a aB_Past_L.length aB_Past_cap] 43 (0, 0)) = w1 at *
  refine (PartyL.szParty_yes w1 aA_At aA_Food _ _ _ _ (1048576 : Int) (aA_Crew_S.out.below HB2.out) (aA_Past_S.out.below HB2.out) (by omega) (by omega) (by omega)).mono ?_
  rintro e w2 ⟨rfl, hg⟩
  have HB3 := Lib.hid (HB2.out.grown hg HB2.out.size (fun _ h => by cases h)); clear HB2
  have XP0 := Lib.hid (XP0.out.grown hg)
  have XP1 := Lib.hid (XP1.out.grown hg)
  clear hg
  try clear cP0_0
  have cP0_0 : World.cell? (w2) ⟨w.heap.size, 0, none⟩ = some (.int .i64 aA_At) := XP0.out.cell 0
  try clear cP0_1
  have cP0_1 : World.cell? (w2) ⟨w.heap.size, 1, none⟩ = some (.int .i64 aA_Food) := XP0.out.cell 1
  try clear cP0_2
  have cP0_2 : World.cell? (w2) ⟨w.heap.size, 2, none⟩ = some (.slice aA_Crew_a aA_Crew_L.length aA_Crew_cap) := XP0.out.cell 2
  try clear cP0_3
  have cP0_3 : World.cell? (w2) ⟨w.heap.size, 3, none⟩ = some (.slice aA_Past_a aA_Past_L.length aA_Past_cap) := XP0.out.cell 3
  try clear cP1_0
  have cP1_0 : World.cell? (w2) ⟨w.heap.size + 1, 0, none⟩ = some (.int .i64 aB_At) := XP1.out.cell 0
  try clear cP1_1
  have cP1_1 : World.cell? (w2) ⟨w.heap.size + 1, 1, none⟩ = some (.int .i64 aB_Food) := XP1.out.cell 1
  try clear cP1_2
  have cP1_2 : World.cell? (w2) ⟨w.heap.size + 1, 2, none⟩ = some (.slice aB_Crew_a aB_Crew_L.length aB_Crew_cap) := XP1.out.cell 2
  try clear cP1_3
  have cP1_3 : World.cell? (w2) ⟨w.heap.size + 1, 3, none⟩ = some (.slice aB_Past_a aB_Past_L.length aB_Past_cap) := XP1.out.cell 3
  go_wp2_with fail
  refine (PartyL.szParty_yes w2 aB_At aB_Food _ _ _ _ ((1048576 : Int) - ((aA_Crew_L.length : Int) + (aA_Past_L.length : Int))) (aB_Crew_S.out.below HB3.out) (aB_Past_S.out.below HB3.out) (by omega) (by omega) (by omega)).mono ?_
  rintro e w3 ⟨rfl, hg⟩
  have HB4 := Lib.hid (HB3.out.grown hg HB3.out.size (fun _ h => by cases h)); clear HB3
  have XP0 := Lib.hid (XP0.out.grown hg)
  have XP1 := Lib.hid (XP1.out.grown hg)
  clear hg
  try clear cP0_0
  have cP0_0 : World.cell? (w3) ⟨w.heap.size, 0, none⟩ = some (.int .i64 aA_At) := XP0.out.cell 0
  try clear cP0_1
  have cP0_1 : World.cell? (w3) ⟨w.heap.size, 1, none⟩ = some (.int .i64 aA_Food) := XP0.out.cell 1
  try clear cP0_2
  have cP0_2 : World.cell? (w3) ⟨w.heap.size, 2, none⟩ = some (.slice aA_Crew_a aA_Crew_L.length aA_Crew_cap) := XP0.out.cell 2
  try clear cP0_3
  have cP0_3 : World.cell? (w3) ⟨w.heap.size, 3, none⟩ = some (.slice aA_Past_a aA_Past_L.length aA_Past_cap) := XP0.out.cell 3
  try clear cP1_0
  have cP1_0 : World.cell? (w3) ⟨w.heap.size + 1, 0, none⟩ = some (.int .i64 aB_At) := XP1.out.cell 0
  try clear cP1_1
  have cP1_1 : World.cell? (w3) ⟨w.heap.size + 1, 1, none⟩ = some (.int .i64 aB_Food) := XP1.out.cell 1
  try clear cP1_2
  have cP1_2 : World.cell? (w3) ⟨w.heap.size + 1, 2, none⟩ = some (.slice aB_Crew_a aB_Crew_L.length aB_Crew_cap) := XP1.out.cell 2
  try clear cP1_3
  have cP1_3 : World.cell? (w3) ⟨w.heap.size + 1, 3, none⟩ = some (.slice aB_Past_a aB_Past_L.length aB_Past_cap) := XP1.out.cell 3
  go_wp2_with fail
  have hgd := grown_drew (World.grownBy.refl w3 none)
  have HB5 := Lib.hid (HB4.out.grown hgd HB4.out.size (fun _ h => by cases h)); clear HB4
  have XP0 := Lib.hid (XP0.out.grown hgd)
  have XP1 := Lib.hid (XP1.out.grown hgd)
  clear hgd
  try clear cP0_0
  have cP0_0 : World.cell? ((World.drew w3)) ⟨w.heap.size, 0, none⟩ = some (.int .i64 aA_At) := XP0.out.cell 0
  try clear cP0_1
  have cP0_1 : World.cell? ((World.drew w3)) ⟨w.heap.size, 1, none⟩ = some (.int .i64 aA_Food) := XP0.out.cell 1
  try clear cP0_2
  have cP0_2 : World.cell? ((World.drew w3)) ⟨w.heap.size, 2, none⟩ = some (.slice aA_Crew_a aA_Crew_L.length aA_Crew_cap) := XP0.out.cell 2
  try clear cP0_3
  have cP0_3 : World.cell? ((World.drew w3)) ⟨w.heap.size, 3, none⟩ = some (.slice aA_Past_a aA_Past_L.length aA_Past_cap) := XP0.out.cell 3
  try clear cP1_0
  have cP1_0 : World.cell? ((World.drew w3)) ⟨w.heap.size + 1, 0, none⟩ = some (.int .i64 aB_At) := XP1.out.cell 0
  try clear cP1_1
  have cP1_1 : World.cell? ((World.drew w3)) ⟨w.heap.size + 1, 1, none⟩ = some (.int .i64 aB_Food) := XP1.out.cell 1
  try clear cP1_2
  have cP1_2 : World.cell? ((World.drew w3)) ⟨w.heap.size + 1, 2, none⟩ = some (.slice aB_Crew_a aB_Crew_L.length aB_Crew_cap) := XP1.out.cell 2
  try clear cP1_3
  have cP1_3 : World.cell? ((World.drew w3)) ⟨w.heap.size + 1, 3, none⟩ = some (.slice aB_Past_a aB_Past_L.length aB_Past_cap) := XP1.out.cell 3
  refine wp_region_held_drew (S := fun w' => w'.cell? ⟨w.heap.size, 0, none⟩ = some (.int .i64 aA_At) ∧ w'.cell? ⟨w.heap.size, 1, none⟩ = some (.int .i64 aA_Food) ∧ w'.cell? ⟨w.heap.size, 2, none⟩ = some (.slice aA_Crew_a aA_Crew_L.length aA_Crew_cap) ∧ w'.cell? ⟨w.heap.size, 3, none⟩ = some (.slice aA_Past_a aA_Past_L.length aA_Past_cap) ∧ w'.cell? ⟨w.heap.size + 1, 0, none⟩ = some (.int .i64 aB_At) ∧ w'.cell? ⟨w.heap.size + 1, 1, none⟩ = some (.int .i64 aB_Food) ∧ w'.cell? ⟨w.heap.size + 1, 2, none⟩ = some (.slice aB_Crew_a aB_Crew_L.length aB_Crew_cap) ∧ w'.cell? ⟨w.heap.size + 1, 3, none⟩ = some (.slice aB_Past_a aB_Past_L.length aB_Past_cap)) (by kernel_rfl) ⟨cP0_0, cP0_1, cP0_2, cP0_3, cP1_0, cP1_1, cP1_2, cP1_3⟩ (fun hHeld => ?_)
  refine wpAnyH_take (i := 0) (v := ?_) rfl (by kernel_rfl) (by kernel_rfl) (by kernel_rfl) (fun _ _ _ h => h) (Or.inl ⟨by rfl, ?_⟩) (by assumption) ?_; rotate_left; (focus (intro wS hSw; (try dsimp only at hSw); go_simp <;> with_reducible rfl)); (try simp only [Act.put, List.getElem_toArray, List.getElem_cons_succ, List.getElem_cons_zero, List.setIfInBounds_toArray, List.set_cons_zero, List.set_cons_succ])
  refine wpAnyH_take (i := 2) (v := ?_) rfl (by kernel_rfl) (by kernel_rfl) (by kernel_rfl) (fun _ _ _ h => h) (Or.inl ⟨by rfl, ?_⟩) (by assumption) ?_; rotate_left; (focus (intro wS hSw; (try dsimp only at hSw); go_simp <;> with_reducible rfl)); (try simp only [Act.put, List.getElem_toArray, List.getElem_cons_succ, List.getElem_cons_zero, List.setIfInBounds_toArray, List.set_cons_zero, List.set_cons_succ])
  refine wpAnyH_ready (rs := [1]) (by kernel_rfl) (by simp) ?_; refine AllReadyH.cons rfl (fun K hK => ?_) AllReadyH.nil; go_simp; (go_at_call 30; refine (PartyL.toParty_any (World.drew w3) aA_At aA_Food _ _ _ _ (aA_Crew_S.out.below HB5.out) (aA_Past_S.out.below HB5.out) (by omega) (by omega)).mono ?_; rintro e w5 ⟨u1, u2, rfl, ho1, ho2, hap, hg⟩; have D_u1_P0 := Lib.hid (ho1.off XP0.out.lt); have D_u1_P1 := Lib.hid (ho1.off XP1.out.lt); have Ou1 := Lib.hid (ho1.lower HB5.out.size); have D_u2_P0 := Lib.hid (ho2.off XP0.out.lt); have D_u2_P1 := Lib.hid (ho2.off XP1.out.lt); have Ou2 := Lib.hid (ho2.lower HB5.out.size); have A_u2_u1 := Lib.hid hap; have HB6 := Lib.hid (HB5.out.grown hg HB5.out.size (fun _ h => by cases h)); clear HB5; have XP0 := Lib.hid (XP0.out.grown hg); have XP1 := Lib.hid (XP1.out.grown hg); clear ho1 ho2 hap hg)
  refine hK.out _ _ ?_ (fun hHeld => ?_)
  · exact ⟨XP0.out.cell 0, XP0.out.cell 1, XP0.out.cell 2, XP0.out.cell 3, XP1.out.cell 0, XP1.out.cell 1, XP1.out.cell 2, XP1.out.cell 3⟩
  clear hK K
  (try simp only [Act.put, List.getElem_toArray, List.getElem_cons_succ, List.getElem_cons_zero, List.setIfInBounds_toArray, List.set_cons_zero, List.set_cons_succ])
  refine wpAnyH_ready (rs := [3]) (by kernel_rfl) (by simp) ?_; refine AllReadyH.cons rfl (fun K hK => ?_) AllReadyH.nil; go_simp; (go_at_call 30; refine (PartyL.toParty_any w5 aB_At aB_Food _ _ _ _ (aB_Crew_S.out.below HB6.out) (aB_Past_S.out.below HB6.out) (by omega) (by omega)).mono ?_; rintro e w6 ⟨u3, u4, rfl, ho1, ho2, hap, hg⟩; have A_u3_u1 := Lib.hid (Rg.apart_lt ho1.lt Ou1.out.lt (Nat.le_refl _)); have A_u3_u2 := Lib.hid (Rg.apart_lt ho1.lt Ou2.out.lt (Nat.le_refl _)); have D_u3_P0 := Lib.hid (ho1.off XP0.out.lt); have D_u3_P1 := Lib.hid (ho1.off XP1.out.lt); have Ou3 := Lib.hid (ho1.lower HB6.out.size); have A_u4_u1 := Lib.hid (Rg.apart_lt ho2.lt Ou1.out.lt (Nat.le_refl _)); have A_u4_u2 := Lib.hid (Rg.apart_lt ho2.lt Ou2.out.lt (Nat.le_refl _)); have D_u4_P0 := Lib.hid (ho2.off XP0.out.lt); have D_u4_P1 := Lib.hid (ho2.off XP1.out.lt); have Ou4 := Lib.hid (ho2.lower HB6.out.size); have A_u4_u3 := Lib.hid hap; have HB7 := Lib.hid (HB6.out.grown hg HB6.out.size (fun _ h => by cases h)); clear HB6; have Ou1 := Lib.hid (Ou1.out.grown hg); have Ou2 := Lib.hid (Ou2.out.grown hg); have XP0 := Lib.hid (XP0.out.grown hg); have XP1 := Lib.hid (XP1.out.grown hg); clear ho1 ho2 hap hg)
  refine hK.out _ _ ?_ (fun hHeld => ?_)
  · exact ⟨XP0.out.cell 0, XP0.out.cell 1, XP0.out.cell 2, XP0.out.cell 3, XP1.out.cell 0, XP1.out.cell 1, XP1.out.cell 2, XP1.out.cell 3⟩
  clear hK K
  (try simp only [Act.put, List.getElem_toArray, List.getElem_cons_succ, List.getElem_cons_zero, List.setIfInBounds_toArray, List.set_cons_zero, List.set_cons_succ])
  refine wpAnyH_ready (rs := [4]) (by kernel_rfl) (by simp) ?_; refine AllReadyH.cons rfl (fun K hK => ?_) AllReadyH.nil; go_simp; (go_at_call 43; refine (Pb.sEqual_any w6 aA_At aA_Food aB_At aB_Food _ _ _ _ aA_Crew_L aB_Crew_L aA_Past_L aB_Past_L (Ou1.out.sees) (Ou2.out.sees) (Ou3.out.sees) (Ou4.out.sees)).mono ?_; rintro e w7 ⟨rfl, hg⟩; have HB8 := Lib.hid (HB7.out.grown hg HB7.out.size (fun _ h => by cases h)); clear HB7; have Ou1 := Lib.hid (Ou1.out.grown hg); have Ou2 := Lib.hid (Ou2.out.grown hg); have Ou3 := Lib.hid (Ou3.out.grown hg); have Ou4 := Lib.hid (Ou4.out.grown hg); have XP0 := Lib.hid (XP0.out.grown hg); have XP1 := Lib.hid (XP1.out.grown hg); clear hg)
  refine hK.out _ _ ?_ (fun hHeld => ?_)
  · exact ⟨XP0.out.cell 0, XP0.out.cell 1, XP0.out.cell 2, XP0.out.cell 3, XP1.out.cell 0, XP1.out.cell 1, XP1.out.cell 2, XP1.out.cell 3⟩
  clear hK K
  (try simp only [Act.put, List.getElem_toArray, List.getElem_cons_succ, List.getElem_cons_zero, List.setIfInBounds_toArray, List.set_cons_zero, List.set_cons_succ])
  refine wpAnyH_take (i := 5) (v := ?_) rfl (by kernel_rfl) (by kernel_rfl) (by kernel_rfl) (fun _ _ _ h => h) (Or.inl ⟨by rfl, ?_⟩) (by assumption) ?_; rotate_left; (focus (intro wS hSw; (try dsimp only at hSw); go_simp <;> with_reducible rfl)); (try simp only [Act.put, List.getElem_toArray, List.getElem_cons_succ, List.getElem_cons_zero, List.setIfInBounds_toArray, List.set_cons_zero, List.set_cons_succ])
  refine wpAnyH_done (by kernel_rfl) ?_ _
  (try simp only [Act.put, List.getElem_toArray, List.getElem_cons_succ, List.getElem_cons_zero, List.setIfInBounds_toArray, List.set_cons_zero, List.set_cons_succ])
  clear Ou1
  clear Ou2
  clear Ou3
  clear Ou4
  try clear cP0_0
  have cP0_0 : World.cell? (w7) ⟨w.heap.size, 0, none⟩ = some (.int .i64 aA_At) := XP0.out.cell 0
  try clear cP0_1
  have cP0_1 : World.cell? (w7) ⟨w.heap.size, 1, none⟩ = some (.int .i64 aA_Food) := XP0.out.cell 1
  try clear cP0_2
  have cP0_2 : World.cell? (w7) ⟨w.heap.size, 2, none⟩ = some (.slice aA_Crew_a aA_Crew_L.length aA_Crew_cap) := XP0.out.cell 2
  try clear cP0_3
  have cP0_3 : World.cell? (w7) ⟨w.heap.size, 3, none⟩ = some (.slice aA_Past_a aA_Past_L.length aA_Past_cap) := XP0.out.cell 3
  try clear cP1_0
  have cP1_0 : World.cell? (w7) ⟨w.heap.size + 1, 0, none⟩ = some (.int .i64 aB_At) := XP1.out.cell 0
  try clear cP1_1
  have cP1_1 : World.cell? (w7) ⟨w.heap.size + 1, 1, none⟩ = some (.int .i64 aB_Food) := XP1.out.cell 1
  try clear cP1_2
  have cP1_2 : World.cell? (w7) ⟨w.heap.size + 1, 2, none⟩ = some (.slice aB_Crew_a aB_Crew_L.length aB_Crew_cap) := XP1.out.cell 2
  try clear cP1_3
  have cP1_3 : World.cell? (w7) ⟨w.heap.size + 1, 3, none⟩ = some (.slice aB_Past_a aB_Past_L.length aB_Past_cap) := XP1.out.cell 3
  go_wp2_with fail
  refine (PartyL.toParty_any w7 aA_At aA_Food _ _ _ _ (aA_Crew_S.out.below HB8.out) (aA_Past_S.out.below HB8.out) (by omega) (by omega)).mono ?_
  rintro e w8 ⟨u5, u6, rfl, ho1, ho2, hap, hg⟩
  have D_u5_P0 := Lib.hid (ho1.off XP0.out.lt)
  have D_u5_P1 := Lib.hid (ho1.off XP1.out.lt)
  have Ou5 := Lib.hid (ho1.lower HB8.out.size)
  have D_u6_P0 := Lib.hid (ho2.off XP0.out.lt)
  have D_u6_P1 := Lib.hid (ho2.off XP1.out.lt)
  have Ou6 := Lib.hid (ho2.lower HB8.out.size)
  have A_u6_u5 := Lib.hid hap
  have HB9 := Lib.hid (HB8.out.grown hg HB8.out.size (fun _ h => by cases h)); clear HB8
  have XP0 := Lib.hid (XP0.out.grown hg)
  have XP1 := Lib.hid (XP1.out.grown hg)
  clear ho1 ho2 hap hg
  obtain ⟨u5_a, u5_n, u5_c, hu5, Nu5⟩ := Ou5.out.sees.shape; subst hu5
  obtain ⟨u6_a, u6_n, u6_c, hu6, Nu6⟩ := Ou6.out.sees.shape; subst hu6
  have hgb := World.grownBy_alloc w8 (.cells #[.int .i64 aA_At, .int .i64 aA_Food, .slice u5_a u5_n u5_c, .slice u6_a u6_n u6_c] 48 (0, 0)) none
  have D_u5_B7 := Lib.hid (Ou5.out.off' (Nat.le_refl _))
  have D_u6_B7 := Lib.hid (Ou6.out.off' (Nat.le_refl _))
  have HB10 := Lib.hid (HB9.out.grown hgb HB9.out.size (fun _ h => by cases h)); clear HB9
  have Ou5 := Lib.hid (Ou5.out.grown hgb)
  have Ou6 := Lib.hid (Ou6.out.grown hgb)
  have XP0 := Lib.hid (XP0.out.grown hgb)
  have XP1 := Lib.hid (XP1.out.grown hgb)
  have XB7 := Lib.hid (box_new w8 #[.int .i64 aA_At, .int .i64 aA_Food, .slice u5_a u5_n u5_c, .slice u6_a u6_n u6_c] 48); clear hgb
  try clear cP0_0
  have cP0_0 : World.cell? (w8.alloc (.cells #[.int .i64 aA_At, .int .i64 aA_Food, .slice u5_a u5_n u5_c, .slice u6_a u6_n u6_c] 48 (0, 0))) ⟨w.heap.size, 0, none⟩ = some (.int .i64 aA_At) := XP0.out.cell 0
  try clear cP0_1
  have cP0_1 : World.cell? (w8.alloc (.cells #[.int .i64 aA_At, .int .i64 aA_Food, .slice u5_a u5_n u5_c, .slice u6_a u6_n u6_c] 48 (0, 0))) ⟨w.heap.size, 1, none⟩ = some (.int .i64 aA_Food) := XP0.out.cell 1
  try clear cP0_2
  have cP0_2 : World.cell? (w8.alloc (.cells #[.int .i64 aA_At, .int .i64 aA_Food, .slice u5_a u5_n u5_c, .slice u6_a u6_n u6_c] 48 (0, 0))) ⟨w.heap.size, 2, none⟩ = some (.slice aA_Crew_a aA_Crew_L.length aA_Crew_cap) := XP0.out.cell 2
  try clear cP0_3
  have cP0_3 : World.cell? (w8.alloc (.cells #[.int .i64 aA_At, .int .i64 aA_Food, .slice u5_a u5_n u5_c, .slice u6_a u6_n u6_c] 48 (0, 0))) ⟨w.heap.size, 3, none⟩ = some (.slice aA_Past_a aA_Past_L.length aA_Past_cap) := XP0.out.cell 3
  try clear cP1_0
  have cP1_0 : World.cell? (w8.alloc (.cells #[.int .i64 aA_At, .int .i64 aA_Food, .slice u5_a u5_n u5_c, .slice u6_a u6_n u6_c] 48 (0, 0))) ⟨w.heap.size + 1, 0, none⟩ = some (.int .i64 aB_At) := XP1.out.cell 0
  try clear cP1_1
  have cP1_1 : World.cell? (w8.alloc (.cells #[.int .i64 aA_At, .int .i64 aA_Food, .slice u5_a u5_n u5_c, .slice u6_a u6_n u6_c] 48 (0, 0))) ⟨w.heap.size + 1, 1, none⟩ = some (.int .i64 aB_Food) := XP1.out.cell 1
  try clear cP1_2
  have cP1_2 : World.cell? (w8.alloc (.cells #[.int .i64 aA_At, .int .i64 aA_Food, .slice u5_a u5_n u5_c, .slice u6_a u6_n u6_c] 48 (0, 0))) ⟨w.heap.size + 1, 2, none⟩ = some (.slice aB_Crew_a aB_Crew_L.length aB_Crew_cap) := XP1.out.cell 2
  try clear cP1_3
  have cP1_3 : World.cell? (w8.alloc (.cells #[.int .i64 aA_At, .int .i64 aA_Food, .slice u5_a u5_n u5_c, .slice u6_a u6_n u6_c] 48 (0, 0))) ⟨w.heap.size + 1, 3, none⟩ = some (.slice aB_Past_a aB_Past_L.length aB_Past_cap) := XP1.out.cell 3
  try clear cB7_0
  have cB7_0 : World.cell? (w8.alloc (.cells #[.int .i64 aA_At, .int .i64 aA_Food, .slice u5_a u5_n u5_c, .slice u6_a u6_n u6_c] 48 (0, 0))) ⟨w8.heap.size, 0, none⟩ = some (.int .i64 aA_At) := XB7.out.cell 0
  try clear cB7_1
  have cB7_1 : World.cell? (w8.alloc (.cells #[.int .i64 aA_At, .int .i64 aA_Food, .slice u5_a u5_n u5_c, .slice u6_a u6_n u6_c] 48 (0, 0))) ⟨w8.heap.size, 1, none⟩ = some (.int .i64 aA_Food) := XB7.out.cell 1
  try clear cB7_2
  have cB7_2 : World.cell? (w8.alloc (.cells #[.int .i64 aA_At, .int .i64 aA_Food, .slice u5_a u5_n u5_c, .slice u6_a u6_n u6_c] 48 (0, 0))) ⟨w8.heap.size, 2, none⟩ = some (.slice u5_a u5_n u5_c) := XB7.out.cell 2
  try clear cB7_3
  have cB7_3 : World.cell? (w8.alloc (.cells #[.int .i64 aA_At, .int .i64 aA_Food, .slice u5_a u5_n u5_c, .slice u6_a u6_n u6_c] 48 (0, 0))) ⟨w8.heap.size, 3, none⟩ = some (.slice u6_a u6_n u6_c) := XB7.out.cell 3
  go_wp2_with fail
  generalize w8.alloc (.cells #[.int .i64 aA_At, .int .i64 aA_Food, .slice u5_a u5_n u5_c, .slice u6_a u6_n u6_c] 48 (0, 0)) = w9 at *
  refine (PartyL.toParty_any w9 aB_At aB_Food _ _ _ _ (aB_Crew_S.out.below HB10.out) (aB_Past_S.out.below HB10.out) (by omega) (by omega)).mono ?_
  rintro e w10 ⟨u8, u9, rfl, ho1, ho2, hap, hg⟩
  have A_u8_u5 := Lib.hid (Rg.apart_lt ho1.lt Ou5.out.lt (Nat.le_refl _))
  have A_u8_u6 := Lib.hid (Rg.apart_lt ho1.lt Ou6.out.lt (Nat.le_refl _))
  have D_u8_P0 := Lib.hid (ho1.off XP0.out.lt)
  have D_u8_P1 := Lib.hid (ho1.off XP1.out.lt)
  have D_u8_B7 := Lib.hid (ho1.off XB7.out.lt)
  have Ou8 := Lib.hid (ho1.lower HB10.out.size)
  have A_u9_u5 := Lib.hid (Rg.apart_lt ho2.lt Ou5.out.lt (Nat.le_refl _))
  have A_u9_u6 := Lib.hid (Rg.apart_lt ho2.lt Ou6.out.lt (Nat.le_refl _))
  have D_u9_P0 := Lib.hid (ho2.off XP0.out.lt)
  have D_u9_P1 := Lib.hid (ho2.off XP1.out.lt)
  have D_u9_B7 := Lib.hid (ho2.off XB7.out.lt)
  have Ou9 := Lib.hid (ho2.lower HB10.out.size)
  have A_u9_u8 := Lib.hid hap
  have HB11 := Lib.hid (HB10.out.grown hg HB10.out.size (fun _ h => by cases h)); clear HB10
  have Ou5 := Lib.hid (Ou5.out.grown hg)
  have Ou6 := Lib.hid (Ou6.out.grown hg)
  have XP0 := Lib.hid (XP0.out.grown hg)
  have XP1 := Lib.hid (XP1.out.grown hg)
  have XB7 := Lib.hid (XB7.out.grown hg)
  clear ho1 ho2 hap hg
  obtain ⟨u8_a, u8_n, u8_c, hu8, Nu8⟩ := Ou8.out.sees.shape; subst hu8
  obtain ⟨u9_a, u9_n, u9_c, hu9, Nu9⟩ := Ou9.out.sees.shape; subst hu9
  have hgb := World.grownBy_alloc w10 (.cells #[.int .i64 aB_At, .int .i64 aB_Food, .slice u8_a u8_n u8_c, .slice u9_a u9_n u9_c] 48 (0, 0)) none
  have D_u5_B10 := Lib.hid (Ou5.out.off' (Nat.le_refl _))
  have D_u6_B10 := Lib.hid (Ou6.out.off' (Nat.le_refl _))
  have D_u8_B10 := Lib.hid (Ou8.out.off' (Nat.le_refl _))
  have D_u9_B10 := Lib.hid (Ou9.out.off' (Nat.le_refl _))
  have HB12 := Lib.hid (HB11.out.grown hgb HB11.out.size (fun _ h => by cases h)); clear HB11
  have Ou5 := Lib.hid (Ou5.out.grown hgb)
  have Ou6 := Lib.hid (Ou6.out.grown hgb)
  have Ou8 := Lib.hid (Ou8.out.grown hgb)
  have Ou9 := Lib.hid (Ou9.out.grown hgb)
  have XP0 := Lib.hid (XP0.out.grown hgb)
  have XP1 := Lib.hid (XP1.out.grown hgb)
  have XB7 := Lib.hid (XB7.out.grown hgb)
  have XB10 := Lib.hid (box_new w10 #[.int .i64 aB_At, .int .i64 aB_Food, .slice u8_a u8_n u8_c, .slice u9_a u9_n u9_c] 48); clear hgb
  try clear cP0_0
  have cP0_0 : World.cell? (w10.alloc (.cells #[.int .i64 aB_At, .int .i64 aB_Food, .slice u8_a u8_n u8_c, .slice u9_a u9_n u9_c] 48 (0, 0))) ⟨w.heap.size, 0, none⟩ = some (.int .i64 aA_At) := XP0.out.cell 0
  try clear cP0_1
  have cP0_1 : World.cell? (w10.alloc (.cells #[.int .i64 aB_At, .int .i64 aB_Food, .slice u8_a u8_n u8_c, .slice u9_a u9_n u9_c] 48 (0, 0))) ⟨w.heap.size, 1, none⟩ = some (.int .i64 aA_Food) := XP0.out.cell 1
  try clear cP0_2
  have cP0_2 : World.cell? (w10.alloc (.cells #[.int .i64 aB_At, .int .i64 aB_Food, .slice u8_a u8_n u8_c, .slice u9_a u9_n u9_c] 48 (0, 0))) ⟨w.heap.size, 2, none⟩ = some (.slice aA_Crew_a aA_Crew_L.length aA_Crew_cap) := XP0.out.cell 2
  try clear cP0_3
  have cP0_3 : World.cell? (w10.alloc (.cells #[.int .i64 aB_At, .int .i64 aB_Food, .slice u8_a u8_n u8_c, .slice u9_a u9_n u9_c] 48 (0, 0))) ⟨w.heap.size, 3, none⟩ = some (.slice aA_Past_a aA_Past_L.length aA_Past_cap) := XP0.out.cell 3
  try clear cP1_0
  have cP1_0 : World.cell? (w10.alloc (.cells #[.int .i64 aB_At, .int .i64 aB_Food, .slice u8_a u8_n u8_c, .slice u9_a u9_n u9_c] 48 (0, 0))) ⟨w.heap.size + 1, 0, none⟩ = some (.int .i64 aB_At) := XP1.out.cell 0
  try clear cP1_1
  have cP1_1 : World.cell? (w10.alloc (.cells #[.int .i64 aB_At, .int .i64 aB_Food, .slice u8_a u8_n u8_c, .slice u9_a u9_n u9_c] 48 (0, 0))) ⟨w.heap.size + 1, 1, none⟩ = some (.int .i64 aB_Food) := XP1.out.cell 1
  try clear cP1_2
  have cP1_2 : World.cell? (w10.alloc (.cells #[.int .i64 aB_At, .int .i64 aB_Food, .slice u8_a u8_n u8_c, .slice u9_a u9_n u9_c] 48 (0, 0))) ⟨w.heap.size + 1, 2, none⟩ = some (.slice aB_Crew_a aB_Crew_L.length aB_Crew_cap) := XP1.out.cell 2
  try clear cP1_3
  have cP1_3 : World.cell? (w10.alloc (.cells #[.int .i64 aB_At, .int .i64 aB_Food, .slice u8_a u8_n u8_c, .slice u9_a u9_n u9_c] 48 (0, 0))) ⟨w.heap.size + 1, 3, none⟩ = some (.slice aB_Past_a aB_Past_L.length aB_Past_cap) := XP1.out.cell 3
  try clear cB7_0
  have cB7_0 : World.cell? (w10.alloc (.cells #[.int .i64 aB_At, .int .i64 aB_Food, .slice u8_a u8_n u8_c, .slice u9_a u9_n u9_c] 48 (0, 0))) ⟨w8.heap.size, 0, none⟩ = some (.int .i64 aA_At) := XB7.out.cell 0
  try clear cB7_1
  have cB7_1 : World.cell? (w10.alloc (.cells #[.int .i64 aB_At, .int .i64 aB_Food, .slice u8_a u8_n u8_c, .slice u9_a u9_n u9_c] 48 (0, 0))) ⟨w8.heap.size, 1, none⟩ = some (.int .i64 aA_Food) := XB7.out.cell 1
  try clear cB7_2
  have cB7_2 : World.cell? (w10.alloc (.cells #[.int .i64 aB_At, .int .i64 aB_Food, .slice u8_a u8_n u8_c, .slice u9_a u9_n u9_c] 48 (0, 0))) ⟨w8.heap.size, 2, none⟩ = some (.slice u5_a u5_n u5_c) := XB7.out.cell 2
  try clear cB7_3
  have cB7_3 : World.cell? (w10.alloc (.cells #[.int .i64 aB_At, .int .i64 aB_Food, .slice u8_a u8_n u8_c, .slice u9_a u9_n u9_c] 48 (0, 0))) ⟨w8.heap.size, 3, none⟩ = some (.slice u6_a u6_n u6_c) := XB7.out.cell 3
  try clear cB10_0
  have cB10_0 : World.cell? (w10.alloc (.cells #[.int .i64 aB_At, .int .i64 aB_Food, .slice u8_a u8_n u8_c, .slice u9_a u9_n u9_c] 48 (0, 0))) ⟨w10.heap.size, 0, none⟩ = some (.int .i64 aB_At) := XB10.out.cell 0
  try clear cB10_1
  have cB10_1 : World.cell? (w10.alloc (.cells #[.int .i64 aB_At, .int .i64 aB_Food, .slice u8_a u8_n u8_c, .slice u9_a u9_n u9_c] 48 (0, 0))) ⟨w10.heap.size, 1, none⟩ = some (.int .i64 aB_Food) := XB10.out.cell 1
  try clear cB10_2
  have cB10_2 : World.cell? (w10.alloc (.cells #[.int .i64 aB_At, .int .i64 aB_Food, .slice u8_a u8_n u8_c, .slice u9_a u9_n u9_c] 48 (0, 0))) ⟨w10.heap.size, 2, none⟩ = some (.slice u8_a u8_n u8_c) := XB10.out.cell 2
  try clear cB10_3
  have cB10_3 : World.cell? (w10.alloc (.cells #[.int .i64 aB_At, .int .i64 aB_Food, .slice u8_a u8_n u8_c, .slice u9_a u9_n u9_c] 48 (0, 0))) ⟨w10.heap.size, 3, none⟩ = some (.slice u9_a u9_n u9_c) := XB10.out.cell 3
  go_wp2_with fail
  generalize w10.alloc (.cells #[.int .i64 aB_At, .int .i64 aB_Food, .slice u8_a u8_n u8_c, .slice u9_a u9_n u9_c] 48 (0, 0)) = w11 at *
  refine (Pb.iEqual_any w11 aA_At aA_Food aB_At aB_Food _ _ _ _ aA_Crew_L aB_Crew_L aA_Past_L aB_Past_L (Ou5.out.sees) (Ou6.out.sees) (Ou8.out.sees) (Ou9.out.sees)).mono ?_
  rintro e w12 ⟨rfl, hg⟩
  have HB13 := Lib.hid (HB12.out.grown hg HB12.out.size (fun _ h => by cases h)); clear HB12
  have Ou5 := Lib.hid (Ou5.out.grown hg)
  have Ou6 := Lib.hid (Ou6.out.grown hg)
  have Ou8 := Lib.hid (Ou8.out.grown hg)
  have Ou9 := Lib.hid (Ou9.out.grown hg)
  have XP0 := Lib.hid (XP0.out.grown hg)
  have XP1 := Lib.hid (XP1.out.grown hg)
  have XB7 := Lib.hid (XB7.out.grown hg)
  have XB10 := Lib.hid (XB10.out.grown hg)
  clear hg
  try clear cP0_0
  have cP0_0 : World.cell? (w12) ⟨w.heap.size, 0, none⟩ = some (.int .i64 aA_At) := XP0.out.cell 0
  try clear cP0_1
  have cP0_1 : World.cell? (w12) ⟨w.heap.size, 1, none⟩ = some (.int .i64 aA_Food) := XP0.out.cell 1
  try clear cP0_2
  have cP0_2 : World.cell? (w12) ⟨w.heap.size, 2, none⟩ = some (.slice aA_Crew_a aA_Crew_L.length aA_Crew_cap) := XP0.out.cell 2
  try clear cP0_3
  have cP0_3 : World.cell? (w12) ⟨w.heap.size, 3, none⟩ = some (.slice aA_Past_a aA_Past_L.length aA_Past_cap) := XP0.out.cell 3
  try clear cP1_0
  have cP1_0 : World.cell? (w12) ⟨w.heap.size + 1, 0, none⟩ = some (.int .i64 aB_At) := XP1.out.cell 0
  try clear cP1_1
  have cP1_1 : World.cell? (w12) ⟨w.heap.size + 1, 1, none⟩ = some (.int .i64 aB_Food) := XP1.out.cell 1
  try clear cP1_2
  have cP1_2 : World.cell? (w12) ⟨w.heap.size + 1, 2, none⟩ = some (.slice aB_Crew_a aB_Crew_L.length aB_Crew_cap) := XP1.out.cell 2
  try clear cP1_3
  have cP1_3 : World.cell? (w12) ⟨w.heap.size + 1, 3, none⟩ = some (.slice aB_Past_a aB_Past_L.length aB_Past_cap) := XP1.out.cell 3
  try clear cB7_0
  have cB7_0 : World.cell? (w12) ⟨w8.heap.size, 0, none⟩ = some (.int .i64 aA_At) := XB7.out.cell 0
  try clear cB7_1
  have cB7_1 : World.cell? (w12) ⟨w8.heap.size, 1, none⟩ = some (.int .i64 aA_Food) := XB7.out.cell 1
  try clear cB7_2
  have cB7_2 : World.cell? (w12) ⟨w8.heap.size, 2, none⟩ = some (.slice u5_a u5_n u5_c) := XB7.out.cell 2
  try clear cB7_3
  have cB7_3 : World.cell? (w12) ⟨w8.heap.size, 3, none⟩ = some (.slice u6_a u6_n u6_c) := XB7.out.cell 3
  try clear cB10_0
  have cB10_0 : World.cell? (w12) ⟨w10.heap.size, 0, none⟩ = some (.int .i64 aB_At) := XB10.out.cell 0
  try clear cB10_1
  have cB10_1 : World.cell? (w12) ⟨w10.heap.size, 1, none⟩ = some (.int .i64 aB_Food) := XB10.out.cell 1
  try clear cB10_2
  have cB10_2 : World.cell? (w12) ⟨w10.heap.size, 2, none⟩ = some (.slice u8_a u8_n u8_c) := XB10.out.cell 2
  try clear cB10_3
  have cB10_3 : World.cell? (w12) ⟨w10.heap.size, 3, none⟩ = some (.slice u9_a u9_n u9_c) := XB10.out.cell 3
  go_wp2_with fail
  have hgd := grown_drew (World.grownBy.refl w12 none)
  have HB14 := Lib.hid (HB13.out.grown hgd HB13.out.size (fun _ h => by cases h)); clear HB13
  have Ou5 := Lib.hid (Ou5.out.grown hgd)
  have Ou6 := Lib.hid (Ou6.out.grown hgd)
  have Ou8 := Lib.hid (Ou8.out.grown hgd)
  have Ou9 := Lib.hid (Ou9.out.grown hgd)
  have XP0 := Lib.hid (XP0.out.grown hgd)
  have XP1 := Lib.hid (XP1.out.grown hgd)
  have XB7 := Lib.hid (XB7.out.grown hgd)
  have XB10 := Lib.hid (XB10.out.grown hgd)
  clear hgd
  try clear cB7_0
  have cB7_0 : World.cell? ((World.drew w12)) ⟨w8.heap.size, 0, none⟩ = some (.int .i64 aA_At) := XB7.out.cell 0
  try clear cB7_1
  have cB7_1 : World.cell? ((World.drew w12)) ⟨w8.heap.size, 1, none⟩ = some (.int .i64 aA_Food) := XB7.out.cell 1
  try clear cB7_2
  have cB7_2 : World.cell? ((World.drew w12)) ⟨w8.heap.size, 2, none⟩ = some (.slice u5_a u5_n u5_c) := XB7.out.cell 2
  try clear cB7_3
  have cB7_3 : World.cell? ((World.drew w12)) ⟨w8.heap.size, 3, none⟩ = some (.slice u6_a u6_n u6_c) := XB7.out.cell 3
  try clear cP0_0
  have cP0_0 : World.cell? ((World.drew w12)) ⟨w.heap.size, 0, none⟩ = some (.int .i64 aA_At) := XP0.out.cell 0
  try clear cP0_1
  have cP0_1 : World.cell? ((World.drew w12)) ⟨w.heap.size, 1, none⟩ = some (.int .i64 aA_Food) := XP0.out.cell 1
  try clear cP0_2
  have cP0_2 : World.cell? ((World.drew w12)) ⟨w.heap.size, 2, none⟩ = some (.slice aA_Crew_a aA_Crew_L.length aA_Crew_cap) := XP0.out.cell 2
  try clear cP0_3
  have cP0_3 : World.cell? ((World.drew w12)) ⟨w.heap.size, 3, none⟩ = some (.slice aA_Past_a aA_Past_L.length aA_Past_cap) := XP0.out.cell 3
  refine wp_region_held_drew (S := fun w' => w'.cell? ⟨w8.heap.size, 0, none⟩ = some (.int .i64 aA_At) ∧ w'.cell? ⟨w8.heap.size, 1, none⟩ = some (.int .i64 aA_Food) ∧ w'.cell? ⟨w8.heap.size, 2, none⟩ = some (.slice u5_a u5_n u5_c) ∧ w'.cell? ⟨w8.heap.size, 3, none⟩ = some (.slice u6_a u6_n u6_c) ∧ w'.cell? ⟨w.heap.size, 0, none⟩ = some (.int .i64 aA_At) ∧ w'.cell? ⟨w.heap.size, 1, none⟩ = some (.int .i64 aA_Food) ∧ w'.cell? ⟨w.heap.size, 2, none⟩ = some (.slice aA_Crew_a aA_Crew_L.length aA_Crew_cap) ∧ w'.cell? ⟨w.heap.size, 3, none⟩ = some (.slice aA_Past_a aA_Past_L.length aA_Past_cap)) (by kernel_rfl) ⟨cB7_0, cB7_1, cB7_2, cB7_3, cP0_0, cP0_1, cP0_2, cP0_3⟩ (fun hHeld => ?_)
  refine wpAnyH_take (i := 0) (v := ?_) rfl (by kernel_rfl) (by kernel_rfl) (by kernel_rfl) (fun _ _ _ h => h) (Or.inl ⟨by rfl, ?_⟩) (by assumption) ?_; rotate_left; (focus (intro wS hSw; (try dsimp only at hSw); go_simp <;> with_reducible rfl)); (try simp only [Act.put, List.getElem_toArray, List.getElem_cons_succ, List.getElem_cons_zero, List.setIfInBounds_toArray, List.set_cons_zero, List.set_cons_succ])
  refine wpAnyH_take (i := 1) (v := ?_) rfl (by kernel_rfl) (by kernel_rfl) (by kernel_rfl) (fun _ _ _ h => h) (Or.inl ⟨by rfl, ?_⟩) (by assumption) ?_; rotate_left; (focus (intro wS hSw; (try dsimp only at hSw); go_simp <;> with_reducible rfl)); (try simp only [Act.put, List.getElem_toArray, List.getElem_cons_succ, List.getElem_cons_zero, List.setIfInBounds_toArray, List.set_cons_zero, List.set_cons_succ])
  refine wpAnyH_ready (rs := [2]) (by kernel_rfl) (by simp) ?_; refine AllReadyH.cons rfl (fun K hK => ?_) AllReadyH.nil; go_simp; (go_at_call 30; refine (PartyL.toParty_any (World.drew w12) aA_At aA_Food _ _ _ _ (aA_Crew_S.out.below HB14.out) (aA_Past_S.out.below HB14.out) (by omega) (by omega)).mono ?_; rintro e w14 ⟨u11, u12, rfl, ho1, ho2, hap, hg⟩; have A_u11_u5 := Lib.hid (Rg.apart_lt ho1.lt Ou5.out.lt (Nat.le_refl _)); have A_u11_u6 := Lib.hid (Rg.apart_lt ho1.lt Ou6.out.lt (Nat.le_refl _)); have A_u11_u8 := Lib.hid (Rg.apart_lt ho1.lt Ou8.out.lt (Nat.le_refl _)); have A_u11_u9 := Lib.hid (Rg.apart_lt ho1.lt Ou9.out.lt (Nat.le_refl _)); have D_u11_P0 := Lib.hid (ho1.off XP0.out.lt); have D_u11_P1 := Lib.hid (ho1.off XP1.out.lt); have D_u11_B7 := Lib.hid (ho1.off XB7.out.lt); have D_u11_B10 := Lib.hid (ho1.off XB10.out.lt); have Ou11 := Lib.hid (ho1.lower HB14.out.size); have A_u12_u5 := Lib.hid (Rg.apart_lt ho2.lt Ou5.out.lt (Nat.le_refl _)); have A_u12_u6 := Lib.hid (Rg.apart_lt ho2.lt Ou6.out.lt (Nat.le_refl _)); have A_u12_u8 := Lib.hid (Rg.apart_lt ho2.lt Ou8.out.lt (Nat.le_refl _)); have A_u12_u9 := Lib.hid (Rg.apart_lt ho2.lt Ou9.out.lt (Nat.le_refl _)); have D_u12_P0 := Lib.hid (ho2.off XP0.out.lt); have D_u12_P1 := Lib.hid (ho2.off XP1.out.lt); have D_u12_B7 := Lib.hid (ho2.off XB7.out.lt); have D_u12_B10 := Lib.hid (ho2.off XB10.out.lt); have Ou12 := Lib.hid (ho2.lower HB14.out.size); have A_u12_u11 := Lib.hid hap; have HB15 := Lib.hid (HB14.out.grown hg HB14.out.size (fun _ h => by cases h)); clear HB14; have Ou5 := Lib.hid (Ou5.out.grown hg); have Ou6 := Lib.hid (Ou6.out.grown hg); have Ou8 := Lib.hid (Ou8.out.grown hg); have Ou9 := Lib.hid (Ou9.out.grown hg); have XP0 := Lib.hid (XP0.out.grown hg); have XP1 := Lib.hid (XP1.out.grown hg); have XB7 := Lib.hid (XB7.out.grown hg); have XB10 := Lib.hid (XB10.out.grown hg); clear ho1 ho2 hap hg)
  refine hK.out _ _ ?_ (fun hHeld => ?_)
  · exact ⟨XB7.out.cell 0, XB7.out.cell 1, XB7.out.cell 2, XB7.out.cell 3, XP0.out.cell 0, XP0.out.cell 1, XP0.out.cell 2, XP0.out.cell 3⟩
  clear hK K
  (try simp only [Act.put, List.getElem_toArray, List.getElem_cons_succ, List.getElem_cons_zero, List.setIfInBounds_toArray, List.set_cons_zero, List.set_cons_succ])
  refine wpAnyH_ready (rs := [3]) (by kernel_rfl) (by simp) ?_; refine AllReadyH.cons rfl (fun K hK => ?_) AllReadyH.nil; go_simp; (go_at_call 32; refine (PartyL.eqParty_same w14 aA_At aA_Food _ _ _ _ _ _ (Ou5.out.sees) (Ou6.out.sees) (Ou11.out.sees) (Ou12.out.sees)).mono ?_; rintro e w15 ⟨rfl, hg⟩; have HB16 := Lib.hid (HB15.out.grown hg HB15.out.size (fun _ h => by cases h)); clear HB15; have Ou5 := Lib.hid (Ou5.out.grown hg); have Ou6 := Lib.hid (Ou6.out.grown hg); have Ou8 := Lib.hid (Ou8.out.grown hg); have Ou9 := Lib.hid (Ou9.out.grown hg); have Ou11 := Lib.hid (Ou11.out.grown hg); have Ou12 := Lib.hid (Ou12.out.grown hg); have XP0 := Lib.hid (XP0.out.grown hg); have XP1 := Lib.hid (XP1.out.grown hg); have XB7 := Lib.hid (XB7.out.grown hg); have XB10 := Lib.hid (XB10.out.grown hg); clear hg)
  refine hK.out _ _ ?_ (fun hHeld => ?_)
  · exact ⟨XB7.out.cell 0, XB7.out.cell 1, XB7.out.cell 2, XB7.out.cell 3, XP0.out.cell 0, XP0.out.cell 1, XP0.out.cell 2, XP0.out.cell 3⟩
  clear hK K
  (try simp only [Act.put, List.getElem_toArray, List.getElem_cons_succ, List.getElem_cons_zero, List.setIfInBounds_toArray, List.set_cons_zero, List.set_cons_succ])
  refine wpAnyH_take (i := 4) (v := ?_) rfl (by kernel_rfl) (by kernel_rfl) (by kernel_rfl) (fun _ _ _ h => h) (Or.inl ⟨by rfl, ?_⟩) (by assumption) ?_; rotate_left; (focus (intro wS hSw; (try dsimp only at hSw); go_simp <;> with_reducible rfl)); (try simp only [Act.put, List.getElem_toArray, List.getElem_cons_succ, List.getElem_cons_zero, List.setIfInBounds_toArray, List.set_cons_zero, List.set_cons_succ])
  refine wpAnyH_done (by kernel_rfl) ?_ _
  (try simp only [Act.put, List.getElem_toArray, List.getElem_cons_succ, List.getElem_cons_zero, List.setIfInBounds_toArray, List.set_cons_zero, List.set_cons_succ])
  clear Ou11
  clear Ou12
  clear Ou5
  clear Ou6
  try clear cP0_0
  have cP0_0 : World.cell? (w15) ⟨w.heap.size, 0, none⟩ = some (.int .i64 aA_At) := XP0.out.cell 0
  try clear cP0_1
  have cP0_1 : World.cell? (w15) ⟨w.heap.size, 1, none⟩ = some (.int .i64 aA_Food) := XP0.out.cell 1
  try clear cP0_2
  have cP0_2 : World.cell? (w15) ⟨w.heap.size, 2, none⟩ = some (.slice aA_Crew_a aA_Crew_L.length aA_Crew_cap) := XP0.out.cell 2
  try clear cP0_3
  have cP0_3 : World.cell? (w15) ⟨w.heap.size, 3, none⟩ = some (.slice aA_Past_a aA_Past_L.length aA_Past_cap) := XP0.out.cell 3
  try clear cP1_0
  have cP1_0 : World.cell? (w15) ⟨w.heap.size + 1, 0, none⟩ = some (.int .i64 aB_At) := XP1.out.cell 0
  try clear cP1_1
  have cP1_1 : World.cell? (w15) ⟨w.heap.size + 1, 1, none⟩ = some (.int .i64 aB_Food) := XP1.out.cell 1
  try clear cP1_2
  have cP1_2 : World.cell? (w15) ⟨w.heap.size + 1, 2, none⟩ = some (.slice aB_Crew_a aB_Crew_L.length aB_Crew_cap) := XP1.out.cell 2
  try clear cP1_3
  have cP1_3 : World.cell? (w15) ⟨w.heap.size + 1, 3, none⟩ = some (.slice aB_Past_a aB_Past_L.length aB_Past_cap) := XP1.out.cell 3
  try clear cB7_0
  have cB7_0 : World.cell? (w15) ⟨w8.heap.size, 0, none⟩ = some (.int .i64 aA_At) := XB7.out.cell 0
  try clear cB7_1
  have cB7_1 : World.cell? (w15) ⟨w8.heap.size, 1, none⟩ = some (.int .i64 aA_Food) := XB7.out.cell 1
  try clear cB7_2
  have cB7_2 : World.cell? (w15) ⟨w8.heap.size, 2, none⟩ = some (.slice u5_a u5_n u5_c) := XB7.out.cell 2
  try clear cB7_3
  have cB7_3 : World.cell? (w15) ⟨w8.heap.size, 3, none⟩ = some (.slice u6_a u6_n u6_c) := XB7.out.cell 3
  try clear cB10_0
  have cB10_0 : World.cell? (w15) ⟨w10.heap.size, 0, none⟩ = some (.int .i64 aB_At) := XB10.out.cell 0
  try clear cB10_1
  have cB10_1 : World.cell? (w15) ⟨w10.heap.size, 1, none⟩ = some (.int .i64 aB_Food) := XB10.out.cell 1
  try clear cB10_2
  have cB10_2 : World.cell? (w15) ⟨w10.heap.size, 2, none⟩ = some (.slice u8_a u8_n u8_c) := XB10.out.cell 2
  try clear cB10_3
  have cB10_3 : World.cell? (w15) ⟨w10.heap.size, 3, none⟩ = some (.slice u9_a u9_n u9_c) := XB10.out.cell 3
  go_wp2_with fail
  have hgd := grown_drew (World.grownBy.refl w15 none)
  have HB17 := Lib.hid (HB16.out.grown hgd HB16.out.size (fun _ h => by cases h)); clear HB16
  have Ou8 := Lib.hid (Ou8.out.grown hgd)
  have Ou9 := Lib.hid (Ou9.out.grown hgd)
  have XP0 := Lib.hid (XP0.out.grown hgd)
  have XP1 := Lib.hid (XP1.out.grown hgd)
  have XB7 := Lib.hid (XB7.out.grown hgd)
  have XB10 := Lib.hid (XB10.out.grown hgd)
  clear hgd
  try clear cB10_0
  have cB10_0 : World.cell? ((World.drew w15)) ⟨w10.heap.size, 0, none⟩ = some (.int .i64 aB_At) := XB10.out.cell 0
  try clear cB10_1
  have cB10_1 : World.cell? ((World.drew w15)) ⟨w10.heap.size, 1, none⟩ = some (.int .i64 aB_Food) := XB10.out.cell 1
  try clear cB10_2
  have cB10_2 : World.cell? ((World.drew w15)) ⟨w10.heap.size, 2, none⟩ = some (.slice u8_a u8_n u8_c) := XB10.out.cell 2
  try clear cB10_3
  have cB10_3 : World.cell? ((World.drew w15)) ⟨w10.heap.size, 3, none⟩ = some (.slice u9_a u9_n u9_c) := XB10.out.cell 3
  try clear cP1_0
  have cP1_0 : World.cell? ((World.drew w15)) ⟨w.heap.size + 1, 0, none⟩ = some (.int .i64 aB_At) := XP1.out.cell 0
  try clear cP1_1
  have cP1_1 : World.cell? ((World.drew w15)) ⟨w.heap.size + 1, 1, none⟩ = some (.int .i64 aB_Food) := XP1.out.cell 1
  try clear cP1_2
  have cP1_2 : World.cell? ((World.drew w15)) ⟨w.heap.size + 1, 2, none⟩ = some (.slice aB_Crew_a aB_Crew_L.length aB_Crew_cap) := XP1.out.cell 2
  try clear cP1_3
  have cP1_3 : World.cell? ((World.drew w15)) ⟨w.heap.size + 1, 3, none⟩ = some (.slice aB_Past_a aB_Past_L.length aB_Past_cap) := XP1.out.cell 3
  refine wp_region_held_drew (S := fun w' => w'.cell? ⟨w10.heap.size, 0, none⟩ = some (.int .i64 aB_At) ∧ w'.cell? ⟨w10.heap.size, 1, none⟩ = some (.int .i64 aB_Food) ∧ w'.cell? ⟨w10.heap.size, 2, none⟩ = some (.slice u8_a u8_n u8_c) ∧ w'.cell? ⟨w10.heap.size, 3, none⟩ = some (.slice u9_a u9_n u9_c) ∧ w'.cell? ⟨w.heap.size + 1, 0, none⟩ = some (.int .i64 aB_At) ∧ w'.cell? ⟨w.heap.size + 1, 1, none⟩ = some (.int .i64 aB_Food) ∧ w'.cell? ⟨w.heap.size + 1, 2, none⟩ = some (.slice aB_Crew_a aB_Crew_L.length aB_Crew_cap) ∧ w'.cell? ⟨w.heap.size + 1, 3, none⟩ = some (.slice aB_Past_a aB_Past_L.length aB_Past_cap)) (by kernel_rfl) ⟨cB10_0, cB10_1, cB10_2, cB10_3, cP1_0, cP1_1, cP1_2, cP1_3⟩ (fun hHeld => ?_)
  refine wpAnyH_take (i := 0) (v := ?_) rfl (by kernel_rfl) (by kernel_rfl) (by kernel_rfl) (fun _ _ _ h => h) (Or.inl ⟨by rfl, ?_⟩) (by assumption) ?_; rotate_left; (focus (intro wS hSw; (try dsimp only at hSw); go_simp <;> with_reducible rfl)); (try simp only [Act.put, List.getElem_toArray, List.getElem_cons_succ, List.getElem_cons_zero, List.setIfInBounds_toArray, List.set_cons_zero, List.set_cons_succ])
  refine wpAnyH_take (i := 1) (v := ?_) rfl (by kernel_rfl) (by kernel_rfl) (by kernel_rfl) (fun _ _ _ h => h) (Or.inl ⟨by rfl, ?_⟩) (by assumption) ?_; rotate_left; (focus (intro wS hSw; (try dsimp only at hSw); go_simp <;> with_reducible rfl)); (try simp only [Act.put, List.getElem_toArray, List.getElem_cons_succ, List.getElem_cons_zero, List.setIfInBounds_toArray, List.set_cons_zero, List.set_cons_succ])
  refine wpAnyH_ready (rs := [2]) (by kernel_rfl) (by simp) ?_; refine AllReadyH.cons rfl (fun K hK => ?_) AllReadyH.nil; go_simp; (go_at_call 30; refine (PartyL.toParty_any (World.drew w15) aB_At aB_Food _ _ _ _ (aB_Crew_S.out.below HB17.out) (aB_Past_S.out.below HB17.out) (by omega) (by omega)).mono ?_; rintro e w17 ⟨u13, u14, rfl, ho1, ho2, hap, hg⟩; have A_u13_u8 := Lib.hid (Rg.apart_lt ho1.lt Ou8.out.lt (Nat.le_refl _)); have A_u13_u9 := Lib.hid (Rg.apart_lt ho1.lt Ou9.out.lt (Nat.le_refl _)); have D_u13_P0 := Lib.hid (ho1.off XP0.out.lt); have D_u13_P1 := Lib.hid (ho1.off XP1.out.lt); have D_u13_B7 := Lib.hid (ho1.off XB7.out.lt); have D_u13_B10 := Lib.hid (ho1.off XB10.out.lt); have Ou13 := Lib.hid (ho1.lower HB17.out.size); have A_u14_u8 := Lib.hid (Rg.apart_lt ho2.lt Ou8.out.lt (Nat.le_refl _)); have A_u14_u9 := Lib.hid (Rg.apart_lt ho2.lt Ou9.out.lt (Nat.le_refl _)); have D_u14_P0 := Lib.hid (ho2.off XP0.out.lt); have D_u14_P1 := Lib.hid (ho2.off XP1.out.lt); have D_u14_B7 := Lib.hid (ho2.off XB7.out.lt); have D_u14_B10 := Lib.hid (ho2.off XB10.out.lt); have Ou14 := Lib.hid (ho2.lower HB17.out.size); have A_u14_u13 := Lib.hid hap; have HB18 := Lib.hid (HB17.out.grown hg HB17.out.size (fun _ h => by cases h)); clear HB17; have Ou8 := Lib.hid (Ou8.out.grown hg); have Ou9 := Lib.hid (Ou9.out.grown hg); have XP0 := Lib.hid (XP0.out.grown hg); have XP1 := Lib.hid (XP1.out.grown hg); have XB7 := Lib.hid (XB7.out.grown hg); have XB10 := Lib.hid (XB10.out.grown hg); clear ho1 ho2 hap hg)
  refine hK.out _ _ ?_ (fun hHeld => ?_)
  · exact ⟨XB10.out.cell 0, XB10.out.cell 1, XB10.out.cell 2, XB10.out.cell 3, XP1.out.cell 0, XP1.out.cell 1, XP1.out.cell 2, XP1.out.cell 3⟩
  clear hK K
  (try simp only [Act.put, List.getElem_toArray, List.getElem_cons_succ, List.getElem_cons_zero, List.setIfInBounds_toArray, List.set_cons_zero, List.set_cons_succ])
  refine wpAnyH_ready (rs := [3]) (by kernel_rfl) (by simp) ?_; refine AllReadyH.cons rfl (fun K hK => ?_) AllReadyH.nil; go_simp; (go_at_call 32; refine (PartyL.eqParty_same w17 aB_At aB_Food _ _ _ _ _ _ (Ou8.out.sees) (Ou9.out.sees) (Ou13.out.sees) (Ou14.out.sees)).mono ?_; rintro e w18 ⟨rfl, hg⟩; have HB19 := Lib.hid (HB18.out.grown hg HB18.out.size (fun _ h => by cases h)); clear HB18; have Ou8 := Lib.hid (Ou8.out.grown hg); have Ou9 := Lib.hid (Ou9.out.grown hg); have Ou13 := Lib.hid (Ou13.out.grown hg); have Ou14 := Lib.hid (Ou14.out.grown hg); have XP0 := Lib.hid (XP0.out.grown hg); have XP1 := Lib.hid (XP1.out.grown hg); have XB7 := Lib.hid (XB7.out.grown hg); have XB10 := Lib.hid (XB10.out.grown hg); clear hg)
  refine hK.out _ _ ?_ (fun hHeld => ?_)
  · exact ⟨XB10.out.cell 0, XB10.out.cell 1, XB10.out.cell 2, XB10.out.cell 3, XP1.out.cell 0, XP1.out.cell 1, XP1.out.cell 2, XP1.out.cell 3⟩
  clear hK K
  (try simp only [Act.put, List.getElem_toArray, List.getElem_cons_succ, List.getElem_cons_zero, List.setIfInBounds_toArray, List.set_cons_zero, List.set_cons_succ])
  refine wpAnyH_take (i := 4) (v := ?_) rfl (by kernel_rfl) (by kernel_rfl) (by kernel_rfl) (fun _ _ _ h => h) (Or.inl ⟨by rfl, ?_⟩) (by assumption) ?_; rotate_left; (focus (intro wS hSw; (try dsimp only at hSw); go_simp <;> with_reducible rfl)); (try simp only [Act.put, List.getElem_toArray, List.getElem_cons_succ, List.getElem_cons_zero, List.setIfInBounds_toArray, List.set_cons_zero, List.set_cons_succ])
  refine wpAnyH_done (by kernel_rfl) ?_ _
  (try simp only [Act.put, List.getElem_toArray, List.getElem_cons_succ, List.getElem_cons_zero, List.setIfInBounds_toArray, List.set_cons_zero, List.set_cons_succ])
  clear Ou13
  clear Ou14
  clear Ou8
  clear Ou9
  try clear cP0_0
  have cP0_0 : World.cell? (w18) ⟨w.heap.size, 0, none⟩ = some (.int .i64 aA_At) := XP0.out.cell 0
  try clear cP0_1
  have cP0_1 : World.cell? (w18) ⟨w.heap.size, 1, none⟩ = some (.int .i64 aA_Food) := XP0.out.cell 1
  try clear cP0_2
  have cP0_2 : World.cell? (w18) ⟨w.heap.size, 2, none⟩ = some (.slice aA_Crew_a aA_Crew_L.length aA_Crew_cap) := XP0.out.cell 2
  try clear cP0_3
  have cP0_3 : World.cell? (w18) ⟨w.heap.size, 3, none⟩ = some (.slice aA_Past_a aA_Past_L.length aA_Past_cap) := XP0.out.cell 3
  try clear cP1_0
  have cP1_0 : World.cell? (w18) ⟨w.heap.size + 1, 0, none⟩ = some (.int .i64 aB_At) := XP1.out.cell 0
  try clear cP1_1
  have cP1_1 : World.cell? (w18) ⟨w.heap.size + 1, 1, none⟩ = some (.int .i64 aB_Food) := XP1.out.cell 1
  try clear cP1_2
  have cP1_2 : World.cell? (w18) ⟨w.heap.size + 1, 2, none⟩ = some (.slice aB_Crew_a aB_Crew_L.length aB_Crew_cap) := XP1.out.cell 2
  try clear cP1_3
  have cP1_3 : World.cell? (w18) ⟨w.heap.size + 1, 3, none⟩ = some (.slice aB_Past_a aB_Past_L.length aB_Past_cap) := XP1.out.cell 3
  try clear cB7_0
  have cB7_0 : World.cell? (w18) ⟨w8.heap.size, 0, none⟩ = some (.int .i64 aA_At) := XB7.out.cell 0
  try clear cB7_1
  have cB7_1 : World.cell? (w18) ⟨w8.heap.size, 1, none⟩ = some (.int .i64 aA_Food) := XB7.out.cell 1
  try clear cB7_2
  have cB7_2 : World.cell? (w18) ⟨w8.heap.size, 2, none⟩ = some (.slice u5_a u5_n u5_c) := XB7.out.cell 2
  try clear cB7_3
  have cB7_3 : World.cell? (w18) ⟨w8.heap.size, 3, none⟩ = some (.slice u6_a u6_n u6_c) := XB7.out.cell 3
  try clear cB10_0
  have cB10_0 : World.cell? (w18) ⟨w10.heap.size, 0, none⟩ = some (.int .i64 aB_At) := XB10.out.cell 0
  try clear cB10_1
  have cB10_1 : World.cell? (w18) ⟨w10.heap.size, 1, none⟩ = some (.int .i64 aB_Food) := XB10.out.cell 1
  try clear cB10_2
  have cB10_2 : World.cell? (w18) ⟨w10.heap.size, 2, none⟩ = some (.slice u8_a u8_n u8_c) := XB10.out.cell 2
  try clear cB10_3
  have cB10_3 : World.cell? (w18) ⟨w10.heap.size, 3, none⟩ = some (.slice u9_a u9_n u9_c) := XB10.out.cell 3
  go_wp2
  go_ret
  exact ⟨rfl, HB19.out⟩

set_option maxRecDepth 100000 in
/-- What the walk gives, for every argument. -/
theorem contract (H : Type) (enc : TypeId × Value → H) (W : World) (base : Nat) (args : Array Value) (ds gs : List (DataW H)) (before : List MemPlace)
    (hval : ∀ (j : Nat) t v, Try.f11.params[j]? = some t → args[j]? = some v → Value.okWide Try.prog W .any base t v)
    (hW : DataW.Whole enc Try.prog Try.f11.params.toList Rows.fnExactEqualPartiesSpec.vars false W args.toList ds gs before) :
    Calls Try.prog 11 args W fun e W' => ∃ v, e = .returned v ∧ Rows.fnExactEqualPartiesSpec.post enc Try.prog Try.f11 false true false false W args v W' := by
  have hW' := hW
  obtain ⟨p, q, hA0, hV, rfl, hfz, hnd⟩ := hW
  have hA : DataW.TrodAll enc Try.prog W 0 (fun _ => true) true Try.f11.params.toList args.toList ds p := hA0
  rw [Try.params11] at hA hval
  obtain ⟨v0, vs0, d0, ds0, p0, q0, hargs, rfl, rfl, h0, r0⟩ := trodAll_cons hA
  obtain ⟨v1, vs1, d1, ds1, p1, q1, rfl, rfl, rfl, h1, r1⟩ := trodAll_cons r0
  obtain ⟨rfl, rfl, rfl⟩ := trodAll_nil r1
  obtain rfl : args = #[v0, v1] := by cases args; simp_all
  obtain ⟨rfl, rfl⟩ := trodVars_none hV
  have k0 := h0
  have lt0 : ∀ x ∈ p0, x.block < W.heap.size := by obtain ⟨m, hm⟩ := k0; exact DataW.trod_lt m _ _ _ hm
  obtain ⟨f0_0, f0_1, f0_2, f0_3, y0_0, y0_1, y0_2, y0_3, fn0, rfl, rfl, rfl, g0_0, g0_1, g0_2, g0_3⟩ := Go.Joins.open_agg4 Try.underlying43 (by kernel_rfl) (by kernel_rfl) (hval 0 43 v0 rfl rfl) h0
  obtain ⟨x0_0, rfl, w0_0⟩ := Kit.field_int Try.underlying3 g0_0
  obtain ⟨x0_1, rfl, w0_1⟩ := Kit.field_int Try.underlying3 g0_1
  obtain ⟨a0_2, l0_2, c0_2, z0_2, rfl, w0_2⟩ := Rg.field_rowG (e := Rg.encM) Try.underlying40 (by kernel_rfl) (Rg.encM_open Try.underlying123 (by kernel_rfl) Try.underlying3 Try.underlying3 Try.underlying3 Try.underlying4) g0_2
  obtain ⟨a0_3, l0_3, c0_3, z0_3, rfl, w0_3⟩ := Rg.field_rowG (e := Rg.encB) Try.underlying41 (by kernel_rfl) (Rg.encB_open Try.underlying4) g0_3
  have k1 := h1
  have lt1 : ∀ x ∈ p1, x.block < W.heap.size := by obtain ⟨m, hm⟩ := k1; exact DataW.trod_lt m _ _ _ hm
  obtain ⟨f1_0, f1_1, f1_2, f1_3, y1_0, y1_1, y1_2, y1_3, fn1, rfl, rfl, rfl, g1_0, g1_1, g1_2, g1_3⟩ := Go.Joins.open_agg4 Try.underlying43 (by kernel_rfl) (by kernel_rfl) (hval 1 43 v1 rfl rfl) h1
  obtain ⟨x1_0, rfl, w1_0⟩ := Kit.field_int Try.underlying3 g1_0
  obtain ⟨x1_1, rfl, w1_1⟩ := Kit.field_int Try.underlying3 g1_1
  obtain ⟨a1_2, l1_2, c1_2, z1_2, rfl, w1_2⟩ := Rg.field_rowG (e := Rg.encM) Try.underlying40 (by kernel_rfl) (Rg.encM_open Try.underlying123 (by kernel_rfl) Try.underlying3 Try.underlying3 Try.underlying3 Try.underlying4) g1_2
  obtain ⟨a1_3, l1_3, c1_3, z1_3, rfl, w1_3⟩ := Rg.field_rowG (e := Rg.encB) Try.underlying41 (by kernel_rfl) (Rg.encB_open Try.underlying4) g1_3
  clear hA0
  refine (walk W x0_0 w0_0 x0_1 w0_1 a0_2 l0_2 c0_2 z0_2 w0_2 a0_3 l0_3 c0_3 z0_3 w0_3 x1_0 w1_0 x1_1 w1_1 a1_2 l1_2 c1_2 z1_2 w1_2 a1_3 l1_3 c1_3 z1_3 w1_3).mono fun e W' ⟨he, bel⟩ => ?_
  subst he
  exact ⟨_, rfl, _, _, _, [], _, [], hW', trodAll_mk1 (shut_bool Try.underlying4 _), (trodAll_cons_mk (Below.trod laidOut (by kernel_rfl) (of_decide_eq_true (by kernel_rfl)) k0 bel lt0) (trodAll_cons_mk (Below.trod laidOut (by kernel_rfl) (of_decide_eq_true (by kernel_rfl)) k1 bel lt1) trodAll_mk0)), rfl, bel.frame _, fun h => by cases h⟩

noncomputable def laidWorld (os : Os) : World := World.holding Try.prog os ⟨#[], #[], []⟩
theorem reads (os : Os) {H : Type} (enc : TypeId × Value → H) : ∃ places, DataW.whole enc Try.prog ((laidWorld os).forCall (fun _ _ => 0) ⟨#[], #[.agg #[.int .i64 0, .int .i64 0, .slice none 0 0, .slice none 0 0], .agg #[.int .i64 0, .int .i64 0, .slice none 0 0, .slice none 0 0]], []⟩).memory Try.f11.params.toList Rows.fnExactEqualPartiesSpec.vars false (#[.agg #[.int .i64 0, .int .i64 0, .slice none 0 0, .slice none 0 0], .agg #[.int .i64 0, .int .i64 0, .slice none 0 0, .slice none 0 0]] : Array Value).toList 8 = some ([.agg [.lit (.int .i64 0), .lit (.int .i64 0), .nil, .nil], .agg [.lit (.int .i64 0), .lit (.int .i64 0), .nil, .nil]], [], places) :=
  ⟨[], by kernel_rfl⟩

set_option maxRecDepth 100000 in
theorem lifted (os : Os) (started : os.Started) (H : Type) (enc : TypeId × Value → H) (F : Stop.Interp) :
    ReturnsInHanded {} Try.checked os 11 .any ((OpenSpec.ofChange Rows.fnExactEqualPartiesSpec).preRow enc Try.prog Try.f11 Rows.fnExactEqualPartiesRow.domain false Rows.fnExactEqualPartiesRow.laid) (((OpenSpec.ofChange Rows.fnExactEqualPartiesSpec).at F).post enc Try.prog Try.f11 false true false false) := by
  obtain ⟨places, hx⟩ := reads os enc
  refine returnsInHanded_of_row (C := Try.checked) (s := (OpenSpec.ofChange Rows.fnExactEqualPartiesSpec)) own started (by kernel_rfl) Try.func11
    (witness_row_at (enc := enc) (C := Try.checked) false (laidWorld os) #[.agg #[.int .i64 0, .int .i64 0, .slice none 0 0, .slice none 0 0], .agg #[.int .i64 0, .int .i64 0, .slice none 0 0, .slice none 0 0]] rfl (by kernel_rfl) (by kernel_rfl) (by kernel_rfl)
      (OpenSpec.preRow_of_cond 8 hx (by kernel_rfl) (fun k hk => by cases hk) (by kernel_rfl) (laidMetH_nil _ _))) ?_
  intro W base args ds gs before hval hW _ _ _ _ _ _
  exact contract H enc W base args ds gs before hval hW

set_option maxRecDepth 100000 in
theorem said : Rows.FnExactEqualPartiesSaid :=
  OpenClaim.holds_of_cond 11 Try.f11 rfl rfl rfl rfl rfl rfl rfl ⟨rfl, rfl, rfl, rfl, rfl⟩ rfl rfl rfl rfl rfl (by kernel_rfl) Try.func11 (by kernel_rfl)
    (of_decide_eq_true (by kernel_rfl)) (by unfold Func.isWrapper; first | (rw [if_pos (by decide +kernel)]; kernel_rfl) | (rw [if_neg (by decide +kernel)]; exact ⟨rfl, rfl⟩))
    (fun os started H enc _ F => by rw [OpenClaim.pre_eq_preRow]; exact lifted os started H enc F)

theorem proved : Rows.FnExactEqualPartiesSaid := said
#print axioms proved
end Go.Proofs.Ytfonboleaekndaa.fnExactEqualParties

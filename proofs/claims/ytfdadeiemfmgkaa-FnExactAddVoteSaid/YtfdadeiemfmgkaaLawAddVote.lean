/- The law FnExactAddVote: the program's AddVote answers as its model, for every argument; it writes into no argument, and its answer owns its memory. No condition. -/
import Derived.Deep.RegionHeld3
import Derived.Test.YtfdadeiemfmgkaaRows
import Derived.Test.YtfdadeiemfmgkaaRowE
import Derived.Test.YtfdadeiemfmgkaaLawsM
import Derived.Test.YtfdadeiemfmgkaaSzM
import Derived.Test.YtfdadeiemfmgkaaLawsV
import Derived.Test.YtfdadeiemfmgkaaSzV
import Derived.Test.YtfdadeiemfmgkaaVotB
import Derived.WalkKit
import Derived.ProofKit
import Derived.OpenShut
import Derived.ShutString
import Derived.ChangeOld
import Derived.Below
import Derived.Deep.DeepHandedRow
import Derived.Deep.DeepWitnessRowRef
import Derived.Lib.LaidTab
namespace Go.Proofs.Ytfdadeiemfmgkaa.fnExactAddVote
open Go.ChangeShapes Go.WideShapes Go.ChangeAt Go.RowKit
open Go.ChangeMaps (open_string shut_string)
set_option linter.unusedVariables false

theorem own : ownKnob Try.prog.godebug = none := by kernel_rfl
theorem laidOut : laidOutB Try.prog = true := by kernel_rfl

open Kit Rw
set_option maxRecDepth 100000 in
set_option maxHeartbeats 4000000 in
theorem walk (w : World) (aL_a : Option Addr) (aL_len aL_cap : Nat) (aL_L : List Rg.Mem) (aL_h : aL_L.length = aL_len ∧ Rg.SeesG Rg.encM w (.slice aL_a aL_len aL_cap) aL_L) (aV_a : Option Addr) (aV_len aV_cap : Nat) (aV_L : List (Int × Int)) (aV_h : aV_L.length = aV_len ∧ Rg.SeesG Rg.encP w (.slice aV_a aV_len aV_cap) aV_L) (aX_Who : Int) (aX_Who_h : (Lit.int .i64 aX_Who).wf = true) (aX_Choice : Int) (aX_Choice_h : (Lit.int .i64 aX_Choice).wf = true) :
    Calls Try.prog 12 #[.slice aL_a aL_len aL_cap, .slice aV_a aV_len aV_cap, .agg #[.int .i64 aX_Who, .int .i64 aX_Choice]] w fun e w' => e = .returned (.bool true) ∧ Below w.heap.size w w' := by
  obtain ⟨aL_e, aL_s0⟩ := aL_h; have aL_S := Lib.hid aL_s0; have aL_len0 := aL_s0.len; subst aL_e; clear aL_s0
  obtain ⟨aV_e, aV_s0⟩ := aV_h; have aV_S := Lib.hid aV_s0; have aV_len0 := aV_s0.len; subst aV_e; clear aV_s0
  have aX_Who_H := Lib.hid aX_Who_h; have aX_Who_b := i64_of aX_Who_h; clear aX_Who_h
  have aX_Choice_H := Lib.hid aX_Choice_h; have aX_Choice_b := i64_of aX_Choice_h; clear aX_Choice_h
  by_cases aL_l : (aL_L.length : Int) ≤ (1048576 : Int)
  rotate_left
  ·
    have HB0 : Hid (Below w.heap.size w w) := Below.refl _ _
    have hgb := World.grownBy_alloc w (.cells #[.int .i64 aX_Who, .int .i64 aX_Choice] 46 (0, 0)) none
    have HB1 := Lib.hid (HB0.out.grown hgb HB0.out.size (fun _ h => by cases h)); clear HB0
    have XP0 := Lib.hid (box_new w #[.int .i64 aX_Who, .int .i64 aX_Choice] 46); clear hgb
    go_enter Try.func12, Try.ntmps12
    try clear cP0_0
    have cP0_0 : World.cell? (w.alloc (.cells #[.int .i64 aX_Who, .int .i64 aX_Choice] 46 (0, 0))) ⟨w.heap.size, 0, none⟩ = some (.int .i64 aX_Who) := XP0.out.cell 0
    try clear cP0_1
    have cP0_1 : World.cell? (w.alloc (.cells #[.int .i64 aX_Who, .int .i64 aX_Choice] 46 (0, 0))) ⟨w.heap.size, 1, none⟩ = some (.int .i64 aX_Choice) := XP0.out.cell 1
    go_wp2_with fail
    generalize w.alloc (.cells #[.int .i64 aX_Who, .int .i64 aX_Choice] 46 (0, 0)) = w1 at *
    refine (LawsM.szM_no w1 _ _ (1048576 : Int) (aL_S.out.below HB1.out) (by omega) (by omega) (by omega)).mono ?_
    rintro e w2 ⟨rfl, hg⟩
    have HB2 := Lib.hid (HB1.out.grown hg HB1.out.size (fun _ h => by cases h)); clear HB1
    have XP0 := Lib.hid (XP0.out.grown hg)
    clear hg
    try clear cP0_0
    have cP0_0 : World.cell? (w2) ⟨w.heap.size, 0, none⟩ = some (.int .i64 aX_Who) := XP0.out.cell 0
    try clear cP0_1
    have cP0_1 : World.cell? (w2) ⟨w.heap.size, 1, none⟩ = some (.int .i64 aX_Choice) := XP0.out.cell 1
    go_wp2
    go_ret
    exact ⟨rfl, HB2.out⟩
  by_cases aV_l : (aV_L.length : Int) ≤ ((1048576 : Int) - ((aL_L.length : Int)))
  rotate_left
  ·
    have HB0 : Hid (Below w.heap.size w w) := Below.refl _ _
    have hgb := World.grownBy_alloc w (.cells #[.int .i64 aX_Who, .int .i64 aX_Choice] 46 (0, 0)) none
    have HB1 := Lib.hid (HB0.out.grown hgb HB0.out.size (fun _ h => by cases h)); clear HB0
    have XP0 := Lib.hid (box_new w #[.int .i64 aX_Who, .int .i64 aX_Choice] 46); clear hgb
    go_enter Try.func12, Try.ntmps12
    try clear cP0_0
    have cP0_0 : World.cell? (w.alloc (.cells #[.int .i64 aX_Who, .int .i64 aX_Choice] 46 (0, 0))) ⟨w.heap.size, 0, none⟩ = some (.int .i64 aX_Who) := XP0.out.cell 0
    try clear cP0_1
    have cP0_1 : World.cell? (w.alloc (.cells #[.int .i64 aX_Who, .int .i64 aX_Choice] 46 (0, 0))) ⟨w.heap.size, 1, none⟩ = some (.int .i64 aX_Choice) := XP0.out.cell 1
    go_wp2_with fail
    generalize w.alloc (.cells #[.int .i64 aX_Who, .int .i64 aX_Choice] 46 (0, 0)) = w1 at *
    refine (LawsM.szM_yes w1 _ _ (1048576 : Int) (aL_S.out.below HB1.out) (by omega) (by omega) (by omega)).mono ?_
    rintro e w2 ⟨rfl, hg⟩
    have HB2 := Lib.hid (HB1.out.grown hg HB1.out.size (fun _ h => by cases h)); clear HB1
    have XP0 := Lib.hid (XP0.out.grown hg)
    clear hg
    try clear cP0_0
    have cP0_0 : World.cell? (w2) ⟨w.heap.size, 0, none⟩ = some (.int .i64 aX_Who) := XP0.out.cell 0
    try clear cP0_1
    have cP0_1 : World.cell? (w2) ⟨w.heap.size, 1, none⟩ = some (.int .i64 aX_Choice) := XP0.out.cell 1
    go_wp2_with fail
    refine (LawsV.szV_no w2 _ _ ((1048576 : Int) - ((aL_L.length : Int))) (aV_S.out.below HB2.out) (by omega) (by omega) (by omega)).mono ?_
    rintro e w3 ⟨rfl, hg⟩
    have HB3 := Lib.hid (HB2.out.grown hg HB2.out.size (fun _ h => by cases h)); clear HB2
    have XP0 := Lib.hid (XP0.out.grown hg)
    clear hg
    try clear cP0_0
    have cP0_0 : World.cell? (w3) ⟨w.heap.size, 0, none⟩ = some (.int .i64 aX_Who) := XP0.out.cell 0
    try clear cP0_1
    have cP0_1 : World.cell? (w3) ⟨w.heap.size, 1, none⟩ = some (.int .i64 aX_Choice) := XP0.out.cell 1
    go_wp2
    go_ret
    exact ⟨rfl, HB3.out⟩
  have HB0 : Hid (Below w.heap.size w w) := Below.refl _ _
  have hgb := World.grownBy_alloc w (.cells #[.int .i64 aX_Who, .int .i64 aX_Choice] 46 (0, 0)) none
  have HB1 := Lib.hid (HB0.out.grown hgb HB0.out.size (fun _ h => by cases h)); clear HB0
  have XP0 := Lib.hid (box_new w #[.int .i64 aX_Who, .int .i64 aX_Choice] 46); clear hgb
  go_enter Try.func12, Try.ntmps12
  try clear cP0_0
  have cP0_0 : World.cell? (w.alloc (.cells #[.int .i64 aX_Who, .int .i64 aX_Choice] 46 (0, 0))) ⟨w.heap.size, 0, none⟩ = some (.int .i64 aX_Who) := XP0.out.cell 0
  try clear cP0_1
  have cP0_1 : World.cell? (w.alloc (.cells #[.int .i64 aX_Who, .int .i64 aX_Choice] 46 (0, 0))) ⟨w.heap.size, 1, none⟩ = some (.int .i64 aX_Choice) := XP0.out.cell 1
  go_wp2_with fail
  generalize w.alloc (.cells #[.int .i64 aX_Who, .int .i64 aX_Choice] 46 (0, 0)) = w1 at *
  refine (LawsM.szM_yes w1 _ _ (1048576 : Int) (aL_S.out.below HB1.out) (by omega) (by omega) (by omega)).mono ?_
  rintro e w2 ⟨rfl, hg⟩
  have HB2 := Lib.hid (HB1.out.grown hg HB1.out.size (fun _ h => by cases h)); clear HB1
  have XP0 := Lib.hid (XP0.out.grown hg)
  clear hg
  try clear cP0_0
  have cP0_0 : World.cell? (w2) ⟨w.heap.size, 0, none⟩ = some (.int .i64 aX_Who) := XP0.out.cell 0
  try clear cP0_1
  have cP0_1 : World.cell? (w2) ⟨w.heap.size, 1, none⟩ = some (.int .i64 aX_Choice) := XP0.out.cell 1
  go_wp2_with fail
  refine (LawsV.szV_yes w2 _ _ ((1048576 : Int) - ((aL_L.length : Int))) (aV_S.out.below HB2.out) (by omega) (by omega) (by omega)).mono ?_
  rintro e w3 ⟨rfl, hg⟩
  have HB3 := Lib.hid (HB2.out.grown hg HB2.out.size (fun _ h => by cases h)); clear HB2
  have XP0 := Lib.hid (XP0.out.grown hg)
  clear hg
  try clear cP0_0
  have cP0_0 : World.cell? (w3) ⟨w.heap.size, 0, none⟩ = some (.int .i64 aX_Who) := XP0.out.cell 0
  try clear cP0_1
  have cP0_1 : World.cell? (w3) ⟨w.heap.size, 1, none⟩ = some (.int .i64 aX_Choice) := XP0.out.cell 1
  go_wp2_with fail
  have hgd := grown_drew (World.grownBy.refl w3 none)
  have HB4 := Lib.hid (HB3.out.grown hgd HB3.out.size (fun _ h => by cases h)); clear HB3
  have XP0 := Lib.hid (XP0.out.grown hgd)
  clear hgd
  try clear cP0_0
  have cP0_0 : World.cell? ((World.drew w3)) ⟨w.heap.size, 0, none⟩ = some (.int .i64 aX_Who) := XP0.out.cell 0
  try clear cP0_1
  have cP0_1 : World.cell? ((World.drew w3)) ⟨w.heap.size, 1, none⟩ = some (.int .i64 aX_Choice) := XP0.out.cell 1
  refine wp_region_held_drew (S := fun w' => w'.cell? ⟨w.heap.size, 0, none⟩ = some (.int .i64 aX_Who) ∧ w'.cell? ⟨w.heap.size, 1, none⟩ = some (.int .i64 aX_Choice)) (by kernel_rfl) ⟨cP0_0, cP0_1⟩ (fun hHeld => ?_)
  refine wpAnyH_take (i := 0) (v := ?_) rfl (by kernel_rfl) (by kernel_rfl) (by kernel_rfl) (fun _ _ _ h => h) (Or.inl ⟨by rfl, ?_⟩) (by assumption) ?_; rotate_left; (focus (intro wS hSw; (try dsimp only at hSw); go_simp <;> with_reducible rfl)); (try simp only [Act.put, List.getElem_toArray, List.getElem_cons_succ, List.getElem_cons_zero, List.setIfInBounds_toArray, List.set_cons_zero, List.set_cons_succ])
  refine wpAnyH_take (i := 2) (v := ?_) rfl (by kernel_rfl) (by kernel_rfl) (by kernel_rfl) (fun _ _ _ h => h) (Or.inl ⟨by rfl, ?_⟩) (by assumption) ?_; rotate_left; (focus (intro wS hSw; (try dsimp only at hSw); go_simp <;> with_reducible rfl)); (try simp only [Act.put, List.getElem_toArray, List.getElem_cons_succ, List.getElem_cons_zero, List.setIfInBounds_toArray, List.set_cons_zero, List.set_cons_succ])
  refine wpAnyH_take (i := 4) (v := ?_) rfl (by kernel_rfl) (by kernel_rfl) (by kernel_rfl) (fun _ _ _ h => h) (Or.inl ⟨by rfl, ?_⟩) (by assumption) ?_; rotate_left; (focus (intro wS hSw; (try dsimp only at hSw); go_simp <;> with_reducible rfl)); (try simp only [Act.put, List.getElem_toArray, List.getElem_cons_succ, List.getElem_cons_zero, List.setIfInBounds_toArray, List.set_cons_zero, List.set_cons_succ])
  refine wpAnyH_ready (rs := [1]) (by kernel_rfl) (by simp) ?_; refine AllReadyH.cons rfl (fun K hK => ?_) AllReadyH.nil; go_simp; (go_at_call 22; refine (LawsM.to_any (World.drew w3) (.slice aL_a aL_L.length aL_cap) aL_L (aL_S.out.below HB4.out) (by have h9 := VotA.res_len aL_L aV_L (aX_Who, aX_Choice); (try simp only [LawsM.marksM_len, LawsV.marksV_len]); omega)).mono ?_; rintro e w5 ⟨u1, rfl, ho, hg⟩; have D_u1_P0 := Lib.hid (ho.off XP0.out.lt); have Ou1 := Lib.hid (ho.lower HB4.out.size); have HB5 := Lib.hid (HB4.out.grown hg HB4.out.size (fun _ h => by cases h)); clear HB4; have XP0 := Lib.hid (XP0.out.grown hg); clear ho hg)
  refine hK.out _ _ ?_ (fun hHeld => ?_)
  · exact ⟨XP0.out.cell 0, XP0.out.cell 1⟩
  clear hK K
  (try simp only [Act.put, List.getElem_toArray, List.getElem_cons_succ, List.getElem_cons_zero, List.setIfInBounds_toArray, List.set_cons_zero, List.set_cons_succ])
  refine wpAnyH_ready (rs := [3]) (by kernel_rfl) (by simp) ?_; refine AllReadyH.cons rfl (fun K hK => ?_) AllReadyH.nil; go_simp; (go_at_call 17; refine (LawsV.to_any w5 (.slice aV_a aV_L.length aV_cap) aV_L (aV_S.out.below HB5.out) (by have h9 := VotA.res_len aL_L aV_L (aX_Who, aX_Choice); (try simp only [LawsM.marksM_len, LawsV.marksV_len]); omega)).mono ?_; rintro e w6 ⟨u2, rfl, ho, hg⟩; have A_u2_u1 := Lib.hid (Rg.apart_lt ho.lt Ou1.out.lt (Nat.le_refl _)); have D_u2_P0 := Lib.hid (ho.off XP0.out.lt); have Ou2 := Lib.hid (ho.lower HB5.out.size); have HB6 := Lib.hid (HB5.out.grown hg HB5.out.size (fun _ h => by cases h)); clear HB5; have Ou1 := Lib.hid (Ou1.out.grown hg); have XP0 := Lib.hid (XP0.out.grown hg); clear ho hg)
  refine hK.out _ _ ?_ (fun hHeld => ?_)
  · exact ⟨XP0.out.cell 0, XP0.out.cell 1⟩
  clear hK K
  (try simp only [Act.put, List.getElem_toArray, List.getElem_cons_succ, List.getElem_cons_zero, List.setIfInBounds_toArray, List.set_cons_zero, List.set_cons_succ])
  refine wpAnyH_ready (rs := [5]) (by kernel_rfl) (by simp) ?_; refine AllReadyH.cons rfl (fun K hK => ?_) AllReadyH.nil; go_simp; (go_at_call 40; refine (LawsV.toVote_any w6 aX_Who aX_Choice).mono ?_; rintro e w7 ⟨rfl, hg⟩; have HB7 := Lib.hid (HB6.out.grown hg HB6.out.size (fun _ h => by cases h)); clear HB6; have Ou1 := Lib.hid (Ou1.out.grown hg); have Ou2 := Lib.hid (Ou2.out.grown hg); have XP0 := Lib.hid (XP0.out.grown hg); clear hg)
  refine hK.out _ _ ?_ (fun hHeld => ?_)
  · exact ⟨XP0.out.cell 0, XP0.out.cell 1⟩
  clear hK K
  (try simp only [Act.put, List.getElem_toArray, List.getElem_cons_succ, List.getElem_cons_zero, List.setIfInBounds_toArray, List.set_cons_zero, List.set_cons_succ])
  refine wpAnyH_ready (rs := [6]) (by kernel_rfl) (by simp) ?_; refine AllReadyH.cons rfl (fun K hK => ?_) AllReadyH.nil; go_simp; (go_at_call 39; refine (VotA.sAdd_any w7 _ _ aL_L aV_L aX_Who aX_Choice aX_Who_H.out aX_Choice_H.out (Ou1.out.sees) (Ou2.out.sees) (by have h9 := VotA.res_len aL_L aV_L (aX_Who, aX_Choice); (try simp only [LawsM.marksM_len, LawsV.marksV_len]); omega)).mono ?_; rintro e w8 ⟨u3, rfl, ho, hg⟩; have A_u3_u1 := Lib.hid (Rg.apart_lt ho.lt Ou1.out.lt (Nat.le_refl _)); have A_u3_u2 := Lib.hid (Rg.apart_lt ho.lt Ou2.out.lt (Nat.le_refl _)); have D_u3_P0 := Lib.hid (ho.off XP0.out.lt); have Ou3 := Lib.hid (ho.lower HB7.out.size); have HB8 := Lib.hid (HB7.out.grown hg HB7.out.size (fun _ h => by cases h)); clear HB7; have Ou1 := Lib.hid (Ou1.out.grown hg); have Ou2 := Lib.hid (Ou2.out.grown hg); have XP0 := Lib.hid (XP0.out.grown hg); clear ho hg)
  refine hK.out _ _ ?_ (fun hHeld => ?_)
  · exact ⟨XP0.out.cell 0, XP0.out.cell 1⟩
  clear hK K
  (try simp only [Act.put, List.getElem_toArray, List.getElem_cons_succ, List.getElem_cons_zero, List.setIfInBounds_toArray, List.set_cons_zero, List.set_cons_succ])
  refine wpAnyH_take (i := 7) (v := ?_) rfl (by kernel_rfl) (by kernel_rfl) (by kernel_rfl) (fun _ _ _ h => h) (Or.inl ⟨by rfl, ?_⟩) (by assumption) ?_; rotate_left; (focus (intro wS hSw; (try dsimp only at hSw); go_simp <;> with_reducible rfl)); (try simp only [Act.put, List.getElem_toArray, List.getElem_cons_succ, List.getElem_cons_zero, List.setIfInBounds_toArray, List.set_cons_zero, List.set_cons_succ])
  refine wpAnyH_take (i := 8) (v := ?_) rfl (by kernel_rfl) (by kernel_rfl) (by kernel_rfl) (fun _ _ _ h => h) (Or.inl ⟨by rfl, ?_⟩) (by assumption) ?_; rotate_left; (focus (intro wS hSw; (try dsimp only at hSw); go_simp <;> with_reducible rfl)); (try simp only [Act.put, List.getElem_toArray, List.getElem_cons_succ, List.getElem_cons_zero, List.setIfInBounds_toArray, List.set_cons_zero, List.set_cons_succ])
  refine wpAnyH_take (i := 9) (v := ?_) rfl (by kernel_rfl) (by kernel_rfl) (by kernel_rfl) (fun _ _ _ h => h) (Or.inl ⟨by rfl, ?_⟩) (by assumption) ?_; rotate_left; (focus (intro wS hSw; (try dsimp only at hSw); go_simp <;> with_reducible rfl)); (try simp only [Act.put, List.getElem_toArray, List.getElem_cons_succ, List.getElem_cons_zero, List.setIfInBounds_toArray, List.set_cons_zero, List.set_cons_succ])
  refine wpAnyH_take (i := 10) (v := ?_) rfl (by kernel_rfl) (by kernel_rfl) (by kernel_rfl) (fun _ _ _ h => h) (Or.inl ⟨by rfl, ?_⟩) (by assumption) ?_; rotate_left; (focus (intro wS hSw; (try dsimp only at hSw); go_simp <;> with_reducible rfl)); (try simp only [Act.put, List.getElem_toArray, List.getElem_cons_succ, List.getElem_cons_zero, List.setIfInBounds_toArray, List.set_cons_zero, List.set_cons_succ])
  refine wpAnyH_take (i := 11) (v := ?_) rfl (by kernel_rfl) (by kernel_rfl) (by kernel_rfl) (fun _ _ _ h => h) (Or.inl ⟨by rfl, ?_⟩) (by assumption) ?_; rotate_left; (focus (intro wS hSw; (try dsimp only at hSw); go_simp <;> with_reducible rfl)); (try simp only [Act.put, List.getElem_toArray, List.getElem_cons_succ, List.getElem_cons_zero, List.setIfInBounds_toArray, List.set_cons_zero, List.set_cons_succ])
  refine wpAnyH_done (by kernel_rfl) ?_ _
  (try simp only [Act.put, List.getElem_toArray, List.getElem_cons_succ, List.getElem_cons_zero, List.setIfInBounds_toArray, List.set_cons_zero, List.set_cons_succ])
  clear Ou1
  clear Ou2
  try clear cP0_0
  have cP0_0 : World.cell? (w8) ⟨w.heap.size, 0, none⟩ = some (.int .i64 aX_Who) := XP0.out.cell 0
  try clear cP0_1
  have cP0_1 : World.cell? (w8) ⟨w.heap.size, 1, none⟩ = some (.int .i64 aX_Choice) := XP0.out.cell 1
  go_wp2_with fail
  refine (LawsM.to_any w8 (.slice aL_a aL_L.length aL_cap) aL_L (aL_S.out.below HB8.out) (by have h9 := VotA.res_len aL_L aV_L (aX_Who, aX_Choice); (try simp only [LawsM.marksM_len, LawsV.marksV_len]); omega)).mono ?_
  rintro e w9 ⟨u4, rfl, ho, hg⟩
  have A_u4_u3 := Lib.hid (Rg.apart_lt ho.lt Ou3.out.lt (Nat.le_refl _))
  have D_u4_P0 := Lib.hid (ho.off XP0.out.lt)
  have Ou4 := Lib.hid (ho.lower HB8.out.size)
  have HB9 := Lib.hid (HB8.out.grown hg HB8.out.size (fun _ h => by cases h)); clear HB8
  have Ou3 := Lib.hid (Ou3.out.grown hg)
  have XP0 := Lib.hid (XP0.out.grown hg)
  clear ho hg
  try clear cP0_0
  have cP0_0 : World.cell? (w9) ⟨w.heap.size, 0, none⟩ = some (.int .i64 aX_Who) := XP0.out.cell 0
  try clear cP0_1
  have cP0_1 : World.cell? (w9) ⟨w.heap.size, 1, none⟩ = some (.int .i64 aX_Choice) := XP0.out.cell 1
  go_wp2_with fail
  refine (LawsV.to_any w9 (.slice aV_a aV_L.length aV_cap) aV_L (aV_S.out.below HB9.out) (by have h9 := VotA.res_len aL_L aV_L (aX_Who, aX_Choice); (try simp only [LawsM.marksM_len, LawsV.marksV_len]); omega)).mono ?_
  rintro e w10 ⟨u5, rfl, ho, hg⟩
  have A_u5_u3 := Lib.hid (Rg.apart_lt ho.lt Ou3.out.lt (Nat.le_refl _))
  have A_u5_u4 := Lib.hid (Rg.apart_lt ho.lt Ou4.out.lt (Nat.le_refl _))
  have D_u5_P0 := Lib.hid (ho.off XP0.out.lt)
  have Ou5 := Lib.hid (ho.lower HB9.out.size)
  have HB10 := Lib.hid (HB9.out.grown hg HB9.out.size (fun _ h => by cases h)); clear HB9
  have Ou3 := Lib.hid (Ou3.out.grown hg)
  have Ou4 := Lib.hid (Ou4.out.grown hg)
  have XP0 := Lib.hid (XP0.out.grown hg)
  clear ho hg
  try clear cP0_0
  have cP0_0 : World.cell? (w10) ⟨w.heap.size, 0, none⟩ = some (.int .i64 aX_Who) := XP0.out.cell 0
  try clear cP0_1
  have cP0_1 : World.cell? (w10) ⟨w.heap.size, 1, none⟩ = some (.int .i64 aX_Choice) := XP0.out.cell 1
  go_wp2_with fail
  refine (LawsV.toVote_any w10 aX_Who aX_Choice).mono ?_
  rintro e w11 ⟨rfl, hg⟩
  have HB11 := Lib.hid (HB10.out.grown hg HB10.out.size (fun _ h => by cases h)); clear HB10
  have Ou3 := Lib.hid (Ou3.out.grown hg)
  have Ou4 := Lib.hid (Ou4.out.grown hg)
  have Ou5 := Lib.hid (Ou5.out.grown hg)
  have XP0 := Lib.hid (XP0.out.grown hg)
  clear hg
  try clear cP0_0
  have cP0_0 : World.cell? (w11) ⟨w.heap.size, 0, none⟩ = some (.int .i64 aX_Who) := XP0.out.cell 0
  try clear cP0_1
  have cP0_1 : World.cell? (w11) ⟨w.heap.size, 1, none⟩ = some (.int .i64 aX_Choice) := XP0.out.cell 1
  go_wp2_with fail
  refine (VotA.iAdd_any w11 _ _ aL_L aV_L aX_Who aX_Choice aX_Who_H.out aX_Choice_H.out (Ou4.out.sees) (Ou5.out.sees) (by have h9 := VotA.res_len aL_L aV_L (aX_Who, aX_Choice); (try simp only [LawsM.marksM_len, LawsV.marksV_len]); omega)).mono ?_
  rintro e w12 ⟨u6, rfl, ho, hg⟩
  have A_u6_u3 := Lib.hid (Rg.apart_lt ho.lt Ou3.out.lt (Nat.le_refl _))
  have A_u6_u4 := Lib.hid (Rg.apart_lt ho.lt Ou4.out.lt (Nat.le_refl _))
  have A_u6_u5 := Lib.hid (Rg.apart_lt ho.lt Ou5.out.lt (Nat.le_refl _))
  have D_u6_P0 := Lib.hid (ho.off XP0.out.lt)
  have Ou6 := Lib.hid (ho.lower HB11.out.size)
  have HB12 := Lib.hid (HB11.out.grown hg HB11.out.size (fun _ h => by cases h)); clear HB11
  have Ou3 := Lib.hid (Ou3.out.grown hg)
  have Ou4 := Lib.hid (Ou4.out.grown hg)
  have Ou5 := Lib.hid (Ou5.out.grown hg)
  have XP0 := Lib.hid (XP0.out.grown hg)
  clear ho hg
  try clear cP0_0
  have cP0_0 : World.cell? (w12) ⟨w.heap.size, 0, none⟩ = some (.int .i64 aX_Who) := XP0.out.cell 0
  try clear cP0_1
  have cP0_1 : World.cell? (w12) ⟨w.heap.size, 1, none⟩ = some (.int .i64 aX_Choice) := XP0.out.cell 1
  go_wp2_with fail
  refine (LawsV.eq_same w12 (u6) (u3) (VotA.res aL_L aV_L (aX_Who, aX_Choice)) (Ou6.out.sees) (Ou3.out.sees)).mono ?_
  rintro e w13 ⟨rfl, hg⟩
  have HB13 := Lib.hid (HB12.out.grown hg HB12.out.size (fun _ h => by cases h)); clear HB12
  have Ou3 := Lib.hid (Ou3.out.grown hg)
  have Ou4 := Lib.hid (Ou4.out.grown hg)
  have Ou5 := Lib.hid (Ou5.out.grown hg)
  have Ou6 := Lib.hid (Ou6.out.grown hg)
  have XP0 := Lib.hid (XP0.out.grown hg)
  clear hg
  try clear cP0_0
  have cP0_0 : World.cell? (w13) ⟨w.heap.size, 0, none⟩ = some (.int .i64 aX_Who) := XP0.out.cell 0
  try clear cP0_1
  have cP0_1 : World.cell? (w13) ⟨w.heap.size, 1, none⟩ = some (.int .i64 aX_Choice) := XP0.out.cell 1
  go_wp2_with fail
  refine (LawsM.to_any w13 (.slice aL_a aL_L.length aL_cap) aL_L (aL_S.out.below HB13.out) (by have h9 := VotA.res_len aL_L aV_L (aX_Who, aX_Choice); (try simp only [LawsM.marksM_len, LawsV.marksV_len]); omega)).mono ?_
  rintro e w14 ⟨u7, rfl, ho, hg⟩
  have A_u7_u3 := Lib.hid (Rg.apart_lt ho.lt Ou3.out.lt (Nat.le_refl _))
  have A_u7_u4 := Lib.hid (Rg.apart_lt ho.lt Ou4.out.lt (Nat.le_refl _))
  have A_u7_u5 := Lib.hid (Rg.apart_lt ho.lt Ou5.out.lt (Nat.le_refl _))
  have A_u7_u6 := Lib.hid (Rg.apart_lt ho.lt Ou6.out.lt (Nat.le_refl _))
  have D_u7_P0 := Lib.hid (ho.off XP0.out.lt)
  have Ou7 := Lib.hid (ho.lower HB13.out.size)
  have HB14 := Lib.hid (HB13.out.grown hg HB13.out.size (fun _ h => by cases h)); clear HB13
  have Ou3 := Lib.hid (Ou3.out.grown hg)
  have Ou4 := Lib.hid (Ou4.out.grown hg)
  have Ou5 := Lib.hid (Ou5.out.grown hg)
  have Ou6 := Lib.hid (Ou6.out.grown hg)
  have XP0 := Lib.hid (XP0.out.grown hg)
  clear ho hg
  try clear cP0_0
  have cP0_0 : World.cell? (w14) ⟨w.heap.size, 0, none⟩ = some (.int .i64 aX_Who) := XP0.out.cell 0
  try clear cP0_1
  have cP0_1 : World.cell? (w14) ⟨w.heap.size, 1, none⟩ = some (.int .i64 aX_Choice) := XP0.out.cell 1
  go_wp2_with fail
  refine (LawsM.eq_same w14 (u4) (u7) aL_L (Ou4.out.sees) (Ou7.out.sees)).mono ?_
  rintro e w15 ⟨rfl, hg⟩
  have HB15 := Lib.hid (HB14.out.grown hg HB14.out.size (fun _ h => by cases h)); clear HB14
  have Ou3 := Lib.hid (Ou3.out.grown hg)
  have Ou4 := Lib.hid (Ou4.out.grown hg)
  have Ou5 := Lib.hid (Ou5.out.grown hg)
  have Ou6 := Lib.hid (Ou6.out.grown hg)
  have Ou7 := Lib.hid (Ou7.out.grown hg)
  have XP0 := Lib.hid (XP0.out.grown hg)
  clear hg
  clear Ou7
  try clear cP0_0
  have cP0_0 : World.cell? (w15) ⟨w.heap.size, 0, none⟩ = some (.int .i64 aX_Who) := XP0.out.cell 0
  try clear cP0_1
  have cP0_1 : World.cell? (w15) ⟨w.heap.size, 1, none⟩ = some (.int .i64 aX_Choice) := XP0.out.cell 1
  go_wp2_with fail
  refine (LawsV.to_any w15 (.slice aV_a aV_L.length aV_cap) aV_L (aV_S.out.below HB15.out) (by have h9 := VotA.res_len aL_L aV_L (aX_Who, aX_Choice); (try simp only [LawsM.marksM_len, LawsV.marksV_len]); omega)).mono ?_
  rintro e w16 ⟨u8, rfl, ho, hg⟩
  have A_u8_u3 := Lib.hid (Rg.apart_lt ho.lt Ou3.out.lt (Nat.le_refl _))
  have A_u8_u4 := Lib.hid (Rg.apart_lt ho.lt Ou4.out.lt (Nat.le_refl _))
  have A_u8_u5 := Lib.hid (Rg.apart_lt ho.lt Ou5.out.lt (Nat.le_refl _))
  have A_u8_u6 := Lib.hid (Rg.apart_lt ho.lt Ou6.out.lt (Nat.le_refl _))
  have D_u8_P0 := Lib.hid (ho.off XP0.out.lt)
  have Ou8 := Lib.hid (ho.lower HB15.out.size)
  have HB16 := Lib.hid (HB15.out.grown hg HB15.out.size (fun _ h => by cases h)); clear HB15
  have Ou3 := Lib.hid (Ou3.out.grown hg)
  have Ou4 := Lib.hid (Ou4.out.grown hg)
  have Ou5 := Lib.hid (Ou5.out.grown hg)
  have Ou6 := Lib.hid (Ou6.out.grown hg)
  have XP0 := Lib.hid (XP0.out.grown hg)
  clear ho hg
  try clear cP0_0
  have cP0_0 : World.cell? (w16) ⟨w.heap.size, 0, none⟩ = some (.int .i64 aX_Who) := XP0.out.cell 0
  try clear cP0_1
  have cP0_1 : World.cell? (w16) ⟨w.heap.size, 1, none⟩ = some (.int .i64 aX_Choice) := XP0.out.cell 1
  go_wp2_with fail
  refine (LawsV.eq_same w16 (u5) (u8) aV_L (Ou5.out.sees) (Ou8.out.sees)).mono ?_
  rintro e w17 ⟨rfl, hg⟩
  have HB17 := Lib.hid (HB16.out.grown hg HB16.out.size (fun _ h => by cases h)); clear HB16
  have Ou3 := Lib.hid (Ou3.out.grown hg)
  have Ou4 := Lib.hid (Ou4.out.grown hg)
  have Ou5 := Lib.hid (Ou5.out.grown hg)
  have Ou6 := Lib.hid (Ou6.out.grown hg)
  have Ou8 := Lib.hid (Ou8.out.grown hg)
  have XP0 := Lib.hid (XP0.out.grown hg)
  clear hg
  clear Ou8
  try clear cP0_0
  have cP0_0 : World.cell? (w17) ⟨w.heap.size, 0, none⟩ = some (.int .i64 aX_Who) := XP0.out.cell 0
  try clear cP0_1
  have cP0_1 : World.cell? (w17) ⟨w.heap.size, 1, none⟩ = some (.int .i64 aX_Choice) := XP0.out.cell 1
  go_wp2_with fail
  refine (LawsM.mark_any w17 w.heap.size (u4) aL_L (1) Ou4.out (by have h9 := VotA.res_len aL_L aV_L (aX_Who, aX_Choice); (try simp only [LawsM.marksM_len, LawsV.marksV_len]); omega)).mono ?_
  rintro e w18 ⟨rfl, ho, hg⟩
  have HB18 := Lib.hid (HB17.out.grown hg HB17.out.size (fun c hc => (Ou4.out.lt c hc).1)); clear HB17
  have Ou3 := Lib.hid (Ou3.out.kept hg (A_u4_u3.out.2))
  have Ou5 := Lib.hid (Ou5.out.kept hg (A_u5_u4.out.1))
  have Ou6 := Lib.hid (Ou6.out.kept hg (A_u6_u4.out.1))
  have XP0 := Lib.hid (XP0.out.kept hg D_u4_P0.out)
  have Ou4 := Lib.hid ho
  clear ho hg
  try clear cP0_0
  have cP0_0 : World.cell? (w18) ⟨w.heap.size, 0, none⟩ = some (.int .i64 aX_Who) := XP0.out.cell 0
  try clear cP0_1
  have cP0_1 : World.cell? (w18) ⟨w.heap.size, 1, none⟩ = some (.int .i64 aX_Choice) := XP0.out.cell 1
  go_wp2_with fail
  refine (LawsV.mark_any w18 w.heap.size (u5) aV_L (1 + 4 * (aL_L).length) Ou5.out (by have h9 := VotA.res_len aL_L aV_L (aX_Who, aX_Choice); (try simp only [LawsM.marksM_len, LawsV.marksV_len]); omega)).mono ?_
  rintro e w19 ⟨rfl, ho, hg⟩
  have HB19 := Lib.hid (HB18.out.grown hg HB18.out.size (fun c hc => (Ou5.out.lt c hc).1)); clear HB18
  have Ou3 := Lib.hid (Ou3.out.kept hg (A_u5_u3.out.2))
  have Ou4 := Lib.hid (Ou4.out.kept hg (A_u5_u4.out.2))
  have Ou6 := Lib.hid (Ou6.out.kept hg (A_u6_u5.out.1))
  have XP0 := Lib.hid (XP0.out.kept hg D_u5_P0.out)
  have Ou5 := Lib.hid ho
  clear ho hg
  try clear cP0_0
  have cP0_0 : World.cell? (w19) ⟨w.heap.size, 0, none⟩ = some (.int .i64 aX_Who) := XP0.out.cell 0
  try clear cP0_1
  have cP0_1 : World.cell? (w19) ⟨w.heap.size, 1, none⟩ = some (.int .i64 aX_Choice) := XP0.out.cell 1
  go_wp2_with fail
  refine (LawsV.eq_same w19 (u6) (u3) (VotA.res aL_L aV_L (aX_Who, aX_Choice)) (Ou6.out.sees) (Ou3.out.sees)).mono ?_
  rintro e w20 ⟨rfl, hg⟩
  have HB20 := Lib.hid (HB19.out.grown hg HB19.out.size (fun _ h => by cases h)); clear HB19
  have Ou3 := Lib.hid (Ou3.out.grown hg)
  have Ou4 := Lib.hid (Ou4.out.grown hg)
  have Ou5 := Lib.hid (Ou5.out.grown hg)
  have Ou6 := Lib.hid (Ou6.out.grown hg)
  have XP0 := Lib.hid (XP0.out.grown hg)
  clear hg
  clear Ou4
  clear Ou5
  try clear cP0_0
  have cP0_0 : World.cell? (w20) ⟨w.heap.size, 0, none⟩ = some (.int .i64 aX_Who) := XP0.out.cell 0
  try clear cP0_1
  have cP0_1 : World.cell? (w20) ⟨w.heap.size, 1, none⟩ = some (.int .i64 aX_Choice) := XP0.out.cell 1
  go_wp2_with fail
  refine (LawsV.mark_any w20 w.heap.size (u6) (VotA.res aL_L aV_L (aX_Who, aX_Choice)) (1) Ou6.out (by have h9 := VotA.res_len aL_L aV_L (aX_Who, aX_Choice); (try simp only [LawsM.marksM_len, LawsV.marksV_len]); omega)).mono ?_
  rintro e w21 ⟨rfl, ho, hg⟩
  have HB21 := Lib.hid (HB20.out.grown hg HB20.out.size (fun c hc => (Ou6.out.lt c hc).1)); clear HB20
  have Ou3 := Lib.hid (Ou3.out.kept hg (A_u6_u3.out.2))
  have XP0 := Lib.hid (XP0.out.kept hg D_u6_P0.out)
  have Ou6 := Lib.hid ho
  clear ho hg
  try clear cP0_0
  have cP0_0 : World.cell? (w21) ⟨w.heap.size, 0, none⟩ = some (.int .i64 aX_Who) := XP0.out.cell 0
  try clear cP0_1
  have cP0_1 : World.cell? (w21) ⟨w.heap.size, 1, none⟩ = some (.int .i64 aX_Choice) := XP0.out.cell 1
  go_wp2_with fail
  refine (LawsV.held_any w21 (u6) (1) ((VotA.res aL_L aV_L (aX_Who, aX_Choice))).length (Ou6.out.sees) (by have h9 := VotA.res_len aL_L aV_L (aX_Who, aX_Choice); (try simp only [LawsM.marksM_len, LawsV.marksV_len]); omega)).mono ?_
  rintro e w22 ⟨rfl, hg⟩
  have HB22 := Lib.hid (HB21.out.grown hg HB21.out.size (fun _ h => by cases h)); clear HB21
  have Ou3 := Lib.hid (Ou3.out.grown hg)
  have Ou6 := Lib.hid (Ou6.out.grown hg)
  have XP0 := Lib.hid (XP0.out.grown hg)
  clear hg
  try clear cP0_0
  have cP0_0 : World.cell? (w22) ⟨w.heap.size, 0, none⟩ = some (.int .i64 aX_Who) := XP0.out.cell 0
  try clear cP0_1
  have cP0_1 : World.cell? (w22) ⟨w.heap.size, 1, none⟩ = some (.int .i64 aX_Choice) := XP0.out.cell 1
  go_wp2_with fail
  have hgd := grown_drew (World.grownBy.refl w22 none)
  have HB23 := Lib.hid (HB22.out.grown hgd HB22.out.size (fun _ h => by cases h)); clear HB22
  have Ou3 := Lib.hid (Ou3.out.grown hgd)
  have Ou6 := Lib.hid (Ou6.out.grown hgd)
  have XP0 := Lib.hid (XP0.out.grown hgd)
  clear hgd
  try clear cP0_0
  have cP0_0 : World.cell? ((World.drew w22)) ⟨w.heap.size, 0, none⟩ = some (.int .i64 aX_Who) := XP0.out.cell 0
  try clear cP0_1
  have cP0_1 : World.cell? ((World.drew w22)) ⟨w.heap.size, 1, none⟩ = some (.int .i64 aX_Choice) := XP0.out.cell 1
  refine wp_region_held_drew (S := fun w' => w'.cell? ⟨w.heap.size, 0, none⟩ = some (.int .i64 aX_Who) ∧ w'.cell? ⟨w.heap.size, 1, none⟩ = some (.int .i64 aX_Choice)) (by kernel_rfl) ⟨cP0_0, cP0_1⟩ (fun hHeld => ?_)
  refine wpAnyH_take (i := 0) (v := ?_) rfl (by kernel_rfl) (by kernel_rfl) (by kernel_rfl) (fun _ _ _ h => h) (Or.inl ⟨by rfl, ?_⟩) (by assumption) ?_; rotate_left; (focus (intro wS hSw; (try dsimp only at hSw); go_simp <;> with_reducible rfl)); (try simp only [Act.put, List.getElem_toArray, List.getElem_cons_succ, List.getElem_cons_zero, List.setIfInBounds_toArray, List.set_cons_zero, List.set_cons_succ])
  refine wpAnyH_take (i := 2) (v := ?_) rfl (by kernel_rfl) (by kernel_rfl) (by kernel_rfl) (fun _ _ _ h => h) (Or.inl ⟨by rfl, ?_⟩) (by assumption) ?_; rotate_left; (focus (intro wS hSw; (try dsimp only at hSw); go_simp <;> with_reducible rfl)); (try simp only [Act.put, List.getElem_toArray, List.getElem_cons_succ, List.getElem_cons_zero, List.setIfInBounds_toArray, List.set_cons_zero, List.set_cons_succ])
  refine wpAnyH_take (i := 4) (v := ?_) rfl (by kernel_rfl) (by kernel_rfl) (by kernel_rfl) (fun _ _ _ h => h) (Or.inl ⟨by rfl, ?_⟩) (by assumption) ?_; rotate_left; (focus (intro wS hSw; (try dsimp only at hSw); go_simp <;> with_reducible rfl)); (try simp only [Act.put, List.getElem_toArray, List.getElem_cons_succ, List.getElem_cons_zero, List.setIfInBounds_toArray, List.set_cons_zero, List.set_cons_succ])
  refine wpAnyH_ready (rs := [1]) (by kernel_rfl) (by simp) ?_; refine AllReadyH.cons rfl (fun K hK => ?_) AllReadyH.nil; go_simp; (go_at_call 22; refine (LawsM.to_any (World.drew w22) (.slice aL_a aL_L.length aL_cap) aL_L (aL_S.out.below HB23.out) (by have h9 := VotA.res_len aL_L aV_L (aX_Who, aX_Choice); (try simp only [LawsM.marksM_len, LawsV.marksV_len]); omega)).mono ?_; rintro e w24 ⟨u9, rfl, ho, hg⟩; have A_u9_u3 := Lib.hid (Rg.apart_lt ho.lt Ou3.out.lt (Nat.le_refl _)); have A_u9_u6 := Lib.hid (Rg.apart_lt ho.lt Ou6.out.lt (Nat.le_refl _)); have D_u9_P0 := Lib.hid (ho.off XP0.out.lt); have Ou9 := Lib.hid (ho.lower HB23.out.size); have HB24 := Lib.hid (HB23.out.grown hg HB23.out.size (fun _ h => by cases h)); clear HB23; have Ou3 := Lib.hid (Ou3.out.grown hg); have Ou6 := Lib.hid (Ou6.out.grown hg); have XP0 := Lib.hid (XP0.out.grown hg); clear ho hg)
  refine hK.out _ _ ?_ (fun hHeld => ?_)
  · exact ⟨XP0.out.cell 0, XP0.out.cell 1⟩
  clear hK K
  (try simp only [Act.put, List.getElem_toArray, List.getElem_cons_succ, List.getElem_cons_zero, List.setIfInBounds_toArray, List.set_cons_zero, List.set_cons_succ])
  refine wpAnyH_ready (rs := [3]) (by kernel_rfl) (by simp) ?_; refine AllReadyH.cons rfl (fun K hK => ?_) AllReadyH.nil; go_simp; (go_at_call 17; refine (LawsV.to_any w24 (.slice aV_a aV_L.length aV_cap) aV_L (aV_S.out.below HB24.out) (by have h9 := VotA.res_len aL_L aV_L (aX_Who, aX_Choice); (try simp only [LawsM.marksM_len, LawsV.marksV_len]); omega)).mono ?_; rintro e w25 ⟨u10, rfl, ho, hg⟩; have A_u10_u3 := Lib.hid (Rg.apart_lt ho.lt Ou3.out.lt (Nat.le_refl _)); have A_u10_u6 := Lib.hid (Rg.apart_lt ho.lt Ou6.out.lt (Nat.le_refl _)); have A_u10_u9 := Lib.hid (Rg.apart_lt ho.lt Ou9.out.lt (Nat.le_refl _)); have D_u10_P0 := Lib.hid (ho.off XP0.out.lt); have Ou10 := Lib.hid (ho.lower HB24.out.size); have HB25 := Lib.hid (HB24.out.grown hg HB24.out.size (fun _ h => by cases h)); clear HB24; have Ou3 := Lib.hid (Ou3.out.grown hg); have Ou6 := Lib.hid (Ou6.out.grown hg); have Ou9 := Lib.hid (Ou9.out.grown hg); have XP0 := Lib.hid (XP0.out.grown hg); clear ho hg)
  refine hK.out _ _ ?_ (fun hHeld => ?_)
  · exact ⟨XP0.out.cell 0, XP0.out.cell 1⟩
  clear hK K
  (try simp only [Act.put, List.getElem_toArray, List.getElem_cons_succ, List.getElem_cons_zero, List.setIfInBounds_toArray, List.set_cons_zero, List.set_cons_succ])
  refine wpAnyH_ready (rs := [5]) (by kernel_rfl) (by simp) ?_; refine AllReadyH.cons rfl (fun K hK => ?_) AllReadyH.nil; go_simp; (go_at_call 40; refine (LawsV.toVote_any w25 aX_Who aX_Choice).mono ?_; rintro e w26 ⟨rfl, hg⟩; have HB26 := Lib.hid (HB25.out.grown hg HB25.out.size (fun _ h => by cases h)); clear HB25; have Ou3 := Lib.hid (Ou3.out.grown hg); have Ou6 := Lib.hid (Ou6.out.grown hg); have Ou9 := Lib.hid (Ou9.out.grown hg); have Ou10 := Lib.hid (Ou10.out.grown hg); have XP0 := Lib.hid (XP0.out.grown hg); clear hg)
  refine hK.out _ _ ?_ (fun hHeld => ?_)
  · exact ⟨XP0.out.cell 0, XP0.out.cell 1⟩
  clear hK K
  (try simp only [Act.put, List.getElem_toArray, List.getElem_cons_succ, List.getElem_cons_zero, List.setIfInBounds_toArray, List.set_cons_zero, List.set_cons_succ])
  refine wpAnyH_ready (rs := [6]) (by kernel_rfl) (by simp) ?_; refine AllReadyH.cons rfl (fun K hK => ?_) AllReadyH.nil; go_simp; (go_at_call 41; refine (VotA.iAdd_any w26 _ _ aL_L aV_L aX_Who aX_Choice aX_Who_H.out aX_Choice_H.out (Ou9.out.sees) (Ou10.out.sees) (by have h9 := VotA.res_len aL_L aV_L (aX_Who, aX_Choice); (try simp only [LawsM.marksM_len, LawsV.marksV_len]); omega)).mono ?_; rintro e w27 ⟨u11, rfl, ho, hg⟩; have A_u11_u3 := Lib.hid (Rg.apart_lt ho.lt Ou3.out.lt (Nat.le_refl _)); have A_u11_u6 := Lib.hid (Rg.apart_lt ho.lt Ou6.out.lt (Nat.le_refl _)); have A_u11_u9 := Lib.hid (Rg.apart_lt ho.lt Ou9.out.lt (Nat.le_refl _)); have A_u11_u10 := Lib.hid (Rg.apart_lt ho.lt Ou10.out.lt (Nat.le_refl _)); have D_u11_P0 := Lib.hid (ho.off XP0.out.lt); have Ou11 := Lib.hid (ho.lower HB26.out.size); have HB27 := Lib.hid (HB26.out.grown hg HB26.out.size (fun _ h => by cases h)); clear HB26; have Ou3 := Lib.hid (Ou3.out.grown hg); have Ou6 := Lib.hid (Ou6.out.grown hg); have Ou9 := Lib.hid (Ou9.out.grown hg); have Ou10 := Lib.hid (Ou10.out.grown hg); have XP0 := Lib.hid (XP0.out.grown hg); clear ho hg)
  refine hK.out _ _ ?_ (fun hHeld => ?_)
  · exact ⟨XP0.out.cell 0, XP0.out.cell 1⟩
  clear hK K
  (try simp only [Act.put, List.getElem_toArray, List.getElem_cons_succ, List.getElem_cons_zero, List.setIfInBounds_toArray, List.set_cons_zero, List.set_cons_succ])
  refine wpAnyH_take (i := 7) (v := ?_) rfl (by kernel_rfl) (by kernel_rfl) (by kernel_rfl) (fun _ _ _ h => h) (Or.inl ⟨by rfl, ?_⟩) (by assumption) ?_; rotate_left; (focus (intro wS hSw; (try dsimp only at hSw); go_simp <;> with_reducible rfl)); (try simp only [Act.put, List.getElem_toArray, List.getElem_cons_succ, List.getElem_cons_zero, List.setIfInBounds_toArray, List.set_cons_zero, List.set_cons_succ])
  refine wpAnyH_take (i := 8) (v := ?_) rfl (by kernel_rfl) (by kernel_rfl) (by kernel_rfl) (fun _ _ _ h => h) (Or.inl ⟨by rfl, ?_⟩) (by assumption) ?_; rotate_left; (focus (intro wS hSw; (try dsimp only at hSw); go_simp <;> with_reducible rfl)); (try simp only [Act.put, List.getElem_toArray, List.getElem_cons_succ, List.getElem_cons_zero, List.setIfInBounds_toArray, List.set_cons_zero, List.set_cons_succ])
  refine wpAnyH_take (i := 9) (v := ?_) rfl (by kernel_rfl) (by kernel_rfl) (by kernel_rfl) (fun _ _ _ h => h) (Or.inl ⟨by rfl, ?_⟩) (by assumption) ?_; rotate_left; (focus (intro wS hSw; (try dsimp only at hSw); go_simp <;> with_reducible rfl)); (try simp only [Act.put, List.getElem_toArray, List.getElem_cons_succ, List.getElem_cons_zero, List.setIfInBounds_toArray, List.set_cons_zero, List.set_cons_succ])
  refine wpAnyH_take (i := 10) (v := ?_) rfl (by kernel_rfl) (by kernel_rfl) (by kernel_rfl) (fun _ _ _ h => h) (Or.inl ⟨by rfl, ?_⟩) (by assumption) ?_; rotate_left; (focus (intro wS hSw; (try dsimp only at hSw); go_simp <;> with_reducible rfl)); (try simp only [Act.put, List.getElem_toArray, List.getElem_cons_succ, List.getElem_cons_zero, List.setIfInBounds_toArray, List.set_cons_zero, List.set_cons_succ])
  refine wpAnyH_take (i := 11) (v := ?_) rfl (by kernel_rfl) (by kernel_rfl) (by kernel_rfl) (fun _ _ _ h => h) (Or.inl ⟨by rfl, ?_⟩) (by assumption) ?_; rotate_left; (focus (intro wS hSw; (try dsimp only at hSw); go_simp <;> with_reducible rfl)); (try simp only [Act.put, List.getElem_toArray, List.getElem_cons_succ, List.getElem_cons_zero, List.setIfInBounds_toArray, List.set_cons_zero, List.set_cons_succ])
  refine wpAnyH_done (by kernel_rfl) ?_ _
  (try simp only [Act.put, List.getElem_toArray, List.getElem_cons_succ, List.getElem_cons_zero, List.setIfInBounds_toArray, List.set_cons_zero, List.set_cons_succ])
  clear Ou9
  clear Ou10
  try clear cP0_0
  have cP0_0 : World.cell? (w27) ⟨w.heap.size, 0, none⟩ = some (.int .i64 aX_Who) := XP0.out.cell 0
  try clear cP0_1
  have cP0_1 : World.cell? (w27) ⟨w.heap.size, 1, none⟩ = some (.int .i64 aX_Choice) := XP0.out.cell 1
  go_wp2_with fail
  refine (LawsV.eq_same w27 (u11) (u3) (VotA.res aL_L aV_L (aX_Who, aX_Choice)) (Ou11.out.sees) (Ou3.out.sees)).mono ?_
  rintro e w28 ⟨rfl, hg⟩
  have HB28 := Lib.hid (HB27.out.grown hg HB27.out.size (fun _ h => by cases h)); clear HB27
  have Ou3 := Lib.hid (Ou3.out.grown hg)
  have Ou6 := Lib.hid (Ou6.out.grown hg)
  have Ou11 := Lib.hid (Ou11.out.grown hg)
  have XP0 := Lib.hid (XP0.out.grown hg)
  clear hg
  clear Ou3
  clear Ou11
  try clear cP0_0
  have cP0_0 : World.cell? (w28) ⟨w.heap.size, 0, none⟩ = some (.int .i64 aX_Who) := XP0.out.cell 0
  try clear cP0_1
  have cP0_1 : World.cell? (w28) ⟨w.heap.size, 1, none⟩ = some (.int .i64 aX_Choice) := XP0.out.cell 1
  go_wp2_with fail
  refine (LawsV.held_any w28 (u6) (1) ((VotA.res aL_L aV_L (aX_Who, aX_Choice))).length (Ou6.out.sees) (by have h9 := VotA.res_len aL_L aV_L (aX_Who, aX_Choice); (try simp only [LawsM.marksM_len, LawsV.marksV_len]); omega)).mono ?_
  rintro e w29 ⟨rfl, hg⟩
  have HB29 := Lib.hid (HB28.out.grown hg HB28.out.size (fun _ h => by cases h)); clear HB28
  have Ou6 := Lib.hid (Ou6.out.grown hg)
  have XP0 := Lib.hid (XP0.out.grown hg)
  clear hg
  clear Ou6
  try clear cP0_0
  have cP0_0 : World.cell? (w29) ⟨w.heap.size, 0, none⟩ = some (.int .i64 aX_Who) := XP0.out.cell 0
  try clear cP0_1
  have cP0_1 : World.cell? (w29) ⟨w.heap.size, 1, none⟩ = some (.int .i64 aX_Choice) := XP0.out.cell 1
  go_wp2
  go_ret
  exact ⟨rfl, HB29.out⟩

set_option maxRecDepth 100000 in
/-- What the walk gives, for every argument. -/
theorem contract (H : Type) (enc : TypeId × Value → H) (W : World) (base : Nat) (args : Array Value) (ds gs : List (DataW H)) (before : List MemPlace)
    (hval : ∀ (j : Nat) t v, Try.f12.params[j]? = some t → args[j]? = some v → Value.okWide Try.prog W .any base t v)
    (hW : DataW.Whole enc Try.prog Try.f12.params.toList Rows.fnExactAddVoteSpec.vars false W args.toList ds gs before) :
    Calls Try.prog 12 args W fun e W' => ∃ v, e = .returned v ∧ Rows.fnExactAddVoteSpec.post enc Try.prog Try.f12 false true false false W args v W' := by
  have hW' := hW
  obtain ⟨p, q, hA0, hV, rfl, hfz, hnd⟩ := hW
  have hA : DataW.TrodAll enc Try.prog W 0 (fun _ => true) true Try.f12.params.toList args.toList ds p := hA0
  rw [Try.params12] at hA hval
  obtain ⟨v0, vs0, d0, ds0, p0, q0, hargs, rfl, rfl, h0, r0⟩ := trodAll_cons hA
  obtain ⟨v1, vs1, d1, ds1, p1, q1, rfl, rfl, rfl, h1, r1⟩ := trodAll_cons r0
  obtain ⟨v2, vs2, d2, ds2, p2, q2, rfl, rfl, rfl, h2, r2⟩ := trodAll_cons r1
  obtain ⟨rfl, rfl, rfl⟩ := trodAll_nil r2
  obtain rfl : args = #[v0, v1, v2] := by cases args; simp_all
  obtain ⟨rfl, rfl⟩ := trodVars_none hV
  obtain ⟨a0, len0, cap0, rfl⟩ := okWide_slice Try.underlying29 (hval 0 29 v0 rfl rfl)
  have k0 := h0
  have lt0 : ∀ x ∈ p0, x.block < W.heap.size := by obtain ⟨m, hm⟩ := k0; exact DataW.trod_lt m _ _ _ hm
  obtain ⟨z0, w0⟩ := Rg.row_openG (e := Rg.encM) Try.underlying29 (by kernel_rfl) (Rg.encM_open Try.underlying72 (by kernel_rfl) Try.underlying3 Try.underlying3 Try.underlying3 Try.underlying4) h0
  obtain ⟨a1, len1, cap1, rfl⟩ := okWide_slice Try.underlying22 (hval 1 22 v1 rfl rfl)
  have k1 := h1
  have lt1 : ∀ x ∈ p1, x.block < W.heap.size := by obtain ⟨m, hm⟩ := k1; exact DataW.trod_lt m _ _ _ hm
  obtain ⟨z1, w1⟩ := Rg.row_openG (e := Rg.encP) Try.underlying22 (by kernel_rfl) (Rg.encP_open Try.underlying46 (by kernel_rfl) Try.underlying3 Try.underlying3) h1
  have k2 := h2
  have lt2 : ∀ x ∈ p2, x.block < W.heap.size := by obtain ⟨m, hm⟩ := k2; exact DataW.trod_lt m _ _ _ hm
  obtain ⟨f2_0, f2_1, y2_0, y2_1, fn2, rfl, rfl, rfl, g2_0, g2_1⟩ := Go.Joins.open_agg2 Try.underlying46 (by kernel_rfl) (by kernel_rfl) (hval 2 46 v2 rfl rfl) h2
  obtain ⟨x2_0, rfl, w2_0⟩ := Kit.field_int Try.underlying3 g2_0
  obtain ⟨x2_1, rfl, w2_1⟩ := Kit.field_int Try.underlying3 g2_1
  clear hA0
  refine (walk W a0 len0 cap0 z0 w0 a1 len1 cap1 z1 w1 x2_0 w2_0 x2_1 w2_1).mono fun e W' ⟨he, bel⟩ => ?_
  subst he
  exact ⟨_, rfl, _, _, _, [], _, [], hW', trodAll_mk1 (shut_bool Try.underlying4 _), (trodAll_cons_mk (Below.trod laidOut (by kernel_rfl) (of_decide_eq_true (by kernel_rfl)) k0 bel lt0) (trodAll_cons_mk (Below.trod laidOut (by kernel_rfl) (of_decide_eq_true (by kernel_rfl)) k1 bel lt1) (trodAll_cons_mk (Below.trod laidOut (by kernel_rfl) (of_decide_eq_true (by kernel_rfl)) k2 bel lt2) trodAll_mk0))), rfl, bel.frame _, fun h => by cases h⟩

noncomputable def laidWorld (os : Os) : World := World.holding Try.prog os ⟨#[], #[], []⟩
theorem reads (os : Os) {H : Type} (enc : TypeId × Value → H) : ∃ places, DataW.whole enc Try.prog ((laidWorld os).forCall (fun _ _ => 0) ⟨#[], #[.slice none 0 0, .slice none 0 0, .agg #[.int .i64 0, .int .i64 0]], []⟩).memory Try.f12.params.toList Rows.fnExactAddVoteSpec.vars false (#[.slice none 0 0, .slice none 0 0, .agg #[.int .i64 0, .int .i64 0]] : Array Value).toList 8 = some ([.nil, .nil, .agg [.lit (.int .i64 0), .lit (.int .i64 0)]], [], places) :=
  ⟨[], by kernel_rfl⟩

set_option maxRecDepth 100000 in
theorem lifted (os : Os) (started : os.Started) (H : Type) (enc : TypeId × Value → H) (F : Stop.Interp) :
    ReturnsInHanded {} Try.checked os 12 .any ((OpenSpec.ofChange Rows.fnExactAddVoteSpec).preRow enc Try.prog Try.f12 Rows.fnExactAddVoteRow.domain false Rows.fnExactAddVoteRow.laid) (((OpenSpec.ofChange Rows.fnExactAddVoteSpec).at F).post enc Try.prog Try.f12 false true false false) := by
  obtain ⟨places, hx⟩ := reads os enc
  refine returnsInHanded_of_row (C := Try.checked) (s := (OpenSpec.ofChange Rows.fnExactAddVoteSpec)) own started (by kernel_rfl) Try.func12
    (witness_row_at (enc := enc) (C := Try.checked) false (laidWorld os) #[.slice none 0 0, .slice none 0 0, .agg #[.int .i64 0, .int .i64 0]] rfl (by kernel_rfl) (by kernel_rfl) (by kernel_rfl)
      (OpenSpec.preRow_of_cond 8 hx (by kernel_rfl) (fun k hk => by cases hk) (by kernel_rfl) (laidMetH_nil _ _))) ?_
  intro W base args ds gs before hval hW _ _ _ _ _ _
  exact contract H enc W base args ds gs before hval hW

set_option maxRecDepth 100000 in
theorem said : Rows.FnExactAddVoteSaid :=
  OpenClaim.holds_of_cond 12 Try.f12 rfl rfl rfl rfl rfl rfl rfl ⟨rfl, rfl, rfl, rfl, rfl⟩ rfl rfl rfl rfl rfl (by kernel_rfl) Try.func12 (by kernel_rfl)
    (of_decide_eq_true (by kernel_rfl)) (by unfold Func.isWrapper; first | (rw [if_pos (by decide +kernel)]; kernel_rfl) | (rw [if_neg (by decide +kernel)]; exact ⟨rfl, rfl⟩))
    (fun os started H enc _ F => by rw [OpenClaim.pre_eq_preRow]; exact lifted os started H enc F)

theorem proved : Rows.FnExactAddVoteSaid := said
#print axioms proved
end Go.Proofs.Ytfdadeiemfmgkaa.fnExactAddVote

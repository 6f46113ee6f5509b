/- The law FnExactOpenShare: the program's OpenShare answers as its model, for every argument; it writes into no argument, and its answer owns its memory. No condition. -/
import Derived.Test.YtoanhnklemlfmaaDoorCards
import Derived.Test.YtoanhnklemlfmaaDoorTie
import Derived.Test.YtoanhnklemlfmaaDoorRowE
import Derived.Test.YtoanhnklemlfmaaDoorLandL
import Derived.Test.YtoanhnklemlfmaaDoorLawsI
import Derived.Test.YtoanhnklemlfmaaDoorMea
import Derived.WalkKit
import Derived.ProofKit
import Derived.OpenShut
import Derived.ShutString
import Derived.ChangeOld
import Derived.Below
import Derived.Deep.DeepHandedRow
import Derived.Deep.DeepWitnessRowRef
import Derived.Lib.LaidTab
import Derived.Stop.LaidErr
import Derived.SevenTiedAt
import Derived.RowKitTokens
import Derived.LaidHandle
import Derived.LaidLaws
import Derived.JoinedOf
import Derived.Stop.Joined
namespace Go.Proofs.YtoanhnklemlfmaaDoor.fnExactOpenShare
open Go.ChangeShapes Go.WideShapes Go.ChangeAt Go.RowKit
open Go.ChangeMaps (open_string shut_string)
set_option linter.unusedVariables false

theorem own : ownKnob Tryd.prog.godebug = none := by kernel_rfl
theorem laidOut : laidOutB Tryd.prog = true := by kernel_rfl

theorem et : Tryd.prog.globalNamed "errors.errorType" = some 0 := by kernel_rfl
theorem rt : (Tryd.prog.cutTypes.find? (·.1 == "internal/reflectlite.rtype")).map (·.2) = some 188 := by kernel_rfl
theorem oneRow : ((List.range 238).filter fun t => Tryd.prog.rowNamed t [101, 114, 114, 111, 114]) = [125] := by kernel_rfl
theorem tysize : Tryd.prog.types.size = 238 := by kernel_rfl
theorem handle {W : World} (h : laidMetH Tryd.prog Rows.fnExactOpenShareRow.laid W) : Eas.ErrT W := by
  have h' : laidMet Tryd.prog [] W ∧ handlesMet Tryd.prog Rows.fnExactOpenShareRow.laid W := h
  obtain ⟨name, u, ty, e1, e2, e3, e4, e5⟩ := h'.2 _ (List.mem_singleton.2 rfl)
  have en : name = [101, 114, 114, 111, 114] := (Option.some.inj e1).symm
  subst en
  obtain rfl := Option.some.inj (rt.symm.trans e2)
  have hm : ty ∈ (List.range 238).filter fun t => Tryd.prog.rowNamed t [101, 114, 114, 111, 114] := List.mem_filter.2 ⟨List.mem_range.2 (by rw [← tysize]; exact e3), e4⟩
  rw [oneRow] at hm
  obtain rfl := List.mem_singleton.1 hm
  have hh : typeHandle Tryd.prog 125 = .pointer (some ⟨4, 125, none⟩) := by kernel_rfl
  rw [hh] at e5
  simpa [Eas.ErrT] using World.var?_cell et e5 0
open Kit Rw
set_option maxRecDepth 100000 in
set_option maxHeartbeats 4000000 in
theorem walk (w : World) (aX_W : Int) (aX_W_h : (Lit.int .i64 aX_W).wf = true) (aX_H : Int) (aX_H_h : (Lit.int .i64 aX_H).wf = true) (aX_Cells_a : Option Addr) (aX_Cells_len aX_Cells_cap : Nat) (aX_Cells_z : List Int) (aX_Cells_h : Kit.IsRow .i64 w aX_Cells_a aX_Cells_len aX_Cells_cap aX_Cells_z) (hL : laidMetH Tryd.prog Rows.fnExactOpenShareRow.laid w) :
    Calls Tryd.prog 13 #[.agg #[.int .i64 aX_W, .int .i64 aX_H, .slice aX_Cells_a aX_Cells_len aX_Cells_cap]] w fun e w' => e = .returned (.bool true) ∧ Below w.heap.size w w' := by
  have HER := Lib.hid (handle hL); clear hL
  have aX_Cells_g := Lib.hid aX_Cells_h; clear aX_Cells_h
  obtain ⟨aX_Cells_L, aX_Cells_e, aX_Cells_s0⟩ := IsRow.sees aX_Cells_g.out
  have aX_Cells_S := Lib.hid aX_Cells_s0; have aX_Cells_len0 := aX_Cells_s0.len; subst aX_Cells_e; clear aX_Cells_s0 aX_Cells_g
  have aX_W_H := Lib.hid aX_W_h; have aX_W_b := i64_of aX_W_h; clear aX_W_h
  have aX_H_H := Lib.hid aX_H_h; have aX_H_b := i64_of aX_H_h; clear aX_H_h
  by_cases aX_l : (aX_Cells_L.length : Int) ≤ (1048576 : Int)
  rotate_left
  ·
    have HB0 : Hid (Below w.heap.size w w) := Below.refl _ _
    have hgb := World.grownBy_alloc w (.cells #[.int .i64 aX_W, .int .i64 aX_H, .slice aX_Cells_a aX_Cells_L.length aX_Cells_cap] 24 (0, 0)) none
    have HB1 := Lib.hid (HB0.out.grown hgb HB0.out.size (fun _ h => by cases h)); clear HB0
    have XP0 := Lib.hid (box_new w #[.int .i64 aX_W, .int .i64 aX_H, .slice aX_Cells_a aX_Cells_L.length aX_Cells_cap] 24); clear hgb
    go_enter Tryd.func13, Tryd.ntmps13
    try clear cP0_0
    have cP0_0 : World.cell? (w.alloc (.cells #[.int .i64 aX_W, .int .i64 aX_H, .slice aX_Cells_a aX_Cells_L.length aX_Cells_cap] 24 (0, 0))) ⟨w.heap.size, 0, none⟩ = some (.int .i64 aX_W) := XP0.out.cell 0
    try clear cP0_1
    have cP0_1 : World.cell? (w.alloc (.cells #[.int .i64 aX_W, .int .i64 aX_H, .slice aX_Cells_a aX_Cells_L.length aX_Cells_cap] 24 (0, 0))) ⟨w.heap.size, 1, none⟩ = some (.int .i64 aX_H) := XP0.out.cell 1
    try clear cP0_2
    have cP0_2 : World.cell? (w.alloc (.cells #[.int .i64 aX_W, .int .i64 aX_H, .slice aX_Cells_a aX_Cells_L.length aX_Cells_cap] 24 (0, 0))) ⟨w.heap.size, 2, none⟩ = some (.slice aX_Cells_a aX_Cells_L.length aX_Cells_cap) := XP0.out.cell 2
    go_wp2_with fail
    generalize w.alloc (.cells #[.int .i64 aX_W, .int .i64 aX_H, .slice aX_Cells_a aX_Cells_L.length aX_Cells_cap] 24 (0, 0)) = w1 at *
    refine (LandL.szLand_no w1 aX_W aX_H _ _ (1048576 : Int) (aX_Cells_S.out.below HB1.out) (by omega) (by omega) (by omega)).mono ?_
    rintro e w2 ⟨rfl, hg⟩
    have HB2 := Lib.hid (HB1.out.grown hg HB1.out.size (fun _ h => by cases h)); clear HB1
    have XP0 := Lib.hid (XP0.out.grown hg)
    clear hg
    try clear cP0_0
    have cP0_0 : World.cell? (w2) ⟨w.heap.size, 0, none⟩ = some (.int .i64 aX_W) := XP0.out.cell 0
    try clear cP0_1
    have cP0_1 : World.cell? (w2) ⟨w.heap.size, 1, none⟩ = some (.int .i64 aX_H) := XP0.out.cell 1
    try clear cP0_2
    have cP0_2 : World.cell? (w2) ⟨w.heap.size, 2, none⟩ = some (.slice aX_Cells_a aX_Cells_L.length aX_Cells_cap) := XP0.out.cell 2
    go_wp2
    go_ret
    exact ⟨rfl, HB2.out⟩
  have HB0 : Hid (Below w.heap.size w w) := Below.refl _ _
  have hgb := World.grownBy_alloc w (.cells #[.int .i64 aX_W, .int .i64 aX_H, .slice aX_Cells_a aX_Cells_L.length aX_Cells_cap] 24 (0, 0)) none
  have HB1 := Lib.hid (HB0.out.grown hgb HB0.out.size (fun _ h => by cases h)); clear HB0
  have XP0 := Lib.hid (box_new w #[.int .i64 aX_W, .int .i64 aX_H, .slice aX_Cells_a aX_Cells_L.length aX_Cells_cap] 24); clear hgb
  go_enter Tryd.func13, Tryd.ntmps13
  try clear cP0_0
  have cP0_0 : World.cell? (w.alloc (.cells #[.int .i64 aX_W, .int .i64 aX_H, .slice aX_Cells_a aX_Cells_L.length aX_Cells_cap] 24 (0, 0))) ⟨w.heap.size, 0, none⟩ = some (.int .i64 aX_W) := XP0.out.cell 0
  try clear cP0_1
  have cP0_1 : World.cell? (w.alloc (.cells #[.int .i64 aX_W, .int .i64 aX_H, .slice aX_Cells_a aX_Cells_L.length aX_Cells_cap] 24 (0, 0))) ⟨w.heap.size, 1, none⟩ = some (.int .i64 aX_H) := XP0.out.cell 1
  try clear cP0_2
  have cP0_2 : World.cell? (w.alloc (.cells #[.int .i64 aX_W, .int .i64 aX_H, .slice aX_Cells_a aX_Cells_L.length aX_Cells_cap] 24 (0, 0))) ⟨w.heap.size, 2, none⟩ = some (.slice aX_Cells_a aX_Cells_L.length aX_Cells_cap) := XP0.out.cell 2
  go_wp2_with fail
  generalize w.alloc (.cells #[.int .i64 aX_W, .int .i64 aX_H, .slice aX_Cells_a aX_Cells_L.length aX_Cells_cap] 24 (0, 0)) = w1 at *
  refine (LandL.szLand_yes w1 aX_W aX_H _ _ (1048576 : Int) (aX_Cells_S.out.below HB1.out) (by omega) (by omega) (by omega)).mono ?_
  rintro e w2 ⟨rfl, hg⟩
  have HB2 := Lib.hid (HB1.out.grown hg HB1.out.size (fun _ h => by cases h)); clear HB1
  have XP0 := Lib.hid (XP0.out.grown hg)
  clear hg
  try clear cP0_0
  have cP0_0 : World.cell? (w2) ⟨w.heap.size, 0, none⟩ = some (.int .i64 aX_W) := XP0.out.cell 0
  try clear cP0_1
  have cP0_1 : World.cell? (w2) ⟨w.heap.size, 1, none⟩ = some (.int .i64 aX_H) := XP0.out.cell 1
  try clear cP0_2
  have cP0_2 : World.cell? (w2) ⟨w.heap.size, 2, none⟩ = some (.slice aX_Cells_a aX_Cells_L.length aX_Cells_cap) := XP0.out.cell 2
  go_wp2_with fail
  refine (LandL.toLand_any w2 aX_W aX_H _ _ (aX_Cells_S.out.below HB2.out) (by omega)).mono ?_
  rintro e w3 ⟨u1, rfl, ho, hg⟩
  have D_u1_P0 := Lib.hid (ho.off XP0.out.lt)
  have Ou1 := Lib.hid (ho.lower HB2.out.size)
  have HB3 := Lib.hid (HB2.out.grown hg HB2.out.size (fun _ h => by cases h)); clear HB2
  have XP0 := Lib.hid (XP0.out.grown hg)
  clear ho hg
  try clear cP0_0
  have cP0_0 : World.cell? (w3) ⟨w.heap.size, 0, none⟩ = some (.int .i64 aX_W) := XP0.out.cell 0
  try clear cP0_1
  have cP0_1 : World.cell? (w3) ⟨w.heap.size, 1, none⟩ = some (.int .i64 aX_H) := XP0.out.cell 1
  try clear cP0_2
  have cP0_2 : World.cell? (w3) ⟨w.heap.size, 2, none⟩ = some (.slice aX_Cells_a aX_Cells_L.length aX_Cells_cap) := XP0.out.cell 2
  go_wp2_with fail
  refine (Mea.sOpen_any w3 aX_W aX_H _ _ (Ou1.out.sees)).mono ?_
  rintro e w4 ⟨rfl, hg⟩
  have HB4 := Lib.hid (HB3.out.grown hg HB3.out.size (fun _ h => by cases h)); clear HB3
  have Ou1 := Lib.hid (Ou1.out.grown hg)
  have XP0 := Lib.hid (XP0.out.grown hg)
  clear hg
  clear Ou1
  try clear cP0_0
  have cP0_0 : World.cell? (w4) ⟨w.heap.size, 0, none⟩ = some (.int .i64 aX_W) := XP0.out.cell 0
  try clear cP0_1
  have cP0_1 : World.cell? (w4) ⟨w.heap.size, 1, none⟩ = some (.int .i64 aX_H) := XP0.out.cell 1
  try clear cP0_2
  have cP0_2 : World.cell? (w4) ⟨w.heap.size, 2, none⟩ = some (.slice aX_Cells_a aX_Cells_L.length aX_Cells_cap) := XP0.out.cell 2
  go_wp2_with fail
  refine (LandL.toLand_any w4 aX_W aX_H _ _ (aX_Cells_S.out.below HB4.out) (by omega)).mono ?_
  rintro e w5 ⟨u2, rfl, ho, hg⟩
  have D_u2_P0 := Lib.hid (ho.off XP0.out.lt)
  have Ou2 := Lib.hid (ho.lower HB4.out.size)
  have HB5 := Lib.hid (HB4.out.grown hg HB4.out.size (fun _ h => by cases h)); clear HB4
  have XP0 := Lib.hid (XP0.out.grown hg)
  clear ho hg
  obtain ⟨u2_a, u2_n, u2_c, hu2, Nu2⟩ := Ou2.out.sees.shape; subst hu2
  have hgb := World.grownBy_alloc w5 (.cells #[.int .i64 aX_W, .int .i64 aX_H, .slice u2_a u2_n u2_c] 27 (0, 0)) none
  have D_u2_B3 := Lib.hid (Ou2.out.off' (Nat.le_refl _))
  have HB6 := Lib.hid (HB5.out.grown hgb HB5.out.size (fun _ h => by cases h)); clear HB5
  have Ou2 := Lib.hid (Ou2.out.grown hgb)
  have XP0 := Lib.hid (XP0.out.grown hgb)
  have XB3 := Lib.hid (box_new w5 #[.int .i64 aX_W, .int .i64 aX_H, .slice u2_a u2_n u2_c] 27); clear hgb
  try clear cP0_0
  have cP0_0 : World.cell? (w5.alloc (.cells #[.int .i64 aX_W, .int .i64 aX_H, .slice u2_a u2_n u2_c] 27 (0, 0))) ⟨w.heap.size, 0, none⟩ = some (.int .i64 aX_W) := XP0.out.cell 0
  try clear cP0_1
  have cP0_1 : World.cell? (w5.alloc (.cells #[.int .i64 aX_W, .int .i64 aX_H, .slice u2_a u2_n u2_c] 27 (0, 0))) ⟨w.heap.size, 1, none⟩ = some (.int .i64 aX_H) := XP0.out.cell 1
  try clear cP0_2
  have cP0_2 : World.cell? (w5.alloc (.cells #[.int .i64 aX_W, .int .i64 aX_H, .slice u2_a u2_n u2_c] 27 (0, 0))) ⟨w.heap.size, 2, none⟩ = some (.slice aX_Cells_a aX_Cells_L.length aX_Cells_cap) := XP0.out.cell 2
  try clear cB3_0
  have cB3_0 : World.cell? (w5.alloc (.cells #[.int .i64 aX_W, .int .i64 aX_H, .slice u2_a u2_n u2_c] 27 (0, 0))) ⟨w5.heap.size, 0, none⟩ = some (.int .i64 aX_W) := XB3.out.cell 0
  try clear cB3_1
  have cB3_1 : World.cell? (w5.alloc (.cells #[.int .i64 aX_W, .int .i64 aX_H, .slice u2_a u2_n u2_c] 27 (0, 0))) ⟨w5.heap.size, 1, none⟩ = some (.int .i64 aX_H) := XB3.out.cell 1
  try clear cB3_2
  have cB3_2 : World.cell? (w5.alloc (.cells #[.int .i64 aX_W, .int .i64 aX_H, .slice u2_a u2_n u2_c] 27 (0, 0))) ⟨w5.heap.size, 2, none⟩ = some (.slice u2_a u2_n u2_c) := XB3.out.cell 2
  go_wp2_with fail
  generalize w5.alloc (.cells #[.int .i64 aX_W, .int .i64 aX_H, .slice u2_a u2_n u2_c] 27 (0, 0)) = w6 at *
  refine (Mea.iOpen_any w6 aX_W aX_H _ _ (Ou2.out.sees) (Eas.errT_grown HER.out (below_grown HB6.out))).mono ?_
  rintro e w7 ⟨rfl, hg⟩
  have HB7 := Lib.hid (HB6.out.grown hg HB6.out.size (fun _ h => by cases h)); clear HB6
  have Ou2 := Lib.hid (Ou2.out.grown hg)
  have XP0 := Lib.hid (XP0.out.grown hg)
  have XB3 := Lib.hid (XB3.out.grown hg)
  clear hg
  try clear cP0_0
  have cP0_0 : World.cell? (w7) ⟨w.heap.size, 0, none⟩ = some (.int .i64 aX_W) := XP0.out.cell 0
  try clear cP0_1
  have cP0_1 : World.cell? (w7) ⟨w.heap.size, 1, none⟩ = some (.int .i64 aX_H) := XP0.out.cell 1
  try clear cP0_2
  have cP0_2 : World.cell? (w7) ⟨w.heap.size, 2, none⟩ = some (.slice aX_Cells_a aX_Cells_L.length aX_Cells_cap) := XP0.out.cell 2
  try clear cB3_0
  have cB3_0 : World.cell? (w7) ⟨w5.heap.size, 0, none⟩ = some (.int .i64 aX_W) := XB3.out.cell 0
  try clear cB3_1
  have cB3_1 : World.cell? (w7) ⟨w5.heap.size, 1, none⟩ = some (.int .i64 aX_H) := XB3.out.cell 1
  try clear cB3_2
  have cB3_2 : World.cell? (w7) ⟨w5.heap.size, 2, none⟩ = some (.slice u2_a u2_n u2_c) := XB3.out.cell 2
  have hd0 := (World.grownBy.cell (grown_drew (World.grownBy.refl w7 none)) cB3_0 (by simp))
  have HD0 := Lib.hid hd0; clear hd0
  have hd1 := (World.grownBy.cell (grown_drew (World.grownBy.refl w7 none)) cB3_1 (by simp))
  have HD1 := Lib.hid hd1; clear hd1
  have hd2 := (World.grownBy.cell (grown_drew (World.grownBy.refl w7 none)) cB3_2 (by simp))
  have HD2 := Lib.hid hd2; clear hd2
  have hd3 := (World.grownBy.cell (grown_drew (World.grownBy.refl w7 none)) cP0_0 (by simp))
  have HD3 := Lib.hid hd3; clear hd3
  have hd4 := (World.grownBy.cell (grown_drew (World.grownBy.refl w7 none)) cP0_1 (by simp))
  have HD4 := Lib.hid hd4; clear hd4
  have hd5 := (World.grownBy.cell (grown_drew (World.grownBy.refl w7 none)) cP0_2 (by simp))
  have HD5 := Lib.hid hd5; clear hd5
  have HYaX_Cells := Lib.hid ((aX_Cells_S.out.below HB7.out).grown (grown_drew (World.grownBy.refl w7 none)))
  have HXu2 := Lib.hid (Ou2.out.grown (grown_drew (World.grownBy.refl w7 none)))
  go_wp2_with fail
  go_region_held3 (fun w' => w'.cell? ⟨w5.heap.size, 0, none⟩ = some (.int .i64 aX_W) ∧ w'.cell? ⟨w5.heap.size, 1, none⟩ = some (.int .i64 aX_H) ∧ w'.cell? ⟨w5.heap.size, 2, none⟩ = some (.slice u2_a u2_n u2_c) ∧ w'.cell? ⟨w.heap.size, 0, none⟩ = some (.int .i64 aX_W) ∧ w'.cell? ⟨w.heap.size, 1, none⟩ = some (.int .i64 aX_H) ∧ w'.cell? ⟨w.heap.size, 2, none⟩ = some (.slice aX_Cells_a aX_Cells_L.length aX_Cells_cap))
    (first | go_keep | (exact ⟨hgA.cell HD0.out (by simp), hgA.cell HD1.out (by simp), hgA.cell HD2.out (by simp), hgA.cell HD3.out (by simp), hgA.cell HD4.out (by simp), hgA.cell HD5.out (by simp)⟩) | (exact ⟨hgB.cell (hgA.cell HD0.out (by simp)) (by simp), hgB.cell (hgA.cell HD1.out (by simp)) (by simp), hgB.cell (hgA.cell HD2.out (by simp)) (by simp), hgB.cell (hgA.cell HD3.out (by simp)) (by simp), hgB.cell (hgA.cell HD4.out (by simp)) (by simp), hgB.cell (hgA.cell HD5.out (by simp)) (by simp)⟩))
    (first
      | (go_at_call 16; refine (LandL.toLand_any _ aX_W aX_H _ _ HYaX_Cells.out (by omega)).mono ?_; rintro e wA ⟨u4, rfl, hoA, hgA⟩)
      | (go_at_call 18; refine (LandL.eqLand_same _ aX_W aX_H _ _ _ (HXu2.out.grown hgA).sees hoA.sees).mono ?_; rintro e wBu4 ⟨rfl, hgB⟩))
  have hg : World.grownBy w7 wBu4 none := grownN_trans (grown_drew (World.grownBy.refl w7 none)) (grownN_trans hgA hgB)
  have HB8 := Lib.hid (HB7.out.grown hg HB7.out.size (fun _ h => by cases h)); clear HB7
  have Ou2 := Lib.hid (Ou2.out.grown hg)
  have XP0 := Lib.hid (XP0.out.grown hg)
  have XB3 := Lib.hid (XB3.out.grown hg)
  clear hg hgA hgB hoA
  clear HD0
  clear HD1
  clear HD2
  clear HD3
  clear HD4
  clear HD5
  clear HYaX_Cells
  clear HXu2
  clear Ou2
  try clear cP0_0
  have cP0_0 : World.cell? (wBu4) ⟨w.heap.size, 0, none⟩ = some (.int .i64 aX_W) := XP0.out.cell 0
  try clear cP0_1
  have cP0_1 : World.cell? (wBu4) ⟨w.heap.size, 1, none⟩ = some (.int .i64 aX_H) := XP0.out.cell 1
  try clear cP0_2
  have cP0_2 : World.cell? (wBu4) ⟨w.heap.size, 2, none⟩ = some (.slice aX_Cells_a aX_Cells_L.length aX_Cells_cap) := XP0.out.cell 2
  try clear cB3_0
  have cB3_0 : World.cell? (wBu4) ⟨w5.heap.size, 0, none⟩ = some (.int .i64 aX_W) := XB3.out.cell 0
  try clear cB3_1
  have cB3_1 : World.cell? (wBu4) ⟨w5.heap.size, 1, none⟩ = some (.int .i64 aX_H) := XB3.out.cell 1
  try clear cB3_2
  have cB3_2 : World.cell? (wBu4) ⟨w5.heap.size, 2, none⟩ = some (.slice u2_a u2_n u2_c) := XB3.out.cell 2
  go_wp2
  go_ret
  exact ⟨rfl, HB8.out⟩

set_option maxRecDepth 100000 in
/-- What the walk gives, for every argument. -/
theorem contract (H : Type) (enc : TypeId × Value → H) (W : World) (base : Nat) (args : Array Value) (ds gs : List (DataW H)) (before : List MemPlace)
    (hval : ∀ (j : Nat) t v, Tryd.f13.params[j]? = some t → args[j]? = some v → Value.okWide Tryd.prog W .any base t v)
    (hW : DataW.Whole enc Tryd.prog Tryd.f13.params.toList Rows.fnExactOpenShareSpec.vars false W args.toList ds gs before) (hL : laidMetH Tryd.prog Rows.fnExactOpenShareRow.laid W) :
    Calls Tryd.prog 13 args W fun e W' => ∃ v, e = .returned v ∧ Rows.fnExactOpenShareSpec.post enc Tryd.prog Tryd.f13 false true false false W args v W' := by
  have hW' := hW
  obtain ⟨p, q, hA0, hV, rfl, hfz, hnd⟩ := hW
  have hA : DataW.TrodAll enc Tryd.prog W 0 (fun _ => true) true Tryd.f13.params.toList args.toList ds p := hA0
  rw [Tryd.params13] at hA hval
  obtain ⟨v0, vs0, d0, ds0, p0, q0, hargs, rfl, rfl, h0, r0⟩ := trodAll_cons hA
  obtain ⟨rfl, rfl, rfl⟩ := trodAll_nil r0
  obtain rfl : args = #[v0] := by cases args; simp_all
  obtain ⟨rfl, rfl⟩ := trodVars_none hV
  have k0 := h0
  have lt0 : ∀ x ∈ p0, x.block < W.heap.size := by obtain ⟨m, hm⟩ := k0; exact DataW.trod_lt m _ _ _ hm
  obtain ⟨f0_0, f0_1, f0_2, y0_0, y0_1, y0_2, fn0, rfl, rfl, rfl, g0_0, g0_1, g0_2⟩ := Go.Joins.open_agg3 Tryd.underlying24 (by kernel_rfl) (by kernel_rfl) (hval 0 24 v0 rfl rfl) h0
  obtain ⟨x0_0, rfl, w0_0⟩ := Kit.field_int Tryd.underlying3 g0_0
  obtain ⟨x0_1, rfl, w0_1⟩ := Kit.field_int Tryd.underlying3 g0_1
  obtain ⟨a0_2, l0_2, c0_2, z0_2, rfl, w0_2⟩ := Kit.field_row Tryd.underlying22 Tryd.underlying3 (by kernel_rfl) g0_2
  clear hA0
  refine (walk W x0_0 w0_0 x0_1 w0_1 a0_2 l0_2 c0_2 z0_2 w0_2 hL).mono fun e W' ⟨he, bel⟩ => ?_
  subst he
  exact ⟨_, rfl, _, _, _, [], _, [], hW', trodAll_mk1 (shut_bool Tryd.underlying4 _), (trodAll_cons_mk (Below.trod laidOut (by kernel_rfl) (of_decide_eq_true (by kernel_rfl)) k0 bel lt0) trodAll_mk0), rfl, bel.frame _, fun h => by cases h⟩

/-- So many blocks has the settled world. -/
noncomputable def low : Nat := (World.holding Tryd.prog default ⟨#[], #[], []⟩).heap.size
/-- A world for the witness: the settled one, the listed variables holding what their initialisers lay. -/
noncomputable def laidWorld (os : Os) : World :=
  let w0 := World.holding Tryd.prog os ⟨#[], #[], []⟩
  { w0 with heap := (w0.heap.modify 0 fun
      | .cells _ t frozen => .cells #[.iface 188 (.agg #[.pointer (some ⟨4, 125, none⟩)])] t frozen
      | o => o) }
theorem laid_met (os : Os) : laidMetH Tryd.prog Rows.fnExactOpenShareRow.laid ((laidWorld os).forCall (fun _ _ => 0) ⟨#[], #[.agg #[.int .i64 0, .int .i64 0, .slice none 0 0]], []⟩).memory :=
  laidMetH_of_parts (laidMet_nil _ _) (by kernel_rfl)
theorem reads (os : Os) {H : Type} (enc : TypeId × Value → H) : ∃ places, DataW.whole enc Tryd.prog ((laidWorld os).forCall (fun _ _ => 0) ⟨#[], #[.agg #[.int .i64 0, .int .i64 0, .slice none 0 0]], []⟩).memory Tryd.f13.params.toList Rows.fnExactOpenShareSpec.vars false (#[.agg #[.int .i64 0, .int .i64 0, .slice none 0 0]] : Array Value).toList 8 = some ([.agg [.lit (.int .i64 0), .lit (.int .i64 0), .nil]], [], places) :=
  ⟨[], by kernel_rfl⟩

set_option maxRecDepth 100000 in
theorem lifted (os : Os) (started : os.Started) (H : Type) (enc : TypeId × Value → H) (F : Stop.Interp) :
    ReturnsInHanded {} Tryd.checked os 13 .any ((OpenSpec.ofChange Rows.fnExactOpenShareSpec).preRow enc Tryd.prog Tryd.f13 Rows.fnExactOpenShareRow.domain false Rows.fnExactOpenShareRow.laid) (((OpenSpec.ofChange Rows.fnExactOpenShareSpec).at F).post enc Tryd.prog Tryd.f13 false true false false) := by
  obtain ⟨places, hx⟩ := reads os enc
  refine returnsInHanded_of_row (C := Tryd.checked) (s := (OpenSpec.ofChange Rows.fnExactOpenShareSpec)) own started (by kernel_rfl) Tryd.func13
    (witness_row_at (enc := enc) (C := Tryd.checked) false (laidWorld os) #[.agg #[.int .i64 0, .int .i64 0, .slice none 0 0]] rfl (by kernel_rfl) (by kernel_rfl) (by kernel_rfl)
      (OpenSpec.preRow_of_cond 8 hx (by kernel_rfl) (fun k hk => by cases hk) (by kernel_rfl) (laid_met os))) ?_
  intro W base args ds gs before hval hW _ _ _ hL _ _
  exact contract H enc W base args ds gs before hval hW hL

set_option maxRecDepth 100000 in
theorem said : Rows.FnExactOpenShareSaid :=
  OpenClaim.holds_of_cond 13 Tryd.f13 rfl rfl rfl rfl rfl rfl rfl ⟨rfl, rfl, rfl, rfl, rfl⟩ rfl rfl rfl rfl rfl (by kernel_rfl) Tryd.func13 (by kernel_rfl)
    (of_decide_eq_true (by kernel_rfl)) (by unfold Func.isWrapper; first | (rw [if_pos (by decide +kernel)]; kernel_rfl) | (rw [if_neg (by decide +kernel)]; exact ⟨rfl, rfl⟩))
    (fun os started H enc _ F => by rw [OpenClaim.pre_eq_preRow]; exact lifted os started H enc F)

/-- No parameter wants a stand-in. -/
theorem plain (f : FuncId) (fn : Func) (hf : Tryd.pinned.checked.prog.funcNamed "loop.example/g03008/laws.FnExactOpenShare" = some f) (hfn : Tryd.pinned.checked.prog.funcs[f]? = some fn) :
    true = Tryd.pinned.checked.prog.looks [] ∧ ∀ (j : Nat) t, fn.params[j]? = some t → Tryd.pinned.checked.prog.wantsStandIn t = false := by
  obtain rfl : f = 13 := Option.some.inj ((show Tryd.prog.funcNamed "loop.example/g03008/laws.FnExactOpenShare" = some 13 by kernel_rfl).symm.trans hf) |>.symm
  obtain rfl : fn = Tryd.f13 := (Option.some.inj (Tryd.func13.symm.trans hfn)).symm
  refine ⟨by kernel_rfl, fun j t ht => ?_⟩
  rw [Tryd.params13] at ht
  have hm := Array.mem_of_getElem? ht
  simp only [List.mem_toArray, List.mem_cons, List.not_mem_nil, or_false] at hm
  subst hm
  exact (show Tryd.prog.wantsStandIn 24 = false by kernel_rfl)
theorem proved : Rows.FnExactOpenShareCardSaid :=
  Claim7.holds_tied_plain_at .later [] _ _ _ _ said (fun _ h => by cases h) (by kernel_rfl) (fun _ h => by cases h) fnExactOpenShare_row_tie rfl ⟨rfl, rfl⟩ (by kernel_rfl) rfl plain (by kernel_rfl)
#print axioms proved
end Go.Proofs.YtoanhnklemlfmaaDoor.fnExactOpenShare

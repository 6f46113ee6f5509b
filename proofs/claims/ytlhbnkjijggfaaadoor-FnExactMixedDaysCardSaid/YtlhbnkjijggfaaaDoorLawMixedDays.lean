/- The law FnExactMixedDays: the program's MixedDays answers as its model, for every argument; it writes into no argument, and its answer owns its memory. No condition. -/
import Derived.Deep.RegionHeld3
import Derived.Test.YtlhbnkjijggfaaaDoorCards
import Derived.Test.YtlhbnkjijggfaaaDoorTie
import Derived.Test.YtlhbnkjijggfaaaDoorFieldG
import Derived.Test.YtlhbnkjijggfaaaDoorPartyL
import Derived.Test.YtlhbnkjijggfaaaDoorPlv
import Derived.Test.YtlhbnkjijggfaaaDoorRaX
import Derived.WalkKit
import Derived.ProofKit
import Derived.OpenShut
import Derived.ShutString
import Derived.ChangeOld
import Derived.Below
import Derived.Deep.DeepHandedRow
import Derived.Deep.DeepWitnessRowRef
import Derived.Lib.LaidTab
import Derived.Stop.LaidErr
import Derived.SevenTiedAt
import Derived.RowKitTokens
namespace Go.Proofs.YtlhbnkjijggfaaaDoor.fnExactMixedDays
open Go.ChangeShapes Go.WideShapes Go.ChangeAt Go.RowKit
open Go.ChangeMaps (open_string shut_string)
set_option linter.unusedVariables false

theorem own : ownKnob Tryd.prog.godebug = none := by kernel_rfl
theorem laidOut : laidOutB Tryd.prog = true := by kernel_rfl

theorem vG0 : Tryd.prog.globalNamed "loop.example/g03008/impl.rations" = some 2 := by kernel_rfl
theorem vT0 : (Tryd.prog.globals[2]?).map (·.type) = some 94 := by kernel_rfl
def vVals : Array Value := #[.string ⟨#[102, 117, 108, 108]⟩, .int .i64 (1), .string ⟨#[104, 97, 108, 102]⟩, .int .i64 (2), .string ⟨#[116, 104, 105, 114, 100]⟩, .int .i64 (3)]
def vD {H : Type} : DataW H := .agg [.agg [.lit (.string [102, 117, 108, 108]), .lit (.int .i64 1)], .agg [.lit (.string [104, 97, 108, 102]), .lit (.int .i64 2)], .agg [.lit (.string [116, 104, 105, 114, 100]), .lit (.int .i64 3)]]
theorem var_on {w w' : World} {B g : Nat} {n : String} {cs : Array Value} (hg : Tryd.prog.globalNamed n = some g) (h : w.var? Tryd.prog n = some cs) (hb : Below B w w') (hB : w.heap.size ≤ B) : w'.var? Tryd.prog n = some cs := by
  unfold World.var? at h ⊢
  rw [hg] at h ⊢
  simp only [Option.bind_some] at h ⊢
  by_cases hlt : g < w.heap.size
  · rw [hb.block g (by omega)]; exact h
  · rw [Array.getElem?_eq_none (by omega)] at h; simp at h
theorem vars_read {H : Type} (enc : TypeId × Value → H) {W : World} (h0 : W.var? Tryd.prog "loop.example/g03008/impl.rations" = some vVals) (sp : Nat → Bool) :
    DataW.TrodVars enc Tryd.prog W sp ["loop.example/g03008/impl.rations"] [vD] [.cell 2 0, .cell 2 1, .cell 2 2, .cell 2 3, .cell 2 4, .cell 2 5] := ⟨2, 94, vVals, 8, [], [], vG0, vT0, h0, by kernel_rfl, rfl, rfl⟩
theorem sents {W : World} (h : laidMetH Tryd.prog Rows.fnExactMixedDaysRow.laid W) : W.var? Tryd.prog "loop.example/g03008/impl.rations" = some vVals :=
  Plv.of_head vG0 vT0 (Plv.only_array3 (m := 2) Tryd.underlying94 (by kernel_rfl) (by kernel_rfl) (Plv.only_struct2 Tryd.underlying88 (Plv.only_string Tryd.underlying9) (Plv.only_int Tryd.underlying3) rfl (by kernel_rfl) (by kernel_rfl)) (Plv.only_struct2 Tryd.underlying88 (Plv.only_string Tryd.underlying9) (Plv.only_int Tryd.underlying3) rfl (by kernel_rfl) (by kernel_rfl)) (Plv.only_struct2 Tryd.underlying88 (Plv.only_string Tryd.underlying9) (Plv.only_int Tryd.underlying3) rfl (by kernel_rfl) (by kernel_rfl))) h
open Kit Rw
set_option maxRecDepth 100000 in
set_option maxHeartbeats 4000000 in
theorem walk (w : World) (aP_At : Int) (aP_At_h : (Lit.int .i64 aP_At).wf = true) (aP_Food : Int) (aP_Food_h : (Lit.int .i64 aP_Food).wf = true) (aP_Crew_a : Option Addr) (aP_Crew_len aP_Crew_cap : Nat) (aP_Crew_L : List Rg.Mem) (aP_Crew_h : aP_Crew_L.length = aP_Crew_len ∧ Rg.SeesG Rg.encM w (.slice aP_Crew_a aP_Crew_len aP_Crew_cap) aP_Crew_L) (aP_Past_a : Option Addr) (aP_Past_len aP_Past_cap : Nat) (aP_Past_L : List Bool) (aP_Past_h : aP_Past_L.length = aP_Past_len ∧ Rg.SeesG Rg.encB w (.slice aP_Past_a aP_Past_len aP_Past_cap) aP_Past_L) (aDays : Int) (aDays_h : (Lit.int .i64 aDays).wf = true) (hL : laidMetH Tryd.prog Rows.fnExactMixedDaysRow.laid w) :
    Calls Tryd.prog 12 #[.agg #[.int .i64 aP_At, .int .i64 aP_Food, .slice aP_Crew_a aP_Crew_len aP_Crew_cap, .slice aP_Past_a aP_Past_len aP_Past_cap], .int .i64 aDays] w fun e w' => e = .returned (.bool true) ∧ Below w.heap.size w w' := by
  have HVS := Lib.hid (sents hL); clear hL
  obtain ⟨aP_Crew_e, aP_Crew_s0⟩ := aP_Crew_h; have aP_Crew_S := Lib.hid aP_Crew_s0; have aP_Crew_len0 := aP_Crew_s0.len; subst aP_Crew_e; clear aP_Crew_s0
  obtain ⟨aP_Past_e, aP_Past_s0⟩ := aP_Past_h; have aP_Past_S := Lib.hid aP_Past_s0; have aP_Past_len0 := aP_Past_s0.len; subst aP_Past_e; clear aP_Past_s0
  have aP_At_H := Lib.hid aP_At_h; have aP_At_b := i64_of aP_At_h; clear aP_At_h
  have aP_Food_H := Lib.hid aP_Food_h; have aP_Food_b := i64_of aP_Food_h; clear aP_Food_h
  have aDays_H := Lib.hid aDays_h; have aDays_b := i64_of aDays_h; clear aDays_h
  by_cases aP_l : (aP_Crew_L.length : Int) + (aP_Past_L.length : Int) ≤ (1048576 : Int)
  rotate_left
  ·
    have HB0 : Hid (Below w.heap.size w w) := Below.refl _ _
    have hgb := World.grownBy_alloc w (.cells #[.int .i64 aP_At, .int .i64 aP_Food, .slice aP_Crew_a aP_Crew_L.length aP_Crew_cap, .slice aP_Past_a aP_Past_L.length aP_Past_cap] 46 (0, 0)) none
    have HB1 := Lib.hid (HB0.out.grown hgb HB0.out.size (fun _ h => by cases h)); clear HB0
    have XP0 := Lib.hid (box_new w #[.int .i64 aP_At, .int .i64 aP_Food, .slice aP_Crew_a aP_Crew_L.length aP_Crew_cap, .slice aP_Past_a aP_Past_L.length aP_Past_cap] 46); clear hgb
    go_enter Tryd.func12, Tryd.ntmps12
    try clear cP0_0
    have cP0_0 : World.cell? (w.alloc (.cells #[.int .i64 aP_At, .int .i64 aP_Food, .slice aP_Crew_a aP_Crew_L.length aP_Crew_cap, .slice aP_Past_a aP_Past_L.length aP_Past_cap] 46 (0, 0))) ⟨w.heap.size, 0, none⟩ = some (.int .i64 aP_At) := XP0.out.cell 0
    try clear cP0_1
    have cP0_1 : World.cell? (w.alloc (.cells #[.int .i64 aP_At, .int .i64 aP_Food, .slice aP_Crew_a aP_Crew_L.length aP_Crew_cap, .slice aP_Past_a aP_Past_L.length aP_Past_cap] 46 (0, 0))) ⟨w.heap.size, 1, none⟩ = some (.int .i64 aP_Food) := XP0.out.cell 1
    try clear cP0_2
    have cP0_2 : World.cell? (w.alloc (.cells #[.int .i64 aP_At, .int .i64 aP_Food, .slice aP_Crew_a aP_Crew_L.length aP_Crew_cap, .slice aP_Past_a aP_Past_L.length aP_Past_cap] 46 (0, 0))) ⟨w.heap.size, 2, none⟩ = some (.slice aP_Crew_a aP_Crew_L.length aP_Crew_cap) := XP0.out.cell 2
    try clear cP0_3
    have cP0_3 : World.cell? (w.alloc (.cells #[.int .i64 aP_At, .int .i64 aP_Food, .slice aP_Crew_a aP_Crew_L.length aP_Crew_cap, .slice aP_Past_a aP_Past_L.length aP_Past_cap] 46 (0, 0))) ⟨w.heap.size, 3, none⟩ = some (.slice aP_Past_a aP_Past_L.length aP_Past_cap) := XP0.out.cell 3
    go_wp2_with fail
    generalize w.alloc (.cells #[.int .i64 aP_At, .int .i64 aP_Food, .slice aP_Crew_a aP_Crew_L.length aP_Crew_cap, .slice aP_Past_a aP_Past_L.length aP_Past_cap] 46 (0, 0)) = w1 at *
    refine (PartyL.szParty_no w1 aP_At aP_Food _ _ _ _ (1048576 : Int) (aP_Crew_S.out.below HB1.out) (aP_Past_S.out.below HB1.out) (by omega) (by omega) (by omega)).mono ?_
    rintro e w2 ⟨rfl, hg⟩
    have HB2 := Lib.hid (HB1.out.grown hg HB1.out.size (fun _ h => by cases h)); clear HB1
    have XP0 := Lib.hid (XP0.out.grown hg)
    clear hg
    try clear cP0_0
    have cP0_0 : World.cell? (w2) ⟨w.heap.size, 0, none⟩ = some (.int .i64 aP_At) := XP0.out.cell 0
    try clear cP0_1
    have cP0_1 : World.cell? (w2) ⟨w.heap.size, 1, none⟩ = some (.int .i64 aP_Food) := XP0.out.cell 1
    try clear cP0_2
    have cP0_2 : World.cell? (w2) ⟨w.heap.size, 2, none⟩ = some (.slice aP_Crew_a aP_Crew_L.length aP_Crew_cap) := XP0.out.cell 2
    try clear cP0_3
    have cP0_3 : World.cell? (w2) ⟨w.heap.size, 3, none⟩ = some (.slice aP_Past_a aP_Past_L.length aP_Past_cap) := XP0.out.cell 3
    go_wp2
    go_ret
    exact ⟨rfl, HB2.out⟩
  have HB0 : Hid (Below w.heap.size w w) := Below.refl _ _
  have hgb := World.grownBy_alloc w (.cells #[.int .i64 aP_At, .int .i64 aP_Food, .slice aP_Crew_a aP_Crew_L.length aP_Crew_cap, .slice aP_Past_a aP_Past_L.length aP_Past_cap] 46 (0, 0)) none
  have HB1 := Lib.hid (HB0.out.grown hgb HB0.out.size (fun _ h => by cases h)); clear HB0
  have XP0 := Lib.hid (box_new w #[.int .i64 aP_At, .int .i64 aP_Food, .slice aP_Crew_a aP_Crew_L.length aP_Crew_cap, .slice aP_Past_a aP_Past_L.length aP_Past_cap] 46); clear hgb
  go_enter Tryd.func12, Tryd.ntmps12
  try clear cP0_0
  have cP0_0 : World.cell? (w.alloc (.cells #[.int .i64 aP_At, .int .i64 aP_Food, .slice aP_Crew_a aP_Crew_L.length aP_Crew_cap, .slice aP_Past_a aP_Past_L.length aP_Past_cap] 46 (0, 0))) ⟨w.heap.size, 0, none⟩ = some (.int .i64 aP_At) := XP0.out.cell 0
  try clear cP0_1
  have cP0_1 : World.cell? (w.alloc (.cells #[.int .i64 aP_At, .int .i64 aP_Food, .slice aP_Crew_a aP_Crew_L.length aP_Crew_cap, .slice aP_Past_a aP_Past_L.length aP_Past_cap] 46 (0, 0))) ⟨w.heap.size, 1, none⟩ = some (.int .i64 aP_Food) := XP0.out.cell 1
  try clear cP0_2
  have cP0_2 : World.cell? (w.alloc (.cells #[.int .i64 aP_At, .int .i64 aP_Food, .slice aP_Crew_a aP_Crew_L.length aP_Crew_cap, .slice aP_Past_a aP_Past_L.length aP_Past_cap] 46 (0, 0))) ⟨w.heap.size, 2, none⟩ = some (.slice aP_Crew_a aP_Crew_L.length aP_Crew_cap) := XP0.out.cell 2
  try clear cP0_3
  have cP0_3 : World.cell? (w.alloc (.cells #[.int .i64 aP_At, .int .i64 aP_Food, .slice aP_Crew_a aP_Crew_L.length aP_Crew_cap, .slice aP_Past_a aP_Past_L.length aP_Past_cap] 46 (0, 0))) ⟨w.heap.size, 3, none⟩ = some (.slice aP_Past_a aP_Past_L.length aP_Past_cap) := XP0.out.cell 3
  go_wp2_with fail
  generalize w.alloc (.cells #[.int .i64 aP_At, .int .i64 aP_Food, .slice aP_Crew_a aP_Crew_L.length aP_Crew_cap, .slice aP_Past_a aP_Past_L.length aP_Past_cap] 46 (0, 0)) = w1 at *
  refine (PartyL.szParty_yes w1 aP_At aP_Food _ _ _ _ (1048576 : Int) (aP_Crew_S.out.below HB1.out) (aP_Past_S.out.below HB1.out) (by omega) (by omega) (by omega)).mono ?_
  rintro e w2 ⟨rfl, hg⟩
  have HB2 := Lib.hid (HB1.out.grown hg HB1.out.size (fun _ h => by cases h)); clear HB1
  have XP0 := Lib.hid (XP0.out.grown hg)
  clear hg
  try clear cP0_0
  have cP0_0 : World.cell? (w2) ⟨w.heap.size, 0, none⟩ = some (.int .i64 aP_At) := XP0.out.cell 0
  try clear cP0_1
  have cP0_1 : World.cell? (w2) ⟨w.heap.size, 1, none⟩ = some (.int .i64 aP_Food) := XP0.out.cell 1
  try clear cP0_2
  have cP0_2 : World.cell? (w2) ⟨w.heap.size, 2, none⟩ = some (.slice aP_Crew_a aP_Crew_L.length aP_Crew_cap) := XP0.out.cell 2
  try clear cP0_3
  have cP0_3 : World.cell? (w2) ⟨w.heap.size, 3, none⟩ = some (.slice aP_Past_a aP_Past_L.length aP_Past_cap) := XP0.out.cell 3
  go_wp2_with fail
  refine (PartyL.toParty_any w2 aP_At aP_Food _ _ _ _ (aP_Crew_S.out.below HB2.out) (aP_Past_S.out.below HB2.out) (by omega) (by omega)).mono ?_
  rintro e w3 ⟨u1, u2, rfl, ho1, ho2, hap, hg⟩
  have D_u1_P0 := Lib.hid (ho1.off XP0.out.lt)
  have Ou1 := Lib.hid (ho1.lower HB2.out.size)
  have D_u2_P0 := Lib.hid (ho2.off XP0.out.lt)
  have Ou2 := Lib.hid (ho2.lower HB2.out.size)
  have A_u2_u1 := Lib.hid hap
  have HB3 := Lib.hid (HB2.out.grown hg HB2.out.size (fun _ h => by cases h)); clear HB2
  have XP0 := Lib.hid (XP0.out.grown hg)
  clear ho1 ho2 hap hg
  try clear cP0_0
  have cP0_0 : World.cell? (w3) ⟨w.heap.size, 0, none⟩ = some (.int .i64 aP_At) := XP0.out.cell 0
  try clear cP0_1
  have cP0_1 : World.cell? (w3) ⟨w.heap.size, 1, none⟩ = some (.int .i64 aP_Food) := XP0.out.cell 1
  try clear cP0_2
  have cP0_2 : World.cell? (w3) ⟨w.heap.size, 2, none⟩ = some (.slice aP_Crew_a aP_Crew_L.length aP_Crew_cap) := XP0.out.cell 2
  try clear cP0_3
  have cP0_3 : World.cell? (w3) ⟨w.heap.size, 3, none⟩ = some (.slice aP_Past_a aP_Past_L.length aP_Past_cap) := XP0.out.cell 3
  go_wp2_with fail
  refine (Rat.sMixed_any w3 aP_At aP_Food _ _ aP_Crew_L aDays aP_Food_H.out aDays_b (Ou1.out.sees)).mono ?_
  rintro e w4 ⟨rfl, hg⟩
  have HB4 := Lib.hid (HB3.out.grown hg HB3.out.size (fun _ h => by cases h)); clear HB3
  have Ou1 := Lib.hid (Ou1.out.grown hg)
  have Ou2 := Lib.hid (Ou2.out.grown hg)
  have XP0 := Lib.hid (XP0.out.grown hg)
  clear hg
  clear Ou1
  clear Ou2
  try clear cP0_0
  have cP0_0 : World.cell? (w4) ⟨w.heap.size, 0, none⟩ = some (.int .i64 aP_At) := XP0.out.cell 0
  try clear cP0_1
  have cP0_1 : World.cell? (w4) ⟨w.heap.size, 1, none⟩ = some (.int .i64 aP_Food) := XP0.out.cell 1
  try clear cP0_2
  have cP0_2 : World.cell? (w4) ⟨w.heap.size, 2, none⟩ = some (.slice aP_Crew_a aP_Crew_L.length aP_Crew_cap) := XP0.out.cell 2
  try clear cP0_3
  have cP0_3 : World.cell? (w4) ⟨w.heap.size, 3, none⟩ = some (.slice aP_Past_a aP_Past_L.length aP_Past_cap) := XP0.out.cell 3
  go_wp2_with fail
  refine (PartyL.toParty_any w4 aP_At aP_Food _ _ _ _ (aP_Crew_S.out.below HB4.out) (aP_Past_S.out.below HB4.out) (by omega) (by omega)).mono ?_
  rintro e w5 ⟨u3, u4, rfl, ho1, ho2, hap, hg⟩
  have D_u3_P0 := Lib.hid (ho1.off XP0.out.lt)
  have Ou3 := Lib.hid (ho1.lower HB4.out.size)
  have D_u4_P0 := Lib.hid (ho2.off XP0.out.lt)
  have Ou4 := Lib.hid (ho2.lower HB4.out.size)
  have A_u4_u3 := Lib.hid hap
  have HB5 := Lib.hid (HB4.out.grown hg HB4.out.size (fun _ h => by cases h)); clear HB4
  have XP0 := Lib.hid (XP0.out.grown hg)
  clear ho1 ho2 hap hg
  obtain ⟨u3_a, u3_n, u3_c, hu3, Nu3⟩ := Ou3.out.sees.shape; subst hu3
  obtain ⟨u4_a, u4_n, u4_c, hu4, Nu4⟩ := Ou4.out.sees.shape; subst hu4
  have hgb := World.grownBy_alloc w5 (.cells #[.int .i64 aP_At, .int .i64 aP_Food, .slice u3_a u3_n u3_c, .slice u4_a u4_n u4_c] 50 (0, 0)) none
  have D_u3_B5 := Lib.hid (Ou3.out.off' (Nat.le_refl _))
  have D_u4_B5 := Lib.hid (Ou4.out.off' (Nat.le_refl _))
  have HB6 := Lib.hid (HB5.out.grown hgb HB5.out.size (fun _ h => by cases h)); clear HB5
  have Ou3 := Lib.hid (Ou3.out.grown hgb)
  have Ou4 := Lib.hid (Ou4.out.grown hgb)
  have XP0 := Lib.hid (XP0.out.grown hgb)
  have XB5 := Lib.hid (box_new w5 #[.int .i64 aP_At, .int .i64 aP_Food, .slice u3_a u3_n u3_c, .slice u4_a u4_n u4_c] 50); clear hgb
  try clear cP0_0
  have cP0_0 : World.cell? (w5.alloc (.cells #[.int .i64 aP_At, .int .i64 aP_Food, .slice u3_a u3_n u3_c, .slice u4_a u4_n u4_c] 50 (0, 0))) ⟨w.heap.size, 0, none⟩ = some (.int .i64 aP_At) := XP0.out.cell 0
  try clear cP0_1
  have cP0_1 : World.cell? (w5.alloc (.cells #[.int .i64 aP_At, .int .i64 aP_Food, .slice u3_a u3_n u3_c, .slice u4_a u4_n u4_c] 50 (0, 0))) ⟨w.heap.size, 1, none⟩ = some (.int .i64 aP_Food) := XP0.out.cell 1
  try clear cP0_2
  have cP0_2 : World.cell? (w5.alloc (.cells #[.int .i64 aP_At, .int .i64 aP_Food, .slice u3_a u3_n u3_c, .slice u4_a u4_n u4_c] 50 (0, 0))) ⟨w.heap.size, 2, none⟩ = some (.slice aP_Crew_a aP_Crew_L.length aP_Crew_cap) := XP0.out.cell 2
  try clear cP0_3
  have cP0_3 : World.cell? (w5.alloc (.cells #[.int .i64 aP_At, .int .i64 aP_Food, .slice u3_a u3_n u3_c, .slice u4_a u4_n u4_c] 50 (0, 0))) ⟨w.heap.size, 3, none⟩ = some (.slice aP_Past_a aP_Past_L.length aP_Past_cap) := XP0.out.cell 3
  try clear cB5_0
  have cB5_0 : World.cell? (w5.alloc (.cells #[.int .i64 aP_At, .int .i64 aP_Food, .slice u3_a u3_n u3_c, .slice u4_a u4_n u4_c] 50 (0, 0))) ⟨w5.heap.size, 0, none⟩ = some (.int .i64 aP_At) := XB5.out.cell 0
  try clear cB5_1
  have cB5_1 : World.cell? (w5.alloc (.cells #[.int .i64 aP_At, .int .i64 aP_Food, .slice u3_a u3_n u3_c, .slice u4_a u4_n u4_c] 50 (0, 0))) ⟨w5.heap.size, 1, none⟩ = some (.int .i64 aP_Food) := XB5.out.cell 1
  try clear cB5_2
  have cB5_2 : World.cell? (w5.alloc (.cells #[.int .i64 aP_At, .int .i64 aP_Food, .slice u3_a u3_n u3_c, .slice u4_a u4_n u4_c] 50 (0, 0))) ⟨w5.heap.size, 2, none⟩ = some (.slice u3_a u3_n u3_c) := XB5.out.cell 2
  try clear cB5_3
  have cB5_3 : World.cell? (w5.alloc (.cells #[.int .i64 aP_At, .int .i64 aP_Food, .slice u3_a u3_n u3_c, .slice u4_a u4_n u4_c] 50 (0, 0))) ⟨w5.heap.size, 3, none⟩ = some (.slice u4_a u4_n u4_c) := XB5.out.cell 3
  go_wp2_with fail
  generalize w5.alloc (.cells #[.int .i64 aP_At, .int .i64 aP_Food, .slice u3_a u3_n u3_c, .slice u4_a u4_n u4_c] 50 (0, 0)) = w6 at *
  refine (Rat.iMixed_any w6 aP_At aP_Food _ _ aP_Crew_L aDays aP_Food_H.out aDays_b (Ou3.out.sees) (World.var?_cell vG0 (var_on vG0 HVS.out HB6.out (Nat.le_refl _)))).mono ?_
  rintro e w7 ⟨rfl, hg⟩
  have HB7 := Lib.hid (HB6.out.grown hg HB6.out.size (fun _ h => by cases h)); clear HB6
  have Ou3 := Lib.hid (Ou3.out.grown hg)
  have Ou4 := Lib.hid (Ou4.out.grown hg)
  have XP0 := Lib.hid (XP0.out.grown hg)
  have XB5 := Lib.hid (XB5.out.grown hg)
  clear hg
  try clear cP0_0
  have cP0_0 : World.cell? (w7) ⟨w.heap.size, 0, none⟩ = some (.int .i64 aP_At) := XP0.out.cell 0
  try clear cP0_1
  have cP0_1 : World.cell? (w7) ⟨w.heap.size, 1, none⟩ = some (.int .i64 aP_Food) := XP0.out.cell 1
  try clear cP0_2
  have cP0_2 : World.cell? (w7) ⟨w.heap.size, 2, none⟩ = some (.slice aP_Crew_a aP_Crew_L.length aP_Crew_cap) := XP0.out.cell 2
  try clear cP0_3
  have cP0_3 : World.cell? (w7) ⟨w.heap.size, 3, none⟩ = some (.slice aP_Past_a aP_Past_L.length aP_Past_cap) := XP0.out.cell 3
  try clear cB5_0
  have cB5_0 : World.cell? (w7) ⟨w5.heap.size, 0, none⟩ = some (.int .i64 aP_At) := XB5.out.cell 0
  try clear cB5_1
  have cB5_1 : World.cell? (w7) ⟨w5.heap.size, 1, none⟩ = some (.int .i64 aP_Food) := XB5.out.cell 1
  try clear cB5_2
  have cB5_2 : World.cell? (w7) ⟨w5.heap.size, 2, none⟩ = some (.slice u3_a u3_n u3_c) := XB5.out.cell 2
  try clear cB5_3
  have cB5_3 : World.cell? (w7) ⟨w5.heap.size, 3, none⟩ = some (.slice u4_a u4_n u4_c) := XB5.out.cell 3
  go_wp2_with fail
  have hgd := grown_drew (World.grownBy.refl w7 none)
  have HB8 := Lib.hid (HB7.out.grown hgd HB7.out.size (fun _ h => by cases h)); clear HB7
  have Ou3 := Lib.hid (Ou3.out.grown hgd)
  have Ou4 := Lib.hid (Ou4.out.grown hgd)
  have XP0 := Lib.hid (XP0.out.grown hgd)
  have XB5 := Lib.hid (XB5.out.grown hgd)
  clear hgd
  try clear cB5_0
  have cB5_0 : World.cell? ((World.drew w7)) ⟨w5.heap.size, 0, none⟩ = some (.int .i64 aP_At) := XB5.out.cell 0
  try clear cB5_1
  have cB5_1 : World.cell? ((World.drew w7)) ⟨w5.heap.size, 1, none⟩ = some (.int .i64 aP_Food) := XB5.out.cell 1
  try clear cB5_2
  have cB5_2 : World.cell? ((World.drew w7)) ⟨w5.heap.size, 2, none⟩ = some (.slice u3_a u3_n u3_c) := XB5.out.cell 2
  try clear cB5_3
  have cB5_3 : World.cell? ((World.drew w7)) ⟨w5.heap.size, 3, none⟩ = some (.slice u4_a u4_n u4_c) := XB5.out.cell 3
  try clear cP0_0
  have cP0_0 : World.cell? ((World.drew w7)) ⟨w.heap.size, 0, none⟩ = some (.int .i64 aP_At) := XP0.out.cell 0
  try clear cP0_1
  have cP0_1 : World.cell? ((World.drew w7)) ⟨w.heap.size, 1, none⟩ = some (.int .i64 aP_Food) := XP0.out.cell 1
  try clear cP0_2
  have cP0_2 : World.cell? ((World.drew w7)) ⟨w.heap.size, 2, none⟩ = some (.slice aP_Crew_a aP_Crew_L.length aP_Crew_cap) := XP0.out.cell 2
  try clear cP0_3
  have cP0_3 : World.cell? ((World.drew w7)) ⟨w.heap.size, 3, none⟩ = some (.slice aP_Past_a aP_Past_L.length aP_Past_cap) := XP0.out.cell 3
  refine wp_region_held_drew (S := fun w' => w'.cell? ⟨w5.heap.size, 0, none⟩ = some (.int .i64 aP_At) ∧ w'.cell? ⟨w5.heap.size, 1, none⟩ = some (.int .i64 aP_Food) ∧ w'.cell? ⟨w5.heap.size, 2, none⟩ = some (.slice u3_a u3_n u3_c) ∧ w'.cell? ⟨w5.heap.size, 3, none⟩ = some (.slice u4_a u4_n u4_c) ∧ w'.cell? ⟨w.heap.size, 0, none⟩ = some (.int .i64 aP_At) ∧ w'.cell? ⟨w.heap.size, 1, none⟩ = some (.int .i64 aP_Food) ∧ w'.cell? ⟨w.heap.size, 2, none⟩ = some (.slice aP_Crew_a aP_Crew_L.length aP_Crew_cap) ∧ w'.cell? ⟨w.heap.size, 3, none⟩ = some (.slice aP_Past_a aP_Past_L.length aP_Past_cap)) (by kernel_rfl) ⟨cB5_0, cB5_1, cB5_2, cB5_3, cP0_0, cP0_1, cP0_2, cP0_3⟩ (fun hHeld => ?_)
  refine wpAnyH_take (i := 0) (v := ?_) rfl (by kernel_rfl) (by kernel_rfl) (by kernel_rfl) (fun _ _ _ h => h) (Or.inl ⟨by rfl, ?_⟩) (by assumption) ?_; rotate_left; (focus (intro wS hSw; (try dsimp only at hSw); go_simp <;> with_reducible rfl)); (try simp only [Act.put, List.getElem_toArray, List.getElem_cons_succ, List.getElem_cons_zero, List.setIfInBounds_toArray, List.set_cons_zero, List.set_cons_succ])
  refine wpAnyH_take (i := 1) (v := ?_) rfl (by kernel_rfl) (by kernel_rfl) (by kernel_rfl) (fun _ _ _ h => h) (Or.inl ⟨by rfl, ?_⟩) (by assumption) ?_; rotate_left; (focus (intro wS hSw; (try dsimp only at hSw); go_simp <;> with_reducible rfl)); (try simp only [Act.put, List.getElem_toArray, List.getElem_cons_succ, List.getElem_cons_zero, List.setIfInBounds_toArray, List.set_cons_zero, List.set_cons_succ])
  refine wpAnyH_ready (rs := [2]) (by kernel_rfl) (by simp) ?_; refine AllReadyH.cons rfl (fun K hK => ?_) AllReadyH.nil; go_simp; (go_at_call 39; refine (PartyL.toParty_any (World.drew w7) aP_At aP_Food _ _ _ _ (aP_Crew_S.out.below HB8.out) (aP_Past_S.out.below HB8.out) (by omega) (by omega)).mono ?_; rintro e w9 ⟨u6, u7, rfl, ho1, ho2, hap, hg⟩; have A_u6_u3 := Lib.hid (Rg.apart_lt ho1.lt Ou3.out.lt (Nat.le_refl _)); have A_u6_u4 := Lib.hid (Rg.apart_lt ho1.lt Ou4.out.lt (Nat.le_refl _)); have D_u6_P0 := Lib.hid (ho1.off XP0.out.lt); have D_u6_B5 := Lib.hid (ho1.off XB5.out.lt); have Ou6 := Lib.hid (ho1.lower HB8.out.size); have A_u7_u3 := Lib.hid (Rg.apart_lt ho2.lt Ou3.out.lt (Nat.le_refl _)); have A_u7_u4 := Lib.hid (Rg.apart_lt ho2.lt Ou4.out.lt (Nat.le_refl _)); have D_u7_P0 := Lib.hid (ho2.off XP0.out.lt); have D_u7_B5 := Lib.hid (ho2.off XB5.out.lt); have Ou7 := Lib.hid (ho2.lower HB8.out.size); have A_u7_u6 := Lib.hid hap; have HB9 := Lib.hid (HB8.out.grown hg HB8.out.size (fun _ h => by cases h)); clear HB8; have Ou3 := Lib.hid (Ou3.out.grown hg); have Ou4 := Lib.hid (Ou4.out.grown hg); have XP0 := Lib.hid (XP0.out.grown hg); have XB5 := Lib.hid (XB5.out.grown hg); clear ho1 ho2 hap hg)
  refine hK.out _ _ ?_ (fun hHeld => ?_)
  · exact ⟨XB5.out.cell 0, XB5.out.cell 1, XB5.out.cell 2, XB5.out.cell 3, XP0.out.cell 0, XP0.out.cell 1, XP0.out.cell 2, XP0.out.cell 3⟩
  clear hK K
  (try simp only [Act.put, List.getElem_toArray, List.getElem_cons_succ, List.getElem_cons_zero, List.setIfInBounds_toArray, List.set_cons_zero, List.set_cons_succ])
  refine wpAnyH_ready (rs := [3]) (by kernel_rfl) (by simp) ?_; refine AllReadyH.cons rfl (fun K hK => ?_) AllReadyH.nil; go_simp; (go_at_call 41; refine (PartyL.eqParty_same w9 aP_At aP_Food _ _ _ _ _ _ (Ou3.out.sees) (Ou4.out.sees) (Ou6.out.sees) (Ou7.out.sees)).mono ?_; rintro e w10 ⟨rfl, hg⟩; have HB10 := Lib.hid (HB9.out.grown hg HB9.out.size (fun _ h => by cases h)); clear HB9; have Ou3 := Lib.hid (Ou3.out.grown hg); have Ou4 := Lib.hid (Ou4.out.grown hg); have Ou6 := Lib.hid (Ou6.out.grown hg); have Ou7 := Lib.hid (Ou7.out.grown hg); have XP0 := Lib.hid (XP0.out.grown hg); have XB5 := Lib.hid (XB5.out.grown hg); clear hg)
  refine hK.out _ _ ?_ (fun hHeld => ?_)
  · exact ⟨XB5.out.cell 0, XB5.out.cell 1, XB5.out.cell 2, XB5.out.cell 3, XP0.out.cell 0, XP0.out.cell 1, XP0.out.cell 2, XP0.out.cell 3⟩
  clear hK K
  (try simp only [Act.put, List.getElem_toArray, List.getElem_cons_succ, List.getElem_cons_zero, List.setIfInBounds_toArray, List.set_cons_zero, List.set_cons_succ])
  refine wpAnyH_take (i := 4) (v := ?_) rfl (by kernel_rfl) (by kernel_rfl) (by kernel_rfl) (fun _ _ _ h => h) (Or.inl ⟨by rfl, ?_⟩) (by assumption) ?_; rotate_left; (focus (intro wS hSw; (try dsimp only at hSw); go_simp <;> with_reducible rfl)); (try simp only [Act.put, List.getElem_toArray, List.getElem_cons_succ, List.getElem_cons_zero, List.setIfInBounds_toArray, List.set_cons_zero, List.set_cons_succ])
  refine wpAnyH_done (by kernel_rfl) ?_ _
  (try simp only [Act.put, List.getElem_toArray, List.getElem_cons_succ, List.getElem_cons_zero, List.setIfInBounds_toArray, List.set_cons_zero, List.set_cons_succ])
  clear Ou6
  clear Ou7
  clear Ou3
  clear Ou4
  try clear cP0_0
  have cP0_0 : World.cell? (w10) ⟨w.heap.size, 0, none⟩ = some (.int .i64 aP_At) := XP0.out.cell 0
  try clear cP0_1
  have cP0_1 : World.cell? (w10) ⟨w.heap.size, 1, none⟩ = some (.int .i64 aP_Food) := XP0.out.cell 1
  try clear cP0_2
  have cP0_2 : World.cell? (w10) ⟨w.heap.size, 2, none⟩ = some (.slice aP_Crew_a aP_Crew_L.length aP_Crew_cap) := XP0.out.cell 2
  try clear cP0_3
  have cP0_3 : World.cell? (w10) ⟨w.heap.size, 3, none⟩ = some (.slice aP_Past_a aP_Past_L.length aP_Past_cap) := XP0.out.cell 3
  try clear cB5_0
  have cB5_0 : World.cell? (w10) ⟨w5.heap.size, 0, none⟩ = some (.int .i64 aP_At) := XB5.out.cell 0
  try clear cB5_1
  have cB5_1 : World.cell? (w10) ⟨w5.heap.size, 1, none⟩ = some (.int .i64 aP_Food) := XB5.out.cell 1
  try clear cB5_2
  have cB5_2 : World.cell? (w10) ⟨w5.heap.size, 2, none⟩ = some (.slice u3_a u3_n u3_c) := XB5.out.cell 2
  try clear cB5_3
  have cB5_3 : World.cell? (w10) ⟨w5.heap.size, 3, none⟩ = some (.slice u4_a u4_n u4_c) := XB5.out.cell 3
  go_wp2
  go_ret
  exact ⟨rfl, HB10.out⟩

set_option maxRecDepth 100000 in
/-- What the walk gives, for every argument. -/
theorem contract (H : Type) (enc : TypeId × Value → H) (W : World) (base : Nat) (args : Array Value) (ds gs : List (DataW H)) (before : List MemPlace)
    (hval : ∀ (j : Nat) t v, Tryd.f12.params[j]? = some t → args[j]? = some v → Value.okWide Tryd.prog W .any base t v)
    (hW : DataW.Whole enc Tryd.prog Tryd.f12.params.toList Rows.fnExactMixedDaysSpec.vars false W args.toList ds gs before) (hL : laidMetH Tryd.prog Rows.fnExactMixedDaysRow.laid W) :
    Calls Tryd.prog 12 args W fun e W' => ∃ v, e = .returned v ∧ Rows.fnExactMixedDaysSpec.post enc Tryd.prog Tryd.f12 false true false false W args v W' := by
  have hW' := hW
  obtain ⟨p, q, hA0, hV, rfl, hfz, hnd⟩ := hW
  have hA : DataW.TrodAll enc Tryd.prog W 0 (fun _ => true) true Tryd.f12.params.toList args.toList ds p := hA0
  rw [Tryd.params12] at hA hval
  obtain ⟨v0, vs0, d0, ds0, p0, q0, hargs, rfl, rfl, h0, r0⟩ := trodAll_cons hA
  obtain ⟨v1, vs1, d1, ds1, p1, q1, rfl, rfl, rfl, h1, r1⟩ := trodAll_cons r0
  obtain ⟨rfl, rfl, rfl⟩ := trodAll_nil r1
  obtain rfl : args = #[v0, v1] := by cases args; simp_all
  have hV1 : DataW.TrodVars enc Tryd.prog W (fun _ => true) ["loop.example/g03008/impl.rations"] gs q := hV
  have y0 := sents hL
  obtain ⟨rfl, rfl⟩ := hV1.unique (vars_read enc y0 _)
  have k0 := h0
  have lt0 : ∀ x ∈ p0, x.block < W.heap.size := by obtain ⟨m, hm⟩ := k0; exact DataW.trod_lt m _ _ _ hm
  obtain ⟨f0_0, f0_1, f0_2, f0_3, y0_0, y0_1, y0_2, y0_3, fn0, rfl, rfl, rfl, g0_0, g0_1, g0_2, g0_3⟩ := Go.Joins.open_agg4 Tryd.underlying46 (by kernel_rfl) (by kernel_rfl) (hval 0 46 v0 rfl rfl) h0
  obtain ⟨x0_0, rfl, w0_0⟩ := Kit.field_int Tryd.underlying3 g0_0
  obtain ⟨x0_1, rfl, w0_1⟩ := Kit.field_int Tryd.underlying3 g0_1
  obtain ⟨a0_2, l0_2, c0_2, z0_2, rfl, w0_2⟩ := Rg.field_rowG (e := Rg.encM) Tryd.underlying37 (by kernel_rfl) (Rg.encM_open Tryd.underlying86 (by kernel_rfl) Tryd.underlying3 Tryd.underlying3 Tryd.underlying3 Tryd.underlying4) g0_2
  obtain ⟨a0_3, l0_3, c0_3, z0_3, rfl, w0_3⟩ := Rg.field_rowG (e := Rg.encB) Tryd.underlying44 (by kernel_rfl) (Rg.encB_open Tryd.underlying4) g0_3
  obtain ⟨a1, rfl, rfl, rfl, w1⟩ := open_int Tryd.underlying3 (hval 1 3 v1 rfl rfl) h1
  clear hA0
  refine (walk W x0_0 w0_0 x0_1 w0_1 a0_2 l0_2 c0_2 z0_2 w0_2 a0_3 l0_3 c0_3 z0_3 w0_3 a1 w1 hL).mono fun e W' ⟨he, bel⟩ => ?_
  subst he
  exact ⟨_, rfl, _, _, _, [], _, [.cell 2 0, .cell 2 1, .cell 2 2, .cell 2 3, .cell 2 4, .cell 2 5], hW', trodAll_mk1 (shut_bool Tryd.underlying4 _), (trodAll_cons_mk (Below.trod laidOut (by kernel_rfl) (of_decide_eq_true (by kernel_rfl)) k0 bel lt0) (trodAll_cons_mk (shut_int Tryd.underlying3 w1) trodAll_mk0)), vars_read enc (var_on vG0 y0 bel (Nat.le_refl _)) _, bel.frame _, fun h => by cases h⟩

/-- So many blocks has the settled world. -/
noncomputable def low : Nat := (World.holding Tryd.prog default ⟨#[], #[], []⟩).heap.size
/-- A world for the witness: the settled one, the listed variables holding what their initialisers lay. -/
noncomputable def laidWorld (os : Os) : World :=
  let w0 := World.holding Tryd.prog os ⟨#[], #[], []⟩
  { w0 with heap := (w0.heap.modify 2 fun
      | .cells _ t frozen => .cells #[.string ⟨#[102, 117, 108, 108]⟩, .int .i64 (1), .string ⟨#[104, 97, 108, 102]⟩, .int .i64 (2), .string ⟨#[116, 104, 105, 114, 100]⟩, .int .i64 (3)] t frozen
      | o => o) }
theorem laid_met (os : Os) : laidMet Tryd.prog Rows.fnExactMixedDaysRow.laid ((laidWorld os).forCall (fun _ _ => 0) ⟨#[], #[.agg #[.int .i64 0, .int .i64 0, .slice none 0 0, .slice none 0 0], .int .i64 0], []⟩).memory :=
  laidMet_of_run' 8 (by kernel_rfl) (by kernel_rfl)
theorem reads (os : Os) {H : Type} (enc : TypeId × Value → H) : ∃ places, DataW.whole enc Tryd.prog ((laidWorld os).forCall (fun _ _ => 0) ⟨#[], #[.agg #[.int .i64 0, .int .i64 0, .slice none 0 0, .slice none 0 0], .int .i64 0], []⟩).memory Tryd.f12.params.toList Rows.fnExactMixedDaysSpec.vars false (#[.agg #[.int .i64 0, .int .i64 0, .slice none 0 0, .slice none 0 0], .int .i64 0] : Array Value).toList 8 = some ([.agg [.lit (.int .i64 0), .lit (.int .i64 0), .nil, .nil], .lit (.int .i64 0)], [vD], places) :=
  ⟨[.cell 2 0, .cell 2 1, .cell 2 2, .cell 2 3, .cell 2 4, .cell 2 5], by kernel_rfl⟩

set_option maxRecDepth 100000 in
theorem lifted (os : Os) (started : os.Started) (H : Type) (enc : TypeId × Value → H) (F : Stop.Interp) :
    ReturnsInHanded {} Tryd.checked os 12 .any ((OpenSpec.ofChange Rows.fnExactMixedDaysSpec).preRow enc Tryd.prog Tryd.f12 Rows.fnExactMixedDaysRow.domain false Rows.fnExactMixedDaysRow.laid) (((OpenSpec.ofChange Rows.fnExactMixedDaysSpec).at F).post enc Tryd.prog Tryd.f12 false true false false) := by
  obtain ⟨places, hx⟩ := reads os enc
  refine returnsInHanded_of_row (C := Tryd.checked) (s := (OpenSpec.ofChange Rows.fnExactMixedDaysSpec)) own started (by kernel_rfl) Tryd.func12
    (witness_row_at (enc := enc) (C := Tryd.checked) false (laidWorld os) #[.agg #[.int .i64 0, .int .i64 0, .slice none 0 0, .slice none 0 0], .int .i64 0] rfl (by kernel_rfl) (by kernel_rfl) (by kernel_rfl)
      (OpenSpec.preRow_of_cond 8 hx (by kernel_rfl) (fun k hk => by cases hk) (by kernel_rfl) (laid_met os))) ?_
  intro W base args ds gs before hval hW _ _ _ hL _ _
  exact contract H enc W base args ds gs before hval hW hL

set_option maxRecDepth 100000 in
theorem said : Rows.FnExactMixedDaysSaid :=
  OpenClaim.holds_of_cond 12 Tryd.f12 rfl rfl rfl rfl rfl rfl rfl ⟨rfl, rfl, rfl, rfl, rfl⟩ rfl rfl rfl rfl rfl (by kernel_rfl) Tryd.func12 (by kernel_rfl)
    (of_decide_eq_true (by kernel_rfl)) (by unfold Func.isWrapper; first | (rw [if_pos (by decide +kernel)]; kernel_rfl) | (rw [if_neg (by decide +kernel)]; exact ⟨rfl, rfl⟩))
    (fun os started H enc _ F => by rw [OpenClaim.pre_eq_preRow]; exact lifted os started H enc F)

/-- No parameter wants a stand-in. -/
theorem plain (f : FuncId) (fn : Func) (hf : Tryd.pinned.checked.prog.funcNamed "loop.example/g03008/laws.FnExactMixedDays" = some f) (hfn : Tryd.pinned.checked.prog.funcs[f]? = some fn) :
    false = Tryd.pinned.checked.prog.looks [] ∧ ∀ (j : Nat) t, fn.params[j]? = some t → Tryd.pinned.checked.prog.wantsStandIn t = false := by
  obtain rfl : f = 12 := Option.some.inj ((show Tryd.prog.funcNamed "loop.example/g03008/laws.FnExactMixedDays" = some 12 by kernel_rfl).symm.trans hf) |>.symm
  obtain rfl : fn = Tryd.f12 := (Option.some.inj (Tryd.func12.symm.trans hfn)).symm
  refine ⟨by kernel_rfl, fun j t ht => ?_⟩
  rw [Tryd.params12] at ht
  have hm := Array.mem_of_getElem? ht
  simp only [List.mem_toArray, List.mem_cons, List.not_mem_nil, or_false] at hm
  rcases hm with rfl | rfl
  · exact (show Tryd.prog.wantsStandIn 46 = false by kernel_rfl)
  · exact (show Tryd.prog.wantsStandIn 3 = false by kernel_rfl)
theorem proved : Rows.FnExactMixedDaysCardSaid :=
  Claim7.holds_tied_plain_at .later [] _ _ _ _ said (fun _ h => by cases h) (by kernel_rfl) (fun _ h => by cases h) fnExactMixedDays_row_tie rfl ⟨rfl, rfl⟩ (by kernel_rfl) rfl plain (by kernel_rfl)
#print axioms proved
end Go.Proofs.YtlhbnkjijggfaaaDoor.fnExactMixedDays

/- The law FnExactSlowestDays: the program's SlowestDays answers as its model, for every argument; it writes into no argument, and its answer owns its memory. No condition. -/
import Derived.Deep.RegionHeld3
import Derived.Test.YtbpiojnehomljaaRows
import Derived.Test.YtbpiojnehomljaaOpenG
import Derived.Test.YtbpiojnehomljaaRowE
import Derived.Test.YtbpiojnehomljaaLawsBo
import Derived.Test.YtbpiojnehomljaaSzBo
import Derived.Test.YtbpiojnehomljaaRuleL
import Derived.Test.YtbpiojnehomljaaSlz
import Derived.WalkKit
import Derived.ProofKit
import Derived.OpenShut
import Derived.ShutString
import Derived.ChangeOld
import Derived.Below
import Derived.Deep.DeepHandedRow
import Derived.Deep.DeepWitnessRowRef
import Derived.Lib.LaidTab
namespace Go.Proofs.Ytbpiojnehomljaa.fnExactSlowestDays
open Go.ChangeShapes Go.WideShapes Go.ChangeAt Go.RowKit
open Go.ChangeMaps (open_string shut_string)
set_option linter.unusedVariables false

theorem own : ownKnob Try.prog.godebug = none := by kernel_rfl
theorem laidOut : laidOutB Try.prog = true := by kernel_rfl

open Kit Rw
set_option maxRecDepth 100000 in
set_option maxHeartbeats 4000000 in
theorem walk (w : World) (aR_Most : Int) (aR_Most_h : (Lit.int .i64 aR_Most).wf = true) (aR_Window : Int) (aR_Window_h : (Lit.int .i64 aR_Window).wf = true) (aPast_a : Option Addr) (aPast_len aPast_cap : Nat) (aPast_L : List Bool) (aPast_h : aPast_L.length = aPast_len ∧ Rg.SeesG Rg.encB w (.slice aPast_a aPast_len aPast_cap) aPast_L) (aN : Int) (aN_h : (Lit.int .i64 aN).wf = true) :
    Calls Try.prog 7 #[.agg #[.int .i64 aR_Most, .int .i64 aR_Window], .slice aPast_a aPast_len aPast_cap, .int .i64 aN] w fun e w' => e = .returned (.bool true) ∧ Below w.heap.size w w' := by
  obtain ⟨aPast_e, aPast_s0⟩ := aPast_h; have aPast_S := Lib.hid aPast_s0; have aPast_len0 := aPast_s0.len; subst aPast_e; clear aPast_s0
  have aR_Most_H := Lib.hid aR_Most_h; have aR_Most_b := i64_of aR_Most_h; clear aR_Most_h
  have aR_Window_H := Lib.hid aR_Window_h; have aR_Window_b := i64_of aR_Window_h; clear aR_Window_h
  have aN_H := Lib.hid aN_h; have aN_b := i64_of aN_h; clear aN_h
  by_cases aPast_l : aPast_L.length ≤ 1048576
  rotate_left
  ·
    have HB0 : Hid (Below w.heap.size w w) := Below.refl _ _
    have hgb := World.grownBy_alloc w (.cells #[.int .i64 aR_Most, .int .i64 aR_Window] 42 (0, 0)) none
    have HB1 := Lib.hid (HB0.out.grown hgb HB0.out.size (fun _ h => by cases h)); clear HB0
    have XP0 := Lib.hid (box_new w #[.int .i64 aR_Most, .int .i64 aR_Window] 42); clear hgb
    go_enter Try.func7, Try.ntmps7
    try clear cP0_0
    have cP0_0 : World.cell? (w.alloc (.cells #[.int .i64 aR_Most, .int .i64 aR_Window] 42 (0, 0))) ⟨w.heap.size, 0, none⟩ = some (.int .i64 aR_Most) := XP0.out.cell 0
    try clear cP0_1
    have cP0_1 : World.cell? (w.alloc (.cells #[.int .i64 aR_Most, .int .i64 aR_Window] 42 (0, 0))) ⟨w.heap.size, 1, none⟩ = some (.int .i64 aR_Window) := XP0.out.cell 1
    go_wp2
    go_ret
    exact ⟨rfl, by have := HB1.out; exact this⟩
  have HB0 : Hid (Below w.heap.size w w) := Below.refl _ _
  have hgb := World.grownBy_alloc w (.cells #[.int .i64 aR_Most, .int .i64 aR_Window] 42 (0, 0)) none
  have HB1 := Lib.hid (HB0.out.grown hgb HB0.out.size (fun _ h => by cases h)); clear HB0
  have XP0 := Lib.hid (box_new w #[.int .i64 aR_Most, .int .i64 aR_Window] 42); clear hgb
  go_enter Try.func7, Try.ntmps7
  try clear cP0_0
  have cP0_0 : World.cell? (w.alloc (.cells #[.int .i64 aR_Most, .int .i64 aR_Window] 42 (0, 0))) ⟨w.heap.size, 0, none⟩ = some (.int .i64 aR_Most) := XP0.out.cell 0
  try clear cP0_1
  have cP0_1 : World.cell? (w.alloc (.cells #[.int .i64 aR_Most, .int .i64 aR_Window] 42 (0, 0))) ⟨w.heap.size, 1, none⟩ = some (.int .i64 aR_Window) := XP0.out.cell 1
  go_wp2_with fail
  generalize w.alloc (.cells #[.int .i64 aR_Most, .int .i64 aR_Window] 42 (0, 0)) = w1 at *
  refine (RuleL.toRule_any w1 aR_Most aR_Window).mono ?_
  rintro e w2 ⟨rfl, hg⟩
  have HB2 := Lib.hid (HB1.out.grown hg HB1.out.size (fun _ h => by cases h)); clear HB1
  have XP0 := Lib.hid (XP0.out.grown hg)
  clear hg
  try clear cP0_0
  have cP0_0 : World.cell? (w2) ⟨w.heap.size, 0, none⟩ = some (.int .i64 aR_Most) := XP0.out.cell 0
  try clear cP0_1
  have cP0_1 : World.cell? (w2) ⟨w.heap.size, 1, none⟩ = some (.int .i64 aR_Window) := XP0.out.cell 1
  go_wp2_with fail
  refine (LawsBo.to_any w2 (.slice aPast_a aPast_L.length aPast_cap) aPast_L (aPast_S.out.below HB2.out) (by (try simp only [LawsBo.marksB_len]); omega)).mono ?_
  rintro e w3 ⟨u1, rfl, ho, hg⟩
  have D_u1_P0 := Lib.hid (ho.off XP0.out.lt)
  have Ou1 := Lib.hid (ho.lower HB2.out.size)
  have HB3 := Lib.hid (HB2.out.grown hg HB2.out.size (fun _ h => by cases h)); clear HB2
  have XP0 := Lib.hid (XP0.out.grown hg)
  clear ho hg
  try clear cP0_0
  have cP0_0 : World.cell? (w3) ⟨w.heap.size, 0, none⟩ = some (.int .i64 aR_Most) := XP0.out.cell 0
  try clear cP0_1
  have cP0_1 : World.cell? (w3) ⟨w.heap.size, 1, none⟩ = some (.int .i64 aR_Window) := XP0.out.cell 1
  go_wp2_with fail
  refine (Sld.sSlow_any w3 aR_Most aR_Window aN _ aPast_L aR_Most_H.out aR_Window_H.out (Ou1.out.sees) (by (try simp only [LawsBo.marksB_len]); omega)).mono ?_
  rintro e w4 ⟨rfl, hg⟩
  have HB4 := Lib.hid (HB3.out.grown hg HB3.out.size (fun _ h => by cases h)); clear HB3
  have Ou1 := Lib.hid (Ou1.out.grown hg)
  have XP0 := Lib.hid (XP0.out.grown hg)
  clear hg
  clear Ou1
  try clear cP0_0
  have cP0_0 : World.cell? (w4) ⟨w.heap.size, 0, none⟩ = some (.int .i64 aR_Most) := XP0.out.cell 0
  try clear cP0_1
  have cP0_1 : World.cell? (w4) ⟨w.heap.size, 1, none⟩ = some (.int .i64 aR_Window) := XP0.out.cell 1
  go_wp2_with fail
  refine (LawsBo.to_any w4 (.slice aPast_a aPast_L.length aPast_cap) aPast_L (aPast_S.out.below HB4.out) (by (try simp only [LawsBo.marksB_len]); omega)).mono ?_
  rintro e w5 ⟨u2, rfl, ho, hg⟩
  have D_u2_P0 := Lib.hid (ho.off XP0.out.lt)
  have Ou2 := Lib.hid (ho.lower HB4.out.size)
  have HB5 := Lib.hid (HB4.out.grown hg HB4.out.size (fun _ h => by cases h)); clear HB4
  have XP0 := Lib.hid (XP0.out.grown hg)
  clear ho hg
  try clear cP0_0
  have cP0_0 : World.cell? (w5) ⟨w.heap.size, 0, none⟩ = some (.int .i64 aR_Most) := XP0.out.cell 0
  try clear cP0_1
  have cP0_1 : World.cell? (w5) ⟨w.heap.size, 1, none⟩ = some (.int .i64 aR_Window) := XP0.out.cell 1
  go_wp2_with fail
  refine (RuleL.toRule_any w5 aR_Most aR_Window).mono ?_
  rintro e w6 ⟨rfl, hg⟩
  have HB6 := Lib.hid (HB5.out.grown hg HB5.out.size (fun _ h => by cases h)); clear HB5
  have Ou2 := Lib.hid (Ou2.out.grown hg)
  have XP0 := Lib.hid (XP0.out.grown hg)
  clear hg
  try clear cP0_0
  have cP0_0 : World.cell? (w6) ⟨w.heap.size, 0, none⟩ = some (.int .i64 aR_Most) := XP0.out.cell 0
  try clear cP0_1
  have cP0_1 : World.cell? (w6) ⟨w.heap.size, 1, none⟩ = some (.int .i64 aR_Window) := XP0.out.cell 1
  go_wp2_with fail
  refine (Sld.iSlow_any w6 aR_Most aR_Window aN _ aPast_L aR_Most_H.out aR_Window_H.out (Ou2.out.sees) (by (try simp only [LawsBo.marksB_len]); omega)).mono ?_
  rintro e w7 ⟨rfl, hg⟩
  have HB7 := Lib.hid (HB6.out.grown hg HB6.out.size (fun _ h => by cases h)); clear HB6
  have Ou2 := Lib.hid (Ou2.out.grown hg)
  have XP0 := Lib.hid (XP0.out.grown hg)
  clear hg
  try clear cP0_0
  have cP0_0 : World.cell? (w7) ⟨w.heap.size, 0, none⟩ = some (.int .i64 aR_Most) := XP0.out.cell 0
  try clear cP0_1
  have cP0_1 : World.cell? (w7) ⟨w.heap.size, 1, none⟩ = some (.int .i64 aR_Window) := XP0.out.cell 1
  go_wp2_with fail
  refine (LawsBo.to_any w7 (.slice aPast_a aPast_L.length aPast_cap) aPast_L (aPast_S.out.below HB7.out) (by (try simp only [LawsBo.marksB_len]); omega)).mono ?_
  rintro e w8 ⟨u3, rfl, ho, hg⟩
  have A_u3_u2 := Lib.hid (Rg.apart_lt ho.lt Ou2.out.lt (Nat.le_refl _))
  have D_u3_P0 := Lib.hid (ho.off XP0.out.lt)
  have Ou3 := Lib.hid (ho.lower HB7.out.size)
  have HB8 := Lib.hid (HB7.out.grown hg HB7.out.size (fun _ h => by cases h)); clear HB7
  have Ou2 := Lib.hid (Ou2.out.grown hg)
  have XP0 := Lib.hid (XP0.out.grown hg)
  clear ho hg
  try clear cP0_0
  have cP0_0 : World.cell? (w8) ⟨w.heap.size, 0, none⟩ = some (.int .i64 aR_Most) := XP0.out.cell 0
  try clear cP0_1
  have cP0_1 : World.cell? (w8) ⟨w.heap.size, 1, none⟩ = some (.int .i64 aR_Window) := XP0.out.cell 1
  go_wp2_with fail
  refine (LawsBo.eq_same w8 (u2) (u3) aPast_L (Ou2.out.sees) (Ou3.out.sees)).mono ?_
  rintro e w9 ⟨rfl, hg⟩
  have HB9 := Lib.hid (HB8.out.grown hg HB8.out.size (fun _ h => by cases h)); clear HB8
  have Ou2 := Lib.hid (Ou2.out.grown hg)
  have Ou3 := Lib.hid (Ou3.out.grown hg)
  have XP0 := Lib.hid (XP0.out.grown hg)
  clear hg
  clear Ou3
  clear Ou2
  try clear cP0_0
  have cP0_0 : World.cell? (w9) ⟨w.heap.size, 0, none⟩ = some (.int .i64 aR_Most) := XP0.out.cell 0
  try clear cP0_1
  have cP0_1 : World.cell? (w9) ⟨w.heap.size, 1, none⟩ = some (.int .i64 aR_Window) := XP0.out.cell 1
  go_wp2
  go_ret
  exact ⟨rfl, HB9.out⟩

set_option maxRecDepth 100000 in
/-- What the walk gives, for every argument. -/
theorem contract (H : Type) (enc : TypeId × Value → H) (W : World) (base : Nat) (args : Array Value) (ds gs : List (DataW H)) (before : List MemPlace)
    (hval : ∀ (j : Nat) t v, Try.f7.params[j]? = some t → args[j]? = some v → Value.okWide Try.prog W .any base t v)
    (hW : DataW.Whole enc Try.prog Try.f7.params.toList Rows.fnExactSlowestDaysSpec.vars false W args.toList ds gs before) :
    Calls Try.prog 7 args W fun e W' => ∃ v, e = .returned v ∧ Rows.fnExactSlowestDaysSpec.post enc Try.prog Try.f7 false true false false W args v W' := by
  have hW' := hW
  obtain ⟨p, q, hA0, hV, rfl, hfz, hnd⟩ := hW
  have hA : DataW.TrodAll enc Try.prog W 0 (fun _ => true) true Try.f7.params.toList args.toList ds p := hA0
  rw [Try.params7] at hA hval
  obtain ⟨v0, vs0, d0, ds0, p0, q0, hargs, rfl, rfl, h0, r0⟩ := trodAll_cons hA
  obtain ⟨v1, vs1, d1, ds1, p1, q1, rfl, rfl, rfl, h1, r1⟩ := trodAll_cons r0
  obtain ⟨v2, vs2, d2, ds2, p2, q2, rfl, rfl, rfl, h2, r2⟩ := trodAll_cons r1
  obtain ⟨rfl, rfl, rfl⟩ := trodAll_nil r2
  obtain rfl : args = #[v0, v1, v2] := by cases args; simp_all
  obtain ⟨rfl, rfl⟩ := trodVars_none hV
  have k0 := h0
  have lt0 : ∀ x ∈ p0, x.block < W.heap.size := by obtain ⟨m, hm⟩ := k0; exact DataW.trod_lt m _ _ _ hm
  obtain ⟨f0_0, f0_1, y0_0, y0_1, fn0, rfl, rfl, rfl, g0_0, g0_1⟩ := Go.Joins.open_agg2 Try.underlying42 (by kernel_rfl) (by kernel_rfl) (hval 0 42 v0 rfl rfl) h0
  obtain ⟨x0_0, rfl, w0_0⟩ := Kit.field_int Try.underlying3 g0_0
  obtain ⟨x0_1, rfl, w0_1⟩ := Kit.field_int Try.underlying3 g0_1
  obtain ⟨a1, len1, cap1, rfl⟩ := okWide_slice Try.underlying44 (hval 1 44 v1 rfl rfl)
  have k1 := h1
  have lt1 : ∀ x ∈ p1, x.block < W.heap.size := by obtain ⟨m, hm⟩ := k1; exact DataW.trod_lt m _ _ _ hm
  obtain ⟨z1, w1⟩ := Rg.row_openG (e := Rg.encB) Try.underlying44 (by kernel_rfl) (Rg.encB_open Try.underlying4) h1
  obtain ⟨a2, rfl, rfl, rfl, w2⟩ := open_int Try.underlying3 (hval 2 3 v2 rfl rfl) h2
  clear hA0
  refine (walk W x0_0 w0_0 x0_1 w0_1 a1 len1 cap1 z1 w1 a2 w2).mono fun e W' ⟨he, bel⟩ => ?_
  subst he
  exact ⟨_, rfl, _, _, _, [], _, [], hW', trodAll_mk1 (shut_bool Try.underlying4 _), (trodAll_cons_mk (Below.trod laidOut (by kernel_rfl) (of_decide_eq_true (by kernel_rfl)) k0 bel lt0) (trodAll_cons_mk (Below.trod laidOut (by kernel_rfl) (of_decide_eq_true (by kernel_rfl)) k1 bel lt1) (trodAll_cons_mk (shut_int Try.underlying3 w2) trodAll_mk0))), rfl, bel.frame _, fun h => by cases h⟩

noncomputable def laidWorld (os : Os) : World := World.holding Try.prog os ⟨#[], #[], []⟩
theorem reads (os : Os) {H : Type} (enc : TypeId × Value → H) : ∃ places, DataW.whole enc Try.prog ((laidWorld os).forCall (fun _ _ => 0) ⟨#[], #[.agg #[.int .i64 0, .int .i64 0], .slice none 0 0, .int .i64 0], []⟩).memory Try.f7.params.toList Rows.fnExactSlowestDaysSpec.vars false (#[.agg #[.int .i64 0, .int .i64 0], .slice none 0 0, .int .i64 0] : Array Value).toList 8 = some ([.agg [.lit (.int .i64 0), .lit (.int .i64 0)], .nil, .lit (.int .i64 0)], [], places) :=
  ⟨[], by kernel_rfl⟩

set_option maxRecDepth 100000 in
theorem lifted (os : Os) (started : os.Started) (H : Type) (enc : TypeId × Value → H) (F : Stop.Interp) :
    ReturnsInHanded {} Try.checked os 7 .any ((OpenSpec.ofChange Rows.fnExactSlowestDaysSpec).preRow enc Try.prog Try.f7 Rows.fnExactSlowestDaysRow.domain false Rows.fnExactSlowestDaysRow.laid) (((OpenSpec.ofChange Rows.fnExactSlowestDaysSpec).at F).post enc Try.prog Try.f7 false true false false) := by
  obtain ⟨places, hx⟩ := reads os enc
  refine returnsInHanded_of_row (C := Try.checked) (s := (OpenSpec.ofChange Rows.fnExactSlowestDaysSpec)) own started (by kernel_rfl) Try.func7
    (witness_row_at (enc := enc) (C := Try.checked) false (laidWorld os) #[.agg #[.int .i64 0, .int .i64 0], .slice none 0 0, .int .i64 0] rfl (by kernel_rfl) (by kernel_rfl) (by kernel_rfl)
      (OpenSpec.preRow_of_cond 8 hx (by kernel_rfl) (fun k hk => by cases hk) (by kernel_rfl) (laidMetH_nil _ _))) ?_
  intro W base args ds gs before hval hW _ _ _ _ _ _
  exact contract H enc W base args ds gs before hval hW

set_option maxRecDepth 100000 in
theorem said : Rows.FnExactSlowestDaysSaid :=
  OpenClaim.holds_of_cond 7 Try.f7 rfl rfl rfl rfl rfl rfl rfl ⟨rfl, rfl, rfl, rfl, rfl⟩ rfl rfl rfl rfl rfl (by kernel_rfl) Try.func7 (by kernel_rfl)
    (of_decide_eq_true (by kernel_rfl)) (by unfold Func.isWrapper; first | (rw [if_pos (by decide +kernel)]; kernel_rfl) | (rw [if_neg (by decide +kernel)]; exact ⟨rfl, rfl⟩))
    (fun os started H enc _ F => by rw [OpenClaim.pre_eq_preRow]; exact lifted os started H enc F)

theorem proved : Rows.FnExactSlowestDaysSaid := said
#print axioms proved
end Go.Proofs.Ytbpiojnehomljaa.fnExactSlowestDays

/- The law FnExactNextCrossing: the program's NextCrossing answers as its model, for every argument; it writes into no argument, and its answer owns its memory. No condition. -/
import Derived.Deep.RegionHeld3
import Derived.Test.YtkbgbllcekmfcaaRows
import Derived.Test.YtkbgbllcekmfcaaMBase
import Derived.Test.YtkbgbllcekmfcaaTideL
import Derived.WalkKit
import Derived.ProofKit
import Derived.OpenShut
import Derived.ShutString
import Derived.ChangeOld
import Derived.Below
import Derived.Deep.DeepHandedRow
import Derived.Deep.DeepWitnessRowRef
import Derived.Lib.LaidTab
namespace Go.Proofs.Ytkbgbllcekmfcaa.fnExactNextCrossing
open Go.ChangeShapes Go.WideShapes Go.ChangeAt Go.RowKit
open Go.ChangeMaps (open_string shut_string)
set_option linter.unusedVariables false

theorem own : ownKnob Try.prog.godebug = none := by kernel_rfl
theorem laidOut : laidOutB Try.prog = true := by kernel_rfl

open Kit Rw
set_option maxRecDepth 100000 in
set_option maxHeartbeats 4000000 in
theorem walk (w : World) (aT_High : Int) (aT_High_h : (Lit.int .i64 aT_High).wf = true) (aT_Wet : Int) (aT_Wet_h : (Lit.int .i64 aT_Wet).wf = true) (aHour : Int) (aHour_h : (Lit.int .i64 aHour).wf = true) (aLong : Int) (aLong_h : (Lit.int .i64 aLong).wf = true) :
    Calls Try.prog 7 #[.agg #[.int .i64 aT_High, .int .i64 aT_Wet], .int .i64 aHour, .int .i64 aLong] w fun e w' => e = .returned (.bool true) ∧ Below w.heap.size w w' := by
  have aT_High_H := Lib.hid aT_High_h; have aT_High_b := i64_of aT_High_h; clear aT_High_h
  have aT_Wet_H := Lib.hid aT_Wet_h; have aT_Wet_b := i64_of aT_Wet_h; clear aT_Wet_h
  have aHour_H := Lib.hid aHour_h; have aHour_b := i64_of aHour_h; clear aHour_h
  have aLong_H := Lib.hid aLong_h; have aLong_b := i64_of aLong_h; clear aLong_h
  have HB0 : Hid (Below w.heap.size w w) := Below.refl _ _
  have hgb := World.grownBy_alloc w (.cells #[.int .i64 aT_High, .int .i64 aT_Wet] 23 (0, 0)) none
  have HB1 := Lib.hid (HB0.out.grown hgb HB0.out.size (fun _ h => by cases h)); clear HB0
  have XP0 := Lib.hid (box_new w #[.int .i64 aT_High, .int .i64 aT_Wet] 23); clear hgb
  go_enter Try.func7, Try.ntmps7
  try clear cP0_0
  have cP0_0 : World.cell? (w.alloc (.cells #[.int .i64 aT_High, .int .i64 aT_Wet] 23 (0, 0))) ⟨w.heap.size, 0, none⟩ = some (.int .i64 aT_High) := XP0.out.cell 0
  try clear cP0_1
  have cP0_1 : World.cell? (w.alloc (.cells #[.int .i64 aT_High, .int .i64 aT_Wet] 23 (0, 0))) ⟨w.heap.size, 1, none⟩ = some (.int .i64 aT_Wet) := XP0.out.cell 1
  go_wp2_with fail
  generalize w.alloc (.cells #[.int .i64 aT_High, .int .i64 aT_Wet] 23 (0, 0)) = w1 at *
  refine (TideL.toTide_any w1 aT_High aT_Wet).mono ?_
  rintro e w2 ⟨rfl, hg⟩
  have HB2 := Lib.hid (HB1.out.grown hg HB1.out.size (fun _ h => by cases h)); clear HB1
  have XP0 := Lib.hid (XP0.out.grown hg)
  clear hg
  try clear cP0_0
  have cP0_0 : World.cell? (w2) ⟨w.heap.size, 0, none⟩ = some (.int .i64 aT_High) := XP0.out.cell 0
  try clear cP0_1
  have cP0_1 : World.cell? (w2) ⟨w.heap.size, 1, none⟩ = some (.int .i64 aT_Wet) := XP0.out.cell 1
  go_wp2_with fail
  refine (TideI.sNextCross_any w2 aT_High aT_Wet aHour aLong).mono ?_
  rintro e w3 ⟨rfl, hg⟩
  have HB3 := Lib.hid (HB2.out.grown hg HB2.out.size (fun _ h => by cases h)); clear HB2
  have XP0 := Lib.hid (XP0.out.grown hg)
  clear hg
  try clear cP0_0
  have cP0_0 : World.cell? (w3) ⟨w.heap.size, 0, none⟩ = some (.int .i64 aT_High) := XP0.out.cell 0
  try clear cP0_1
  have cP0_1 : World.cell? (w3) ⟨w.heap.size, 1, none⟩ = some (.int .i64 aT_Wet) := XP0.out.cell 1
  go_wp2_with fail
  refine (TideL.toTide_any w3 aT_High aT_Wet).mono ?_
  rintro e w4 ⟨rfl, hg⟩
  have HB4 := Lib.hid (HB3.out.grown hg HB3.out.size (fun _ h => by cases h)); clear HB3
  have XP0 := Lib.hid (XP0.out.grown hg)
  clear hg
  try clear cP0_0
  have cP0_0 : World.cell? (w4) ⟨w.heap.size, 0, none⟩ = some (.int .i64 aT_High) := XP0.out.cell 0
  try clear cP0_1
  have cP0_1 : World.cell? (w4) ⟨w.heap.size, 1, none⟩ = some (.int .i64 aT_Wet) := XP0.out.cell 1
  go_wp2_with fail
  refine (TideI.iNextCross_any w4 aT_High aT_Wet aHour aLong).mono ?_
  rintro e w5 ⟨rfl, hg⟩
  have HB5 := Lib.hid (HB4.out.grown hg HB4.out.size (fun _ h => by cases h)); clear HB4
  have XP0 := Lib.hid (XP0.out.grown hg)
  clear hg
  try clear cP0_0
  have cP0_0 : World.cell? (w5) ⟨w.heap.size, 0, none⟩ = some (.int .i64 aT_High) := XP0.out.cell 0
  try clear cP0_1
  have cP0_1 : World.cell? (w5) ⟨w.heap.size, 1, none⟩ = some (.int .i64 aT_Wet) := XP0.out.cell 1
  go_wp2
  go_ret
  exact ⟨rfl, HB5.out⟩

set_option maxRecDepth 100000 in
/-- What the walk gives, for every argument. -/
theorem contract (H : Type) (enc : TypeId × Value → H) (W : World) (base : Nat) (args : Array Value) (ds gs : List (DataW H)) (before : List MemPlace)
    (hval : ∀ (j : Nat) t v, Try.f7.params[j]? = some t → args[j]? = some v → Value.okWide Try.prog W .any base t v)
    (hW : DataW.Whole enc Try.prog Try.f7.params.toList Rows.fnExactNextCrossingSpec.vars false W args.toList ds gs before) :
    Calls Try.prog 7 args W fun e W' => ∃ v, e = .returned v ∧ Rows.fnExactNextCrossingSpec.post enc Try.prog Try.f7 false true false false W args v W' := by
  have hW' := hW
  obtain ⟨p, q, hA0, hV, rfl, hfz, hnd⟩ := hW
  have hA : DataW.TrodAll enc Try.prog W 0 (fun _ => true) true Try.f7.params.toList args.toList ds p := hA0
  rw [Try.params7] at hA hval
  obtain ⟨v0, vs0, d0, ds0, p0, q0, hargs, rfl, rfl, h0, r0⟩ := trodAll_cons hA
  obtain ⟨v1, vs1, d1, ds1, p1, q1, rfl, rfl, rfl, h1, r1⟩ := trodAll_cons r0
  obtain ⟨v2, vs2, d2, ds2, p2, q2, rfl, rfl, rfl, h2, r2⟩ := trodAll_cons r1
  obtain ⟨rfl, rfl, rfl⟩ := trodAll_nil r2
  obtain rfl : args = #[v0, v1, v2] := by cases args; simp_all
  obtain ⟨rfl, rfl⟩ := trodVars_none hV
  have k0 := h0
  have lt0 : ∀ x ∈ p0, x.block < W.heap.size := by obtain ⟨m, hm⟩ := k0; exact DataW.trod_lt m _ _ _ hm
  obtain ⟨f0_0, f0_1, y0_0, y0_1, fn0, rfl, rfl, rfl, g0_0, g0_1⟩ := Go.Joins.open_agg2 Try.underlying23 (by kernel_rfl) (by kernel_rfl) (hval 0 23 v0 rfl rfl) h0
  obtain ⟨x0_0, rfl, w0_0⟩ := Kit.field_int Try.underlying3 g0_0
  obtain ⟨x0_1, rfl, w0_1⟩ := Kit.field_int Try.underlying3 g0_1
  obtain ⟨a1, rfl, rfl, rfl, w1⟩ := open_int Try.underlying3 (hval 1 3 v1 rfl rfl) h1
  obtain ⟨a2, rfl, rfl, rfl, w2⟩ := open_int Try.underlying3 (hval 2 3 v2 rfl rfl) h2
  clear hA0
  refine (walk W x0_0 w0_0 x0_1 w0_1 a1 w1 a2 w2).mono fun e W' ⟨he, bel⟩ => ?_
  subst he
  exact ⟨_, rfl, _, _, _, [], _, [], hW', trodAll_mk1 (shut_bool Try.underlying4 _), (trodAll_cons_mk (Below.trod laidOut (by kernel_rfl) (of_decide_eq_true (by kernel_rfl)) k0 bel lt0) (trodAll_cons_mk (shut_int Try.underlying3 w1) (trodAll_cons_mk (shut_int Try.underlying3 w2) trodAll_mk0))), rfl, bel.frame _, fun h => by cases h⟩

noncomputable def laidWorld (os : Os) : World := World.holding Try.prog os ⟨#[], #[], []⟩
theorem reads (os : Os) {H : Type} (enc : TypeId × Value → H) : ∃ places, DataW.whole enc Try.prog ((laidWorld os).forCall (fun _ _ => 0) ⟨#[], #[.agg #[.int .i64 0, .int .i64 0], .int .i64 0, .int .i64 0], []⟩).memory Try.f7.params.toList Rows.fnExactNextCrossingSpec.vars false (#[.agg #[.int .i64 0, .int .i64 0], .int .i64 0, .int .i64 0] : Array Value).toList 8 = some ([.agg [.lit (.int .i64 0), .lit (.int .i64 0)], .lit (.int .i64 0), .lit (.int .i64 0)], [], places) :=
  ⟨[], by kernel_rfl⟩

set_option maxRecDepth 100000 in
theorem lifted (os : Os) (started : os.Started) (H : Type) (enc : TypeId × Value → H) (F : Stop.Interp) :
    ReturnsInHanded {} Try.checked os 7 .any ((OpenSpec.ofChange Rows.fnExactNextCrossingSpec).preRow enc Try.prog Try.f7 Rows.fnExactNextCrossingRow.domain false Rows.fnExactNextCrossingRow.laid) (((OpenSpec.ofChange Rows.fnExactNextCrossingSpec).at F).post enc Try.prog Try.f7 false true false false) := by
  obtain ⟨places, hx⟩ := reads os enc
  refine returnsInHanded_of_row (C := Try.checked) (s := (OpenSpec.ofChange Rows.fnExactNextCrossingSpec)) own started (by kernel_rfl) Try.func7
    (witness_row_at (enc := enc) (C := Try.checked) false (laidWorld os) #[.agg #[.int .i64 0, .int .i64 0], .int .i64 0, .int .i64 0] rfl (by kernel_rfl) (by kernel_rfl) (by kernel_rfl)
      (OpenSpec.preRow_of_cond 8 hx (by kernel_rfl) (fun k hk => by cases hk) (by kernel_rfl) (laidMetH_nil _ _))) ?_
  intro W base args ds gs before hval hW _ _ _ _ _ _
  exact contract H enc W base args ds gs before hval hW

set_option maxRecDepth 100000 in
theorem said : Rows.FnExactNextCrossingSaid :=
  OpenClaim.holds_of_cond 7 Try.f7 rfl rfl rfl rfl rfl rfl rfl ⟨rfl, rfl, rfl, rfl, rfl⟩ rfl rfl rfl rfl rfl (by kernel_rfl) Try.func7 (by kernel_rfl)
    (of_decide_eq_true (by kernel_rfl)) (by unfold Func.isWrapper; first | (rw [if_pos (by decide +kernel)]; kernel_rfl) | (rw [if_neg (by decide +kernel)]; exact ⟨rfl, rfl⟩))
    (fun os started H enc _ F => by rw [OpenClaim.pre_eq_preRow]; exact lifted os started H enc F)

theorem proved : Rows.FnExactNextCrossingSaid := said
#print axioms proved
end Go.Proofs.Ytkbgbllcekmfcaa.fnExactNextCrossing

/- The law FnExactCanCarry: the program's CanCarry answers as its model, for every argument; it writes into no argument, and its answer owns its memory. No condition. -/
import Derived.Test.YtochohoihmfanaaRows
import Derived.Test.YtochohoihmfanaaRowE
import Derived.Test.YtochohoihmfanaaLawsM
import Derived.Test.YtochohoihmfanaaSzM
import Derived.Test.YtochohoihmfanaaShrI
import Derived.WalkKit
import Derived.ProofKit
import Derived.OpenShut
import Derived.ShutString
import Derived.ChangeOld
import Derived.Below
import Derived.Deep.DeepHandedRow
import Derived.Deep.DeepWitnessRowRef
import Derived.Lib.LaidTab
namespace Go.Proofs.Ytochohoihmfanaa.fnExactCanCarry
open Go.ChangeShapes Go.WideShapes Go.ChangeAt Go.RowKit
open Go.ChangeMaps (open_string shut_string)
set_option linter.unusedVariables false

theorem own : ownKnob Try.prog.godebug = none := by kernel_rfl
theorem laidOut : laidOutB Try.prog = true := by kernel_rfl

open Kit Rw
set_option maxRecDepth 100000 in
set_option maxHeartbeats 4000000 in
theorem walk (w : World) (aL_a : Option Addr) (aL_len aL_cap : Nat) (aL_L : List Rg.Mem) (aL_h : aL_L.length = aL_len ∧ Rg.SeesG Rg.encM w (.slice aL_a aL_len aL_cap) aL_L) (aN : Int) (aN_h : (Lit.int .i64 aN).wf = true) :
    Calls Try.prog 5 #[.slice aL_a aL_len aL_cap, .int .i64 aN] w fun e w' => e = .returned (.bool true) ∧ Below w.heap.size w w' := by
  obtain ⟨aL_e, aL_s0⟩ := aL_h; have aL_S := Lib.hid aL_s0; have aL_len0 := aL_s0.len; subst aL_e; clear aL_s0
  have aN_H := Lib.hid aN_h; have aN_b := i64_of aN_h; clear aN_h
  by_cases aL_l : (aL_L.length : Int) ≤ (1048576 : Int)
  rotate_left
  ·
    have HB0 : Hid (Below w.heap.size w w) := Below.refl _ _
    go_enter Try.func5, Try.ntmps5
    go_wp2_with fail
    refine (LawsM.szM_no w _ _ (1048576 : Int) (aL_S.out.below HB0.out) (by omega) (by omega) (by omega)).mono ?_
    rintro e w1 ⟨rfl, hg⟩
    have HB1 := Lib.hid (HB0.out.grown hg HB0.out.size (fun _ h => by cases h)); clear HB0
    clear hg
    go_wp2
    go_ret
    exact ⟨rfl, HB1.out⟩
  have HB0 : Hid (Below w.heap.size w w) := Below.refl _ _
  go_enter Try.func5, Try.ntmps5
  go_wp2_with fail
  refine (LawsM.szM_yes w _ _ (1048576 : Int) (aL_S.out.below HB0.out) (by omega) (by omega) (by omega)).mono ?_
  rintro e w1 ⟨rfl, hg⟩
  have HB1 := Lib.hid (HB0.out.grown hg HB0.out.size (fun _ h => by cases h)); clear HB0
  clear hg
  go_wp2_with fail
  refine (LawsM.to_any w1 (.slice aL_a aL_L.length aL_cap) aL_L (aL_S.out.below HB1.out) (by (try simp only [LawsM.marksM_len]); omega)).mono ?_
  rintro e w2 ⟨u1, rfl, ho, hg⟩
  have Ou1 := Lib.hid (ho.lower HB1.out.size)
  have HB2 := Lib.hid (HB1.out.grown hg HB1.out.size (fun _ h => by cases h)); clear HB1
  clear ho hg
  go_wp2_with fail
  refine (Shr.sCan_any w2 _ aL_L aN (Ou1.out.sees)).mono ?_
  rintro e w3 ⟨rfl, hg⟩
  have HB3 := Lib.hid (HB2.out.grown hg HB2.out.size (fun _ h => by cases h)); clear HB2
  have Ou1 := Lib.hid (Ou1.out.grown hg)
  clear hg
  clear Ou1
  go_wp2_with fail
  refine (LawsM.to_any w3 (.slice aL_a aL_L.length aL_cap) aL_L (aL_S.out.below HB3.out) (by (try simp only [LawsM.marksM_len]); omega)).mono ?_
  rintro e w4 ⟨u2, rfl, ho, hg⟩
  have Ou2 := Lib.hid (ho.lower HB3.out.size)
  have HB4 := Lib.hid (HB3.out.grown hg HB3.out.size (fun _ h => by cases h)); clear HB3
  clear ho hg
  go_wp2_with fail
  refine (Shr.iCan_any w4 _ aL_L aN (Ou2.out.sees)).mono ?_
  rintro e w5 ⟨rfl, hg⟩
  have HB5 := Lib.hid (HB4.out.grown hg HB4.out.size (fun _ h => by cases h)); clear HB4
  have Ou2 := Lib.hid (Ou2.out.grown hg)
  clear hg
  go_wp2_with fail
  refine (LawsM.to_any w5 (.slice aL_a aL_L.length aL_cap) aL_L (aL_S.out.below HB5.out) (by (try simp only [LawsM.marksM_len]); omega)).mono ?_
  rintro e w6 ⟨u3, rfl, ho, hg⟩
  have A_u3_u2 := Lib.hid (Rg.apart_lt ho.lt Ou2.out.lt (Nat.le_refl _))
  have Ou3 := Lib.hid (ho.lower HB5.out.size)
  have HB6 := Lib.hid (HB5.out.grown hg HB5.out.size (fun _ h => by cases h)); clear HB5
  have Ou2 := Lib.hid (Ou2.out.grown hg)
  clear ho hg
  go_wp2_with fail
  refine (LawsM.eq_same w6 (u2) (u3) aL_L (Ou2.out.sees) (Ou3.out.sees)).mono ?_
  rintro e w7 ⟨rfl, hg⟩
  have HB7 := Lib.hid (HB6.out.grown hg HB6.out.size (fun _ h => by cases h)); clear HB6
  have Ou2 := Lib.hid (Ou2.out.grown hg)
  have Ou3 := Lib.hid (Ou3.out.grown hg)
  clear hg
  clear Ou3
  clear Ou2
  go_wp2
  go_ret
  exact ⟨rfl, HB7.out⟩

set_option maxRecDepth 100000 in
/-- What the walk gives, for every argument. -/
theorem contract (H : Type) (enc : TypeId × Value → H) (W : World) (base : Nat) (args : Array Value) (ds gs : List (DataW H)) (before : List MemPlace)
    (hval : ∀ (j : Nat) t v, Try.f5.params[j]? = some t → args[j]? = some v → Value.okWide Try.prog W .any base t v)
    (hW : DataW.Whole enc Try.prog Try.f5.params.toList Rows.fnExactCanCarrySpec.vars false W args.toList ds gs before) :
    Calls Try.prog 5 args W fun e W' => ∃ v, e = .returned v ∧ Rows.fnExactCanCarrySpec.post enc Try.prog Try.f5 false true false false W args v W' := by
  have hW' := hW
  obtain ⟨p, q, hA0, hV, rfl, hfz, hnd⟩ := hW
  have hA : DataW.TrodAll enc Try.prog W 0 (fun _ => true) true Try.f5.params.toList args.toList ds p := hA0
  rw [Try.params5] at hA hval
  obtain ⟨v0, vs0, d0, ds0, p0, q0, hargs, rfl, rfl, h0, r0⟩ := trodAll_cons hA
  obtain ⟨v1, vs1, d1, ds1, p1, q1, rfl, rfl, rfl, h1, r1⟩ := trodAll_cons r0
  obtain ⟨rfl, rfl, rfl⟩ := trodAll_nil r1
  obtain rfl : args = #[v0, v1] := by cases args; simp_all
  obtain ⟨rfl, rfl⟩ := trodVars_none hV
  obtain ⟨a0, len0, cap0, rfl⟩ := okWide_slice Try.underlying22 (hval 0 22 v0 rfl rfl)
  have k0 := h0
  have lt0 : ∀ x ∈ p0, x.block < W.heap.size := by obtain ⟨m, hm⟩ := k0; exact DataW.trod_lt m _ _ _ hm
  obtain ⟨z0, w0⟩ := Rg.row_openG (e := Rg.encM) Try.underlying22 (by kernel_rfl) (Rg.encM_open Try.underlying78 (by kernel_rfl) Try.underlying3 Try.underlying3 Try.underlying3 Try.underlying4) h0
  obtain ⟨a1, rfl, rfl, rfl, w1⟩ := open_int Try.underlying3 (hval 1 3 v1 rfl rfl) h1
  clear hA0
  refine (walk W a0 len0 cap0 z0 w0 a1 w1).mono fun e W' ⟨he, bel⟩ => ?_
  subst he
  exact ⟨_, rfl, _, _, _, [], _, [], hW', trodAll_mk1 (shut_bool Try.underlying4 _), (trodAll_cons_mk (Below.trod laidOut (by kernel_rfl) (of_decide_eq_true (by kernel_rfl)) k0 bel lt0) (trodAll_cons_mk (shut_int Try.underlying3 w1) trodAll_mk0)), rfl, bel.frame _, fun h => by cases h⟩

noncomputable def laidWorld (os : Os) : World := World.holding Try.prog os ⟨#[], #[], []⟩
theorem reads (os : Os) {H : Type} (enc : TypeId × Value → H) : ∃ places, DataW.whole enc Try.prog ((laidWorld os).forCall (fun _ _ => 0) ⟨#[], #[.slice none 0 0, .int .i64 0], []⟩).memory Try.f5.params.toList Rows.fnExactCanCarrySpec.vars false (#[.slice none 0 0, .int .i64 0] : Array Value).toList 8 = some ([.nil, .lit (.int .i64 0)], [], places) :=
  ⟨[], by kernel_rfl⟩

set_option maxRecDepth 100000 in
theorem lifted (os : Os) (started : os.Started) (H : Type) (enc : TypeId × Value → H) (F : Stop.Interp) :
    ReturnsInHanded {} Try.checked os 5 .any ((OpenSpec.ofChange Rows.fnExactCanCarrySpec).preRow enc Try.prog Try.f5 Rows.fnExactCanCarryRow.domain false Rows.fnExactCanCarryRow.laid) (((OpenSpec.ofChange Rows.fnExactCanCarrySpec).at F).post enc Try.prog Try.f5 false true false false) := by
  obtain ⟨places, hx⟩ := reads os enc
  refine returnsInHanded_of_row (C := Try.checked) (s := (OpenSpec.ofChange Rows.fnExactCanCarrySpec)) own started (by kernel_rfl) Try.func5
    (witness_row_at (enc := enc) (C := Try.checked) false (laidWorld os) #[.slice none 0 0, .int .i64 0] rfl (by kernel_rfl) (by kernel_rfl) (by kernel_rfl)
      (OpenSpec.preRow_of_cond 8 hx (by kernel_rfl) (fun k hk => by cases hk) (by kernel_rfl) (laidMetH_nil _ _))) ?_
  intro W base args ds gs before hval hW _ _ _ _ _ _
  exact contract H enc W base args ds gs before hval hW

set_option maxRecDepth 100000 in
theorem said : Rows.FnExactCanCarrySaid :=
  OpenClaim.holds_of_cond 5 Try.f5 rfl rfl rfl rfl rfl rfl rfl ⟨rfl, rfl, rfl, rfl, rfl⟩ rfl rfl rfl rfl rfl (by kernel_rfl) Try.func5 (by kernel_rfl)
    (of_decide_eq_true (by kernel_rfl)) (by unfold Func.isWrapper; first | (rw [if_pos (by decide +kernel)]; kernel_rfl) | (rw [if_neg (by decide +kernel)]; exact ⟨rfl, rfl⟩))
    (fun os started H enc _ F => by rw [OpenClaim.pre_eq_preRow]; exact lifted os started H enc F)

theorem proved : Rows.FnExactCanCarrySaid := said
#print axioms proved
end Go.Proofs.Ytochohoihmfanaa.fnExactCanCarry

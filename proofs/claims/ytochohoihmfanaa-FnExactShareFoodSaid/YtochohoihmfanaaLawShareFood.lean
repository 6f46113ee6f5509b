/- The law FnExactShareFood: the program's ShareFood answers as its model, for every argument; it writes into no argument, and its answer owns its memory. No condition. -/
import Derived.Test.YtochohoihmfanaaRows
import Derived.Test.YtochohoihmfanaaRowE
import Derived.Test.YtochohoihmfanaaLawsM
import Derived.Test.YtochohoihmfanaaSzM
import Derived.Test.YtochohoihmfanaaLawsI
import Derived.Test.YtochohoihmfanaaShfJ
import Derived.WalkKit
import Derived.ProofKit
import Derived.OpenShut
import Derived.ShutString
import Derived.ChangeOld
import Derived.Below
import Derived.Deep.DeepHandedRow
import Derived.Deep.DeepWitnessRowRef
import Derived.Lib.LaidTab
namespace Go.Proofs.Ytochohoihmfanaa.fnExactShareFood
open Go.ChangeShapes Go.WideShapes Go.ChangeAt Go.RowKit
open Go.ChangeMaps (open_string shut_string)
set_option linter.unusedVariables false

theorem own : ownKnob Try.prog.godebug = none := by kernel_rfl
theorem laidOut : laidOutB Try.prog = true := by kernel_rfl

open Kit Rw
set_option maxRecDepth 100000 in
set_option maxHeartbeats 4000000 in
theorem walk (w : World) (aL_a : Option Addr) (aL_len aL_cap : Nat) (aL_L : List Rg.Mem) (aL_h : aL_L.length = aL_len ∧ Rg.SeesG Rg.encM w (.slice aL_a aL_len aL_cap) aL_L) (aN : Int) (aN_h : (Lit.int .i64 aN).wf = true) :
    Calls Try.prog 3 #[.slice aL_a aL_len aL_cap, .int .i64 aN] w fun e w' => e = .returned (.bool true) ∧ Below w.heap.size w w' := by
  obtain ⟨aL_e, aL_s0⟩ := aL_h; have aL_S := Lib.hid aL_s0; have aL_len0 := aL_s0.len; subst aL_e; clear aL_s0
  have aN_H := Lib.hid aN_h; have aN_b := i64_of aN_h; clear aN_h
  by_cases aL_l : (aL_L.length : Int) ≤ (1048576 : Int)
  rotate_left
  ·
    have HB0 : Hid (Below w.heap.size w w) := Below.refl _ _
    go_enter Try.func3, Try.ntmps3
    go_wp2_with fail
    refine (LawsM.szM_no w _ _ (1048576 : Int) (aL_S.out.below HB0.out) (by omega) (by omega) (by omega)).mono ?_
    rintro e w1 ⟨rfl, hg⟩
    have HB1 := Lib.hid (HB0.out.grown hg HB0.out.size (fun _ h => by cases h)); clear HB0
    clear hg
    go_wp2
    go_ret
    exact ⟨rfl, HB1.out⟩
  have HB0 : Hid (Below w.heap.size w w) := Below.refl _ _
  go_enter Try.func3, Try.ntmps3
  go_wp2_with fail
  refine (LawsM.szM_yes w _ _ (1048576 : Int) (aL_S.out.below HB0.out) (by omega) (by omega) (by omega)).mono ?_
  rintro e w1 ⟨rfl, hg⟩
  have HB1 := Lib.hid (HB0.out.grown hg HB0.out.size (fun _ h => by cases h)); clear HB0
  clear hg
  go_wp2_with fail
  refine (LawsM.to_any w1 (.slice aL_a aL_L.length aL_cap) aL_L (aL_S.out.below HB1.out) (by have h9 := Shf.food_len aL_L aN; (try simp only [LawsI.marksI_len, LawsM.marksM_len]); omega)).mono ?_
  rintro e w2 ⟨u1, rfl, ho, hg⟩
  have Ou1 := Lib.hid (ho.lower HB1.out.size)
  have HB2 := Lib.hid (HB1.out.grown hg HB1.out.size (fun _ h => by cases h)); clear HB1
  clear ho hg
  go_wp2_with fail
  refine (Shf.sFood_any w2 _ aL_L aN (Ou1.out.sees)).mono ?_
  rintro e w3 ⟨u2, rfl, ho, hg⟩
  have A_u2_u1 := Lib.hid (Rg.apart_lt ho.lt Ou1.out.lt (Nat.le_refl _))
  have Ou2 := Lib.hid (ho.lower HB2.out.size)
  have HB3 := Lib.hid (HB2.out.grown hg HB2.out.size (fun _ h => by cases h)); clear HB2
  have Ou1 := Lib.hid (Ou1.out.grown hg)
  clear ho hg
  clear Ou1
  go_wp2_with fail
  refine (LawsM.to_any w3 (.slice aL_a aL_L.length aL_cap) aL_L (aL_S.out.below HB3.out) (by have h9 := Shf.food_len aL_L aN; (try simp only [LawsI.marksI_len, LawsM.marksM_len]); omega)).mono ?_
  rintro e w4 ⟨u3, rfl, ho, hg⟩
  have A_u3_u2 := Lib.hid (Rg.apart_lt ho.lt Ou2.out.lt (Nat.le_refl _))
  have Ou3 := Lib.hid (ho.lower HB3.out.size)
  have HB4 := Lib.hid (HB3.out.grown hg HB3.out.size (fun _ h => by cases h)); clear HB3
  have Ou2 := Lib.hid (Ou2.out.grown hg)
  clear ho hg
  go_wp2_with fail
  refine (Shf.iFood_any w4 _ aL_L aN (Ou3.out.sees)).mono ?_
  rintro e w5 ⟨u4, rfl, ho, hg⟩
  have A_u4_u2 := Lib.hid (Rg.apart_lt ho.lt Ou2.out.lt (Nat.le_refl _))
  have A_u4_u3 := Lib.hid (Rg.apart_lt ho.lt Ou3.out.lt (Nat.le_refl _))
  have Ou4 := Lib.hid (ho.lower HB4.out.size)
  have HB5 := Lib.hid (HB4.out.grown hg HB4.out.size (fun _ h => by cases h)); clear HB4
  have Ou2 := Lib.hid (Ou2.out.grown hg)
  have Ou3 := Lib.hid (Ou3.out.grown hg)
  clear ho hg
  go_wp2_with fail
  refine (LawsI.eq_same w5 (u4) (u2) (Shf.food aL_L aN) (Ou4.out.sees) (Ou2.out.sees)).mono ?_
  rintro e w6 ⟨rfl, hg⟩
  have HB6 := Lib.hid (HB5.out.grown hg HB5.out.size (fun _ h => by cases h)); clear HB5
  have Ou2 := Lib.hid (Ou2.out.grown hg)
  have Ou3 := Lib.hid (Ou3.out.grown hg)
  have Ou4 := Lib.hid (Ou4.out.grown hg)
  clear hg
  go_wp2_with fail
  refine (LawsM.to_any w6 (.slice aL_a aL_L.length aL_cap) aL_L (aL_S.out.below HB6.out) (by have h9 := Shf.food_len aL_L aN; (try simp only [LawsI.marksI_len, LawsM.marksM_len]); omega)).mono ?_
  rintro e w7 ⟨u5, rfl, ho, hg⟩
  have A_u5_u2 := Lib.hid (Rg.apart_lt ho.lt Ou2.out.lt (Nat.le_refl _))
  have A_u5_u3 := Lib.hid (Rg.apart_lt ho.lt Ou3.out.lt (Nat.le_refl _))
  have A_u5_u4 := Lib.hid (Rg.apart_lt ho.lt Ou4.out.lt (Nat.le_refl _))
  have Ou5 := Lib.hid (ho.lower HB6.out.size)
  have HB7 := Lib.hid (HB6.out.grown hg HB6.out.size (fun _ h => by cases h)); clear HB6
  have Ou2 := Lib.hid (Ou2.out.grown hg)
  have Ou3 := Lib.hid (Ou3.out.grown hg)
  have Ou4 := Lib.hid (Ou4.out.grown hg)
  clear ho hg
  go_wp2_with fail
  refine (LawsM.eq_same w7 (u3) (u5) aL_L (Ou3.out.sees) (Ou5.out.sees)).mono ?_
  rintro e w8 ⟨rfl, hg⟩
  have HB8 := Lib.hid (HB7.out.grown hg HB7.out.size (fun _ h => by cases h)); clear HB7
  have Ou2 := Lib.hid (Ou2.out.grown hg)
  have Ou3 := Lib.hid (Ou3.out.grown hg)
  have Ou4 := Lib.hid (Ou4.out.grown hg)
  have Ou5 := Lib.hid (Ou5.out.grown hg)
  clear hg
  clear Ou5
  go_wp2_with fail
  refine (LawsM.mark_any w8 w.heap.size (u3) aL_L (1) Ou3.out (by have h9 := Shf.food_len aL_L aN; (try simp only [LawsI.marksI_len, LawsM.marksM_len]); omega)).mono ?_
  rintro e w9 ⟨rfl, ho, hg⟩
  have HB9 := Lib.hid (HB8.out.grown hg HB8.out.size (fun c hc => (Ou3.out.lt c hc).1)); clear HB8
  have Ou2 := Lib.hid (Ou2.out.kept hg (A_u3_u2.out.2))
  have Ou4 := Lib.hid (Ou4.out.kept hg (A_u4_u3.out.1))
  have Ou3 := Lib.hid ho; clear ho hg
  go_wp2_with fail
  refine (LawsI.eq_same w9 (u4) (u2) (Shf.food aL_L aN) (Ou4.out.sees) (Ou2.out.sees)).mono ?_
  rintro e w10 ⟨rfl, hg⟩
  have HB10 := Lib.hid (HB9.out.grown hg HB9.out.size (fun _ h => by cases h)); clear HB9
  have Ou2 := Lib.hid (Ou2.out.grown hg)
  have Ou3 := Lib.hid (Ou3.out.grown hg)
  have Ou4 := Lib.hid (Ou4.out.grown hg)
  clear hg
  clear Ou3
  go_wp2_with fail
  refine (LawsI.mark_any w10 w.heap.size (u4) (Shf.food aL_L aN) (1) Ou4.out (by have h9 := Shf.food_len aL_L aN; (try simp only [LawsI.marksI_len, LawsM.marksM_len]); omega)).mono ?_
  rintro e w11 ⟨rfl, ho, hg⟩
  have HB11 := Lib.hid (HB10.out.grown hg HB10.out.size (fun c hc => (Ou4.out.lt c hc).1)); clear HB10
  have Ou2 := Lib.hid (Ou2.out.kept hg (A_u4_u2.out.2))
  have Ou4 := Lib.hid ho; clear ho hg
  go_wp2_with fail
  refine (LawsI.held_any w11 (u4) (1) ((Shf.food aL_L aN)).length (Ou4.out.sees) (by have h9 := Shf.food_len aL_L aN; (try simp only [LawsI.marksI_len, LawsM.marksM_len]); omega)).mono ?_
  rintro e w12 ⟨rfl, hg⟩
  have HB12 := Lib.hid (HB11.out.grown hg HB11.out.size (fun _ h => by cases h)); clear HB11
  have Ou2 := Lib.hid (Ou2.out.grown hg)
  have Ou4 := Lib.hid (Ou4.out.grown hg)
  clear hg
  go_wp2_with fail
  refine (LawsM.to_any w12 (.slice aL_a aL_L.length aL_cap) aL_L (aL_S.out.below HB12.out) (by have h9 := Shf.food_len aL_L aN; (try simp only [LawsI.marksI_len, LawsM.marksM_len]); omega)).mono ?_
  rintro e w13 ⟨u6, rfl, ho, hg⟩
  have A_u6_u2 := Lib.hid (Rg.apart_lt ho.lt Ou2.out.lt (Nat.le_refl _))
  have A_u6_u4 := Lib.hid (Rg.apart_lt ho.lt Ou4.out.lt (Nat.le_refl _))
  have Ou6 := Lib.hid (ho.lower HB12.out.size)
  have HB13 := Lib.hid (HB12.out.grown hg HB12.out.size (fun _ h => by cases h)); clear HB12
  have Ou2 := Lib.hid (Ou2.out.grown hg)
  have Ou4 := Lib.hid (Ou4.out.grown hg)
  clear ho hg
  go_wp2_with fail
  refine (Shf.iFood_any w13 _ aL_L aN (Ou6.out.sees)).mono ?_
  rintro e w14 ⟨u7, rfl, ho, hg⟩
  have A_u7_u2 := Lib.hid (Rg.apart_lt ho.lt Ou2.out.lt (Nat.le_refl _))
  have A_u7_u4 := Lib.hid (Rg.apart_lt ho.lt Ou4.out.lt (Nat.le_refl _))
  have A_u7_u6 := Lib.hid (Rg.apart_lt ho.lt Ou6.out.lt (Nat.le_refl _))
  have Ou7 := Lib.hid (ho.lower HB13.out.size)
  have HB14 := Lib.hid (HB13.out.grown hg HB13.out.size (fun _ h => by cases h)); clear HB13
  have Ou2 := Lib.hid (Ou2.out.grown hg)
  have Ou4 := Lib.hid (Ou4.out.grown hg)
  have Ou6 := Lib.hid (Ou6.out.grown hg)
  clear ho hg
  clear Ou6
  go_wp2_with fail
  refine (LawsI.eq_same w14 (u7) (u2) (Shf.food aL_L aN) (Ou7.out.sees) (Ou2.out.sees)).mono ?_
  rintro e w15 ⟨rfl, hg⟩
  have HB15 := Lib.hid (HB14.out.grown hg HB14.out.size (fun _ h => by cases h)); clear HB14
  have Ou2 := Lib.hid (Ou2.out.grown hg)
  have Ou4 := Lib.hid (Ou4.out.grown hg)
  have Ou7 := Lib.hid (Ou7.out.grown hg)
  clear hg
  clear Ou2
  clear Ou7
  go_wp2_with fail
  refine (LawsI.held_any w15 (u4) (1) ((Shf.food aL_L aN)).length (Ou4.out.sees) (by have h9 := Shf.food_len aL_L aN; (try simp only [LawsI.marksI_len, LawsM.marksM_len]); omega)).mono ?_
  rintro e w16 ⟨rfl, hg⟩
  have HB16 := Lib.hid (HB15.out.grown hg HB15.out.size (fun _ h => by cases h)); clear HB15
  have Ou4 := Lib.hid (Ou4.out.grown hg)
  clear hg
  clear Ou4
  go_wp2
  go_ret
  exact ⟨rfl, HB16.out⟩

set_option maxRecDepth 100000 in
/-- What the walk gives, for every argument. -/
theorem contract (H : Type) (enc : TypeId × Value → H) (W : World) (base : Nat) (args : Array Value) (ds gs : List (DataW H)) (before : List MemPlace)
    (hval : ∀ (j : Nat) t v, Try.f3.params[j]? = some t → args[j]? = some v → Value.okWide Try.prog W .any base t v)
    (hW : DataW.Whole enc Try.prog Try.f3.params.toList Rows.fnExactShareFoodSpec.vars false W args.toList ds gs before) :
    Calls Try.prog 3 args W fun e W' => ∃ v, e = .returned v ∧ Rows.fnExactShareFoodSpec.post enc Try.prog Try.f3 false true false false W args v W' := by
  have hW' := hW
  obtain ⟨p, q, hA0, hV, rfl, hfz, hnd⟩ := hW
  have hA : DataW.TrodAll enc Try.prog W 0 (fun _ => true) true Try.f3.params.toList args.toList ds p := hA0
  rw [Try.params3] at hA hval
  obtain ⟨v0, vs0, d0, ds0, p0, q0, hargs, rfl, rfl, h0, r0⟩ := trodAll_cons hA
  obtain ⟨v1, vs1, d1, ds1, p1, q1, rfl, rfl, rfl, h1, r1⟩ := trodAll_cons r0
  obtain ⟨rfl, rfl, rfl⟩ := trodAll_nil r1
  obtain rfl : args = #[v0, v1] := by cases args; simp_all
  obtain ⟨rfl, rfl⟩ := trodVars_none hV
  obtain ⟨a0, len0, cap0, rfl⟩ := okWide_slice Try.underlying22 (hval 0 22 v0 rfl rfl)
  have k0 := h0
  have lt0 : ∀ x ∈ p0, x.block < W.heap.size := by obtain ⟨m, hm⟩ := k0; exact DataW.trod_lt m _ _ _ hm
  obtain ⟨z0, w0⟩ := Rg.row_openG (e := Rg.encM) Try.underlying22 (by kernel_rfl) (Rg.encM_open Try.underlying78 (by kernel_rfl) Try.underlying3 Try.underlying3 Try.underlying3 Try.underlying4) h0
  obtain ⟨a1, rfl, rfl, rfl, w1⟩ := open_int Try.underlying3 (hval 1 3 v1 rfl rfl) h1
  clear hA0
  refine (walk W a0 len0 cap0 z0 w0 a1 w1).mono fun e W' ⟨he, bel⟩ => ?_
  subst he
  exact ⟨_, rfl, _, _, _, [], _, [], hW', trodAll_mk1 (shut_bool Try.underlying4 _), (trodAll_cons_mk (Below.trod laidOut (by kernel_rfl) (of_decide_eq_true (by kernel_rfl)) k0 bel lt0) (trodAll_cons_mk (shut_int Try.underlying3 w1) trodAll_mk0)), rfl, bel.frame _, fun h => by cases h⟩

noncomputable def laidWorld (os : Os) : World := World.holding Try.prog os ⟨#[], #[], []⟩
theorem reads (os : Os) {H : Type} (enc : TypeId × Value → H) : ∃ places, DataW.whole enc Try.prog ((laidWorld os).forCall (fun _ _ => 0) ⟨#[], #[.slice none 0 0, .int .i64 0], []⟩).memory Try.f3.params.toList Rows.fnExactShareFoodSpec.vars false (#[.slice none 0 0, .int .i64 0] : Array Value).toList 8 = some ([.nil, .lit (.int .i64 0)], [], places) :=
  ⟨[], by kernel_rfl⟩

set_option maxRecDepth 100000 in
theorem lifted (os : Os) (started : os.Started) (H : Type) (enc : TypeId × Value → H) (F : Stop.Interp) :
    ReturnsInHanded {} Try.checked os 3 .any ((OpenSpec.ofChange Rows.fnExactShareFoodSpec).preRow enc Try.prog Try.f3 Rows.fnExactShareFoodRow.domain false Rows.fnExactShareFoodRow.laid) (((OpenSpec.ofChange Rows.fnExactShareFoodSpec).at F).post enc Try.prog Try.f3 false true false false) := by
  obtain ⟨places, hx⟩ := reads os enc
  refine returnsInHanded_of_row (C := Try.checked) (s := (OpenSpec.ofChange Rows.fnExactShareFoodSpec)) own started (by kernel_rfl) Try.func3
    (witness_row_at (enc := enc) (C := Try.checked) false (laidWorld os) #[.slice none 0 0, .int .i64 0] rfl (by kernel_rfl) (by kernel_rfl) (by kernel_rfl)
      (OpenSpec.preRow_of_cond 8 hx (by kernel_rfl) (fun k hk => by cases hk) (by kernel_rfl) (laidMetH_nil _ _))) ?_
  intro W base args ds gs before hval hW _ _ _ _ _ _
  exact contract H enc W base args ds gs before hval hW

set_option maxRecDepth 100000 in
theorem said : Rows.FnExactShareFoodSaid :=
  OpenClaim.holds_of_cond 3 Try.f3 rfl rfl rfl rfl rfl rfl rfl ⟨rfl, rfl, rfl, rfl, rfl⟩ rfl rfl rfl rfl rfl (by kernel_rfl) Try.func3 (by kernel_rfl)
    (of_decide_eq_true (by kernel_rfl)) (by unfold Func.isWrapper; first | (rw [if_pos (by decide +kernel)]; kernel_rfl) | (rw [if_neg (by decide +kernel)]; exact ⟨rfl, rfl⟩))
    (fun os started H enc _ F => by rw [OpenClaim.pre_eq_preRow]; exact lifted os started H enc F)

theorem proved : Rows.FnExactShareFoodSaid := said
#print axioms proved
end Go.Proofs.Ytochohoihmfanaa.fnExactShareFood

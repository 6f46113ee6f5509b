/- The law FnExactSplitGap: the program's SplitGap answers as its model, for every argument; it writes into no argument, and its answer owns its memory. No condition. -/
import Derived.Test.YtinpnedijmmpgaaRows
import Derived.Test.YtinpnedijmmpgaaRowE
import Derived.Test.YtinpnedijmmpgaaLawsI
import Derived.Test.YtinpnedijmmpgaaSig
import Derived.WalkKit
import Derived.ProofKit
import Derived.OpenShut
import Derived.ShutString
import Derived.ChangeOld
import Derived.Below
import Derived.Deep.DeepHandedRow
import Derived.Deep.DeepWitnessRowRef
import Derived.Lib.LaidTab
namespace Go.Proofs.Ytinpnedijmmpgaa.fnExactSplitGap
open Go.ChangeShapes Go.WideShapes Go.ChangeAt Go.RowKit
open Go.ChangeMaps (open_string shut_string)
set_option linter.unusedVariables false

theorem own : ownKnob Try.prog.godebug = none := by kernel_rfl
theorem laidOut : laidOutB Try.prog = true := by kernel_rfl

open Kit Rw
set_option maxRecDepth 100000 in
set_option maxHeartbeats 4000000 in
theorem walk (w : World) (aWeights_a : Option Addr) (aWeights_len aWeights_cap : Nat) (aWeights_z : List Int) (aWeights_h : Kit.IsRow .i64 w aWeights_a aWeights_len aWeights_cap aWeights_z) (aFirst_a : Option Addr) (aFirst_len aFirst_cap : Nat) (aFirst_z : List Int) (aFirst_h : Kit.IsRow .i64 w aFirst_a aFirst_len aFirst_cap aFirst_z) :
    Calls Try.prog 14 #[.slice aWeights_a aWeights_len aWeights_cap, .slice aFirst_a aFirst_len aFirst_cap] w fun e w' => e = .returned (.bool true) ∧ Below w.heap.size w w' := by
  have aWeights_g := Lib.hid aWeights_h; clear aWeights_h
  obtain ⟨aWeights_L, aWeights_e, aWeights_s0⟩ := IsRow.sees aWeights_g.out
  have aWeights_S := Lib.hid aWeights_s0; have aWeights_len0 := aWeights_s0.len; subst aWeights_e; clear aWeights_s0 aWeights_g
  have aFirst_g := Lib.hid aFirst_h; clear aFirst_h
  obtain ⟨aFirst_L, aFirst_e, aFirst_s0⟩ := IsRow.sees aFirst_g.out
  have aFirst_S := Lib.hid aFirst_s0; have aFirst_len0 := aFirst_s0.len; subst aFirst_e; clear aFirst_s0 aFirst_g
  by_cases aWeights_l : aWeights_L.length ≤ 1048576
  rotate_left
  ·
    have HB0 : Hid (Below w.heap.size w w) := Below.refl _ _
    go_enter Try.func14, Try.ntmps14
    go_wp2
    go_ret
    exact ⟨rfl, by have := HB0.out; exact this⟩
  by_cases aFirst_l : aFirst_L.length ≤ 1048576
  rotate_left
  ·
    have HB0 : Hid (Below w.heap.size w w) := Below.refl _ _
    go_enter Try.func14, Try.ntmps14
    go_wp2
    go_ret
    exact ⟨rfl, by have := HB0.out; exact this⟩
  have HB0 : Hid (Below w.heap.size w w) := Below.refl _ _
  go_enter Try.func14, Try.ntmps14
  go_wp2_with fail
  refine (LawsI.to_any w (.slice aWeights_a aWeights_L.length aWeights_cap) aWeights_L (aWeights_S.out.below HB0.out) (by (try simp only [LawsI.marksI_len]); omega)).mono ?_
  rintro e w1 ⟨u1, rfl, ho, hg⟩
  have Ou1 := Lib.hid (ho.lower HB0.out.size)
  have HB1 := Lib.hid (HB0.out.grown hg HB0.out.size (fun _ h => by cases h)); clear HB0
  clear ho hg
  go_wp2_with fail
  refine (LawsI.to_any w1 (.slice aFirst_a aFirst_L.length aFirst_cap) aFirst_L (aFirst_S.out.below HB1.out) (by (try simp only [LawsI.marksI_len]); omega)).mono ?_
  rintro e w2 ⟨u2, rfl, ho, hg⟩
  have A_u2_u1 := Lib.hid (Rg.apart_lt ho.lt Ou1.out.lt (Nat.le_refl _))
  have Ou2 := Lib.hid (ho.lower HB1.out.size)
  have HB2 := Lib.hid (HB1.out.grown hg HB1.out.size (fun _ h => by cases h)); clear HB1
  have Ou1 := Lib.hid (Ou1.out.grown hg)
  clear ho hg
  go_wp2_with fail
  refine (SigI.sGap_any w2 _ _ aWeights_L aFirst_L (Ou1.out.sees) (Ou2.out.sees)).mono ?_
  rintro e w3 ⟨rfl, hg⟩
  have HB3 := Lib.hid (HB2.out.grown hg HB2.out.size (fun _ h => by cases h)); clear HB2
  have Ou1 := Lib.hid (Ou1.out.grown hg)
  have Ou2 := Lib.hid (Ou2.out.grown hg)
  clear hg
  clear Ou1
  clear Ou2
  go_wp2_with fail
  refine (LawsI.to_any w3 (.slice aWeights_a aWeights_L.length aWeights_cap) aWeights_L (aWeights_S.out.below HB3.out) (by (try simp only [LawsI.marksI_len]); omega)).mono ?_
  rintro e w4 ⟨u3, rfl, ho, hg⟩
  have Ou3 := Lib.hid (ho.lower HB3.out.size)
  have HB4 := Lib.hid (HB3.out.grown hg HB3.out.size (fun _ h => by cases h)); clear HB3
  clear ho hg
  go_wp2_with fail
  refine (LawsI.to_any w4 (.slice aFirst_a aFirst_L.length aFirst_cap) aFirst_L (aFirst_S.out.below HB4.out) (by (try simp only [LawsI.marksI_len]); omega)).mono ?_
  rintro e w5 ⟨u4, rfl, ho, hg⟩
  have A_u4_u3 := Lib.hid (Rg.apart_lt ho.lt Ou3.out.lt (Nat.le_refl _))
  have Ou4 := Lib.hid (ho.lower HB4.out.size)
  have HB5 := Lib.hid (HB4.out.grown hg HB4.out.size (fun _ h => by cases h)); clear HB4
  have Ou3 := Lib.hid (Ou3.out.grown hg)
  clear ho hg
  go_wp2_with fail
  refine (SigI.iGap_any w5 _ _ aWeights_L aFirst_L (Ou3.out.sees) (Ou4.out.sees) (by (try simp only [LawsI.marksI_len]); omega)).mono ?_
  rintro e w6 ⟨rfl, hg⟩
  have HB6 := Lib.hid (HB5.out.grown hg HB5.out.size (fun _ h => by cases h)); clear HB5
  have Ou3 := Lib.hid (Ou3.out.grown hg)
  have Ou4 := Lib.hid (Ou4.out.grown hg)
  clear hg
  go_wp2_with fail
  refine (LawsI.to_any w6 (.slice aWeights_a aWeights_L.length aWeights_cap) aWeights_L (aWeights_S.out.below HB6.out) (by (try simp only [LawsI.marksI_len]); omega)).mono ?_
  rintro e w7 ⟨u5, rfl, ho, hg⟩
  have A_u5_u3 := Lib.hid (Rg.apart_lt ho.lt Ou3.out.lt (Nat.le_refl _))
  have A_u5_u4 := Lib.hid (Rg.apart_lt ho.lt Ou4.out.lt (Nat.le_refl _))
  have Ou5 := Lib.hid (ho.lower HB6.out.size)
  have HB7 := Lib.hid (HB6.out.grown hg HB6.out.size (fun _ h => by cases h)); clear HB6
  have Ou3 := Lib.hid (Ou3.out.grown hg)
  have Ou4 := Lib.hid (Ou4.out.grown hg)
  clear ho hg
  go_wp2_with fail
  refine (LawsI.eq_same w7 (u3) (u5) aWeights_L (Ou3.out.sees) (Ou5.out.sees)).mono ?_
  rintro e w8 ⟨rfl, hg⟩
  have HB8 := Lib.hid (HB7.out.grown hg HB7.out.size (fun _ h => by cases h)); clear HB7
  have Ou3 := Lib.hid (Ou3.out.grown hg)
  have Ou4 := Lib.hid (Ou4.out.grown hg)
  have Ou5 := Lib.hid (Ou5.out.grown hg)
  clear hg
  clear Ou5
  clear Ou3
  go_wp2_with fail
  refine (LawsI.to_any w8 (.slice aFirst_a aFirst_L.length aFirst_cap) aFirst_L (aFirst_S.out.below HB8.out) (by (try simp only [LawsI.marksI_len]); omega)).mono ?_
  rintro e w9 ⟨u6, rfl, ho, hg⟩
  have A_u6_u4 := Lib.hid (Rg.apart_lt ho.lt Ou4.out.lt (Nat.le_refl _))
  have Ou6 := Lib.hid (ho.lower HB8.out.size)
  have HB9 := Lib.hid (HB8.out.grown hg HB8.out.size (fun _ h => by cases h)); clear HB8
  have Ou4 := Lib.hid (Ou4.out.grown hg)
  clear ho hg
  go_wp2_with fail
  refine (LawsI.eq_same w9 (u4) (u6) aFirst_L (Ou4.out.sees) (Ou6.out.sees)).mono ?_
  rintro e w10 ⟨rfl, hg⟩
  have HB10 := Lib.hid (HB9.out.grown hg HB9.out.size (fun _ h => by cases h)); clear HB9
  have Ou4 := Lib.hid (Ou4.out.grown hg)
  have Ou6 := Lib.hid (Ou6.out.grown hg)
  clear hg
  clear Ou6
  clear Ou4
  go_wp2
  go_ret
  exact ⟨rfl, HB10.out⟩

set_option maxRecDepth 100000 in
/-- What the walk gives, for every argument. -/
theorem contract (H : Type) (enc : TypeId × Value → H) (W : World) (base : Nat) (args : Array Value) (ds gs : List (DataW H)) (before : List MemPlace)
    (hval : ∀ (j : Nat) t v, Try.f14.params[j]? = some t → args[j]? = some v → Value.okWide Try.prog W .any base t v)
    (hW : DataW.Whole enc Try.prog Try.f14.params.toList Rows.fnExactSplitGapSpec.vars false W args.toList ds gs before) :
    Calls Try.prog 14 args W fun e W' => ∃ v, e = .returned v ∧ Rows.fnExactSplitGapSpec.post enc Try.prog Try.f14 false true false false W args v W' := by
  have hW' := hW
  obtain ⟨p, q, hA0, hV, rfl, hfz, hnd⟩ := hW
  have hA : DataW.TrodAll enc Try.prog W 0 (fun _ => true) true Try.f14.params.toList args.toList ds p := hA0
  rw [Try.params14] at hA hval
  obtain ⟨v0, vs0, d0, ds0, p0, q0, hargs, rfl, rfl, h0, r0⟩ := trodAll_cons hA
  obtain ⟨v1, vs1, d1, ds1, p1, q1, rfl, rfl, rfl, h1, r1⟩ := trodAll_cons r0
  obtain ⟨rfl, rfl, rfl⟩ := trodAll_nil r1
  obtain rfl : args = #[v0, v1] := by cases args; simp_all
  obtain ⟨rfl, rfl⟩ := trodVars_none hV
  obtain ⟨a0, len0, cap0, rfl⟩ := okWide_slice Try.underlying35 (hval 0 35 v0 rfl rfl)
  have k0 := h0
  have lt0 : ∀ x ∈ p0, x.block < W.heap.size := by obtain ⟨m, hm⟩ := k0; exact DataW.trod_lt m _ _ _ hm
  obtain ⟨z0, w0⟩ : ∃ zs, Kit.IsRow .i64 W a0 len0 cap0 zs := Kit.row_open Try.underlying35 Try.underlying3 (by kernel_rfl) h0
  obtain ⟨a1, len1, cap1, rfl⟩ := okWide_slice Try.underlying35 (hval 1 35 v1 rfl rfl)
  have k1 := h1
  have lt1 : ∀ x ∈ p1, x.block < W.heap.size := by obtain ⟨m, hm⟩ := k1; exact DataW.trod_lt m _ _ _ hm
  obtain ⟨z1, w1⟩ : ∃ zs, Kit.IsRow .i64 W a1 len1 cap1 zs := Kit.row_open Try.underlying35 Try.underlying3 (by kernel_rfl) h1
  clear hA0
  refine (walk W a0 len0 cap0 z0 w0 a1 len1 cap1 z1 w1).mono fun e W' ⟨he, bel⟩ => ?_
  subst he
  exact ⟨_, rfl, _, _, _, [], _, [], hW', trodAll_mk1 (shut_bool Try.underlying4 _), (trodAll_cons_mk (Below.trod laidOut (by kernel_rfl) (of_decide_eq_true (by kernel_rfl)) k0 bel lt0) (trodAll_cons_mk (Below.trod laidOut (by kernel_rfl) (of_decide_eq_true (by kernel_rfl)) k1 bel lt1) trodAll_mk0)), rfl, bel.frame _, fun h => by cases h⟩

noncomputable def laidWorld (os : Os) : World := World.holding Try.prog os ⟨#[], #[], []⟩
theorem reads (os : Os) {H : Type} (enc : TypeId × Value → H) : ∃ places, DataW.whole enc Try.prog ((laidWorld os).forCall (fun _ _ => 0) ⟨#[], #[.slice none 0 0, .slice none 0 0], []⟩).memory Try.f14.params.toList Rows.fnExactSplitGapSpec.vars false (#[.slice none 0 0, .slice none 0 0] : Array Value).toList 8 = some ([.nil, .nil], [], places) :=
  ⟨[], by kernel_rfl⟩

set_option maxRecDepth 100000 in
theorem lifted (os : Os) (started : os.Started) (H : Type) (enc : TypeId × Value → H) (F : Stop.Interp) :
    ReturnsInHanded {} Try.checked os 14 .any ((OpenSpec.ofChange Rows.fnExactSplitGapSpec).preRow enc Try.prog Try.f14 Rows.fnExactSplitGapRow.domain false Rows.fnExactSplitGapRow.laid) (((OpenSpec.ofChange Rows.fnExactSplitGapSpec).at F).post enc Try.prog Try.f14 false true false false) := by
  obtain ⟨places, hx⟩ := reads os enc
  refine returnsInHanded_of_row (C := Try.checked) (s := (OpenSpec.ofChange Rows.fnExactSplitGapSpec)) own started (by kernel_rfl) Try.func14
    (witness_row_at (enc := enc) (C := Try.checked) false (laidWorld os) #[.slice none 0 0, .slice none 0 0] rfl (by kernel_rfl) (by kernel_rfl) (by kernel_rfl)
      (OpenSpec.preRow_of_cond 8 hx (by kernel_rfl) (fun k hk => by cases hk) (by kernel_rfl) (laidMetH_nil _ _))) ?_
  intro W base args ds gs before hval hW _ _ _ _ _ _
  exact contract H enc W base args ds gs before hval hW

set_option maxRecDepth 100000 in
theorem said : Rows.FnExactSplitGapSaid :=
  OpenClaim.holds_of_cond 14 Try.f14 rfl rfl rfl rfl rfl rfl rfl ⟨rfl, rfl, rfl, rfl, rfl⟩ rfl rfl rfl rfl rfl (by kernel_rfl) Try.func14 (by kernel_rfl)
    (of_decide_eq_true (by kernel_rfl)) (by unfold Func.isWrapper; first | (rw [if_pos (by decide +kernel)]; kernel_rfl) | (rw [if_neg (by decide +kernel)]; exact ⟨rfl, rfl⟩))
    (fun os started H enc _ F => by rw [OpenClaim.pre_eq_preRow]; exact lifted os started H enc F)

theorem proved : Rows.FnExactSplitGapSaid := said
#print axioms proved
end Go.Proofs.Ytinpnedijmmpgaa.fnExactSplitGap

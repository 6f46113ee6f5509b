/- The law FnExactIsFound: the program's IsFound answers as its model, for every argument; it writes into no argument, and its answer owns its memory. No condition. -/
import Derived.Test.YtbgbnbnfmlpemaaRows
import Derived.Test.YtbgbnbnfmlpemaaLawsI
import Derived.Test.YtbgbnbnfmlpemaaCros
import Derived.Test.YtbgbnbnfmlpemaaRowE
import Derived.WalkKit
import Derived.ProofKit
import Derived.OpenShut
import Derived.ShutString
import Derived.ChangeOld
import Derived.Below
import Derived.Deep.DeepHandedRow
import Derived.Deep.DeepWitnessRowRef
import Derived.Lib.LaidTab
namespace Go.Proofs.Ytbgbnbnfmlpemaa.fnExactIsFound
open Go.ChangeShapes Go.WideShapes Go.ChangeAt Go.RowKit
open Go.ChangeMaps (open_string shut_string)
set_option linter.unusedVariables false

theorem own : ownKnob Try.prog.godebug = none := by kernel_rfl
theorem laidOut : laidOutB Try.prog = true := by kernel_rfl

open Kit Rw
set_option maxRecDepth 100000 in
set_option maxHeartbeats 4000000 in
theorem walk (w : World) (aArea_a : Option Addr) (aArea_len aArea_cap : Nat) (aArea_z : List Int) (aArea_h : Kit.IsRow .i64 w aArea_a aArea_len aArea_cap aArea_z) (aSearched_a : Option Addr) (aSearched_len aSearched_cap : Nat) (aSearched_z : List Int) (aSearched_h : Kit.IsRow .i64 w aSearched_a aSearched_len aSearched_cap aSearched_z) (aAt : Int) (aAt_h : (Lit.int .i64 aAt).wf = true) :
    Calls Try.prog 5 #[.slice aArea_a aArea_len aArea_cap, .slice aSearched_a aSearched_len aSearched_cap, .int .i64 aAt] w fun e w' => e = .returned (.bool true) ∧ Below w.heap.size w w' := by
  have aArea_g := Lib.hid aArea_h; clear aArea_h
  obtain ⟨aArea_L, aArea_e, aArea_s0⟩ := IsRow.sees aArea_g.out
  have aArea_S := Lib.hid aArea_s0; have aArea_len0 := aArea_s0.len; subst aArea_e; clear aArea_s0 aArea_g
  have aSearched_g := Lib.hid aSearched_h; clear aSearched_h
  obtain ⟨aSearched_L, aSearched_e, aSearched_s0⟩ := IsRow.sees aSearched_g.out
  have aSearched_S := Lib.hid aSearched_s0; have aSearched_len0 := aSearched_s0.len; subst aSearched_e; clear aSearched_s0 aSearched_g
  have aAt_H := Lib.hid aAt_h; have aAt_b := i64_of aAt_h; clear aAt_h
  by_cases aArea_l : aArea_L.length ≤ 1048576
  rotate_left
  ·
    have HB0 : Hid (Below w.heap.size w w) := Below.refl _ _
    go_enter Try.func5, Try.ntmps5
    go_wp2
    go_ret
    exact ⟨rfl, by have := HB0.out; exact this⟩
  by_cases aSearched_l : aSearched_L.length ≤ 1048576
  rotate_left
  ·
    have HB0 : Hid (Below w.heap.size w w) := Below.refl _ _
    go_enter Try.func5, Try.ntmps5
    go_wp2
    go_ret
    exact ⟨rfl, by have := HB0.out; exact this⟩
  have HB0 : Hid (Below w.heap.size w w) := Below.refl _ _
  go_enter Try.func5, Try.ntmps5
  go_wp2_with fail
  refine (LawsI.to_any w (.slice aArea_a aArea_L.length aArea_cap) aArea_L (aArea_S.out.below HB0.out) (by (try simp only [LawsI.marksI_len]); omega)).mono ?_
  rintro e w1 ⟨u1, rfl, ho, hg⟩
  have Ou1 := Lib.hid (ho.lower HB0.out.size)
  have HB1 := Lib.hid (HB0.out.grown hg HB0.out.size (fun _ h => by cases h)); clear HB0
  clear ho hg
  go_wp2_with fail
  refine (LawsI.to_any w1 (.slice aSearched_a aSearched_L.length aSearched_cap) aSearched_L (aSearched_S.out.below HB1.out) (by (try simp only [LawsI.marksI_len]); omega)).mono ?_
  rintro e w2 ⟨u2, rfl, ho, hg⟩
  have A_u2_u1 := Lib.hid (Rg.apart_lt ho.lt Ou1.out.lt (Nat.le_refl _))
  have Ou2 := Lib.hid (ho.lower HB1.out.size)
  have HB2 := Lib.hid (HB1.out.grown hg HB1.out.size (fun _ h => by cases h)); clear HB1
  have Ou1 := Lib.hid (Ou1.out.grown hg)
  clear ho hg
  go_wp2_with fail
  refine (Cros.sFound_any w2 _ _ aArea_L aSearched_L aAt (Ou1.out.sees) (Ou2.out.sees)).mono ?_
  rintro e w3 ⟨rfl, hg⟩
  have HB3 := Lib.hid (HB2.out.grown hg HB2.out.size (fun _ h => by cases h)); clear HB2
  have Ou1 := Lib.hid (Ou1.out.grown hg)
  have Ou2 := Lib.hid (Ou2.out.grown hg)
  clear hg
  clear Ou1
  clear Ou2
  go_wp2_with fail
  refine (LawsI.to_any w3 (.slice aArea_a aArea_L.length aArea_cap) aArea_L (aArea_S.out.below HB3.out) (by (try simp only [LawsI.marksI_len]); omega)).mono ?_
  rintro e w4 ⟨u3, rfl, ho, hg⟩
  have Ou3 := Lib.hid (ho.lower HB3.out.size)
  have HB4 := Lib.hid (HB3.out.grown hg HB3.out.size (fun _ h => by cases h)); clear HB3
  clear ho hg
  go_wp2_with fail
  refine (LawsI.to_any w4 (.slice aSearched_a aSearched_L.length aSearched_cap) aSearched_L (aSearched_S.out.below HB4.out) (by (try simp only [LawsI.marksI_len]); omega)).mono ?_
  rintro e w5 ⟨u4, rfl, ho, hg⟩
  have A_u4_u3 := Lib.hid (Rg.apart_lt ho.lt Ou3.out.lt (Nat.le_refl _))
  have Ou4 := Lib.hid (ho.lower HB4.out.size)
  have HB5 := Lib.hid (HB4.out.grown hg HB4.out.size (fun _ h => by cases h)); clear HB4
  have Ou3 := Lib.hid (Ou3.out.grown hg)
  clear ho hg
  go_wp2_with fail
  refine (Cros.iFound_any w5 _ _ aArea_L aSearched_L aAt (Ou3.out.sees) (Ou4.out.sees)).mono ?_
  rintro e w6 ⟨rfl, hg⟩
  have HB6 := Lib.hid (HB5.out.grown hg HB5.out.size (fun _ h => by cases h)); clear HB5
  have Ou3 := Lib.hid (Ou3.out.grown hg)
  have Ou4 := Lib.hid (Ou4.out.grown hg)
  clear hg
  go_wp2_with fail
  refine (LawsI.to_any w6 (.slice aArea_a aArea_L.length aArea_cap) aArea_L (aArea_S.out.below HB6.out) (by (try simp only [LawsI.marksI_len]); omega)).mono ?_
  rintro e w7 ⟨u5, rfl, ho, hg⟩
  have A_u5_u3 := Lib.hid (Rg.apart_lt ho.lt Ou3.out.lt (Nat.le_refl _))
  have A_u5_u4 := Lib.hid (Rg.apart_lt ho.lt Ou4.out.lt (Nat.le_refl _))
  have Ou5 := Lib.hid (ho.lower HB6.out.size)
  have HB7 := Lib.hid (HB6.out.grown hg HB6.out.size (fun _ h => by cases h)); clear HB6
  have Ou3 := Lib.hid (Ou3.out.grown hg)
  have Ou4 := Lib.hid (Ou4.out.grown hg)
  clear ho hg
  go_wp2_with fail
  refine (LawsI.eq_same w7 (u3) (u5) aArea_L (Ou3.out.sees) (Ou5.out.sees)).mono ?_
  rintro e w8 ⟨rfl, hg⟩
  have HB8 := Lib.hid (HB7.out.grown hg HB7.out.size (fun _ h => by cases h)); clear HB7
  have Ou3 := Lib.hid (Ou3.out.grown hg)
  have Ou4 := Lib.hid (Ou4.out.grown hg)
  have Ou5 := Lib.hid (Ou5.out.grown hg)
  clear hg
  clear Ou5
  clear Ou3
  go_wp2_with fail
  refine (LawsI.to_any w8 (.slice aSearched_a aSearched_L.length aSearched_cap) aSearched_L (aSearched_S.out.below HB8.out) (by (try simp only [LawsI.marksI_len]); omega)).mono ?_
  rintro e w9 ⟨u6, rfl, ho, hg⟩
  have A_u6_u4 := Lib.hid (Rg.apart_lt ho.lt Ou4.out.lt (Nat.le_refl _))
  have Ou6 := Lib.hid (ho.lower HB8.out.size)
  have HB9 := Lib.hid (HB8.out.grown hg HB8.out.size (fun _ h => by cases h)); clear HB8
  have Ou4 := Lib.hid (Ou4.out.grown hg)
  clear ho hg
  go_wp2_with fail
  refine (LawsI.eq_same w9 (u4) (u6) aSearched_L (Ou4.out.sees) (Ou6.out.sees)).mono ?_
  rintro e w10 ⟨rfl, hg⟩
  have HB10 := Lib.hid (HB9.out.grown hg HB9.out.size (fun _ h => by cases h)); clear HB9
  have Ou4 := Lib.hid (Ou4.out.grown hg)
  have Ou6 := Lib.hid (Ou6.out.grown hg)
  clear hg
  clear Ou6
  clear Ou4
  go_wp2
  go_ret
  exact ⟨rfl, HB10.out⟩

set_option maxRecDepth 100000 in
/-- What the walk gives, for every argument. -/
theorem contract (H : Type) (enc : TypeId × Value → H) (W : World) (base : Nat) (args : Array Value) (ds gs : List (DataW H)) (before : List MemPlace)
    (hval : ∀ (j : Nat) t v, Try.f5.params[j]? = some t → args[j]? = some v → Value.okWide Try.prog W .any base t v)
    (hW : DataW.Whole enc Try.prog Try.f5.params.toList Rows.fnExactIsFoundSpec.vars false W args.toList ds gs before) :
    Calls Try.prog 5 args W fun e W' => ∃ v, e = .returned v ∧ Rows.fnExactIsFoundSpec.post enc Try.prog Try.f5 false true false false W args v W' := by
  have hW' := hW
  obtain ⟨p, q, hA0, hV, rfl, hfz, hnd⟩ := hW
  have hA : DataW.TrodAll enc Try.prog W 0 (fun _ => true) true Try.f5.params.toList args.toList ds p := hA0
  rw [Try.params5] at hA hval
  obtain ⟨v0, vs0, d0, ds0, p0, q0, hargs, rfl, rfl, h0, r0⟩ := trodAll_cons hA
  obtain ⟨v1, vs1, d1, ds1, p1, q1, rfl, rfl, rfl, h1, r1⟩ := trodAll_cons r0
  obtain ⟨v2, vs2, d2, ds2, p2, q2, rfl, rfl, rfl, h2, r2⟩ := trodAll_cons r1
  obtain ⟨rfl, rfl, rfl⟩ := trodAll_nil r2
  obtain rfl : args = #[v0, v1, v2] := by cases args; simp_all
  obtain ⟨rfl, rfl⟩ := trodVars_none hV
  obtain ⟨a0, len0, cap0, rfl⟩ := okWide_slice Try.underlying22 (hval 0 22 v0 rfl rfl)
  have k0 := h0
  have lt0 : ∀ x ∈ p0, x.block < W.heap.size := by obtain ⟨m, hm⟩ := k0; exact DataW.trod_lt m _ _ _ hm
  obtain ⟨z0, w0⟩ : ∃ zs, Kit.IsRow .i64 W a0 len0 cap0 zs := Kit.row_open Try.underlying22 Try.underlying3 (by kernel_rfl) h0
  obtain ⟨a1, len1, cap1, rfl⟩ := okWide_slice Try.underlying22 (hval 1 22 v1 rfl rfl)
  have k1 := h1
  have lt1 : ∀ x ∈ p1, x.block < W.heap.size := by obtain ⟨m, hm⟩ := k1; exact DataW.trod_lt m _ _ _ hm
  obtain ⟨z1, w1⟩ : ∃ zs, Kit.IsRow .i64 W a1 len1 cap1 zs := Kit.row_open Try.underlying22 Try.underlying3 (by kernel_rfl) h1
  obtain ⟨a2, rfl, rfl, rfl, w2⟩ := open_int Try.underlying3 (hval 2 3 v2 rfl rfl) h2
  clear hA0
  refine (walk W a0 len0 cap0 z0 w0 a1 len1 cap1 z1 w1 a2 w2).mono fun e W' ⟨he, bel⟩ => ?_
  subst he
  exact ⟨_, rfl, _, _, _, [], _, [], hW', trodAll_mk1 (shut_bool Try.underlying4 _), (trodAll_cons_mk (Below.trod laidOut (by kernel_rfl) (of_decide_eq_true (by kernel_rfl)) k0 bel lt0) (trodAll_cons_mk (Below.trod laidOut (by kernel_rfl) (of_decide_eq_true (by kernel_rfl)) k1 bel lt1) (trodAll_cons_mk (shut_int Try.underlying3 w2) trodAll_mk0))), rfl, bel.frame _, fun h => by cases h⟩

noncomputable def laidWorld (os : Os) : World := World.holding Try.prog os ⟨#[], #[], []⟩
theorem reads (os : Os) {H : Type} (enc : TypeId × Value → H) : ∃ places, DataW.whole enc Try.prog ((laidWorld os).forCall (fun _ _ => 0) ⟨#[], #[.slice none 0 0, .slice none 0 0, .int .i64 0], []⟩).memory Try.f5.params.toList Rows.fnExactIsFoundSpec.vars false (#[.slice none 0 0, .slice none 0 0, .int .i64 0] : Array Value).toList 8 = some ([.nil, .nil, .lit (.int .i64 0)], [], places) :=
  ⟨[], by kernel_rfl⟩

set_option maxRecDepth 100000 in
theorem lifted (os : Os) (started : os.Started) (H : Type) (enc : TypeId × Value → H) (F : Stop.Interp) :
    ReturnsInHanded {} Try.checked os 5 .any ((OpenSpec.ofChange Rows.fnExactIsFoundSpec).preRow enc Try.prog Try.f5 Rows.fnExactIsFoundRow.domain false Rows.fnExactIsFoundRow.laid) (((OpenSpec.ofChange Rows.fnExactIsFoundSpec).at F).post enc Try.prog Try.f5 false true false false) := by
  obtain ⟨places, hx⟩ := reads os enc
  refine returnsInHanded_of_row (C := Try.checked) (s := (OpenSpec.ofChange Rows.fnExactIsFoundSpec)) own started (by kernel_rfl) Try.func5
    (witness_row_at (enc := enc) (C := Try.checked) false (laidWorld os) #[.slice none 0 0, .slice none 0 0, .int .i64 0] rfl (by kernel_rfl) (by kernel_rfl) (by kernel_rfl)
      (OpenSpec.preRow_of_cond 8 hx (by kernel_rfl) (fun k hk => by cases hk) (by kernel_rfl) (laidMetH_nil _ _))) ?_
  intro W base args ds gs before hval hW _ _ _ _ _ _
  exact contract H enc W base args ds gs before hval hW

set_option maxRecDepth 100000 in
theorem said : Rows.FnExactIsFoundSaid :=
  OpenClaim.holds_of_cond 5 Try.f5 rfl rfl rfl rfl rfl rfl rfl ⟨rfl, rfl, rfl, rfl, rfl⟩ rfl rfl rfl rfl rfl (by kernel_rfl) Try.func5 (by kernel_rfl)
    (of_decide_eq_true (by kernel_rfl)) (by unfold Func.isWrapper; first | (rw [if_pos (by decide +kernel)]; kernel_rfl) | (rw [if_neg (by decide +kernel)]; exact ⟨rfl, rfl⟩))
    (fun os started H enc _ F => by rw [OpenClaim.pre_eq_preRow]; exact lifted os started H enc F)

theorem proved : Rows.FnExactIsFoundSaid := said
#print axioms proved
end Go.Proofs.Ytbgbnbnfmlpemaa.fnExactIsFound

/- The law FnExactCross: the program's Cross answers as its model, for every argument; it writes into no argument, and its answer owns its memory. No condition. -/
import Derived.Test.YtbgbnbnfmlpemaaRows
import Derived.Test.YtbgbnbnfmlpemaaLawsI
import Derived.Test.YtbgbnbnfmlpemaaCros
import Derived.Test.YtbgbnbnfmlpemaaRowE
import Derived.WalkKit
import Derived.ProofKit
import Derived.OpenShut
import Derived.ShutString
import Derived.ChangeOld
import Derived.Below
import Derived.Deep.DeepHandedRow
import Derived.Deep.DeepWitnessRowRef
import Derived.Lib.LaidTab
namespace Go.Proofs.Ytbgbnbnfmlpemaa.fnExactCross
open Go.ChangeShapes Go.WideShapes Go.ChangeAt Go.RowKit
open Go.ChangeMaps (open_string shut_string)
set_option linter.unusedVariables false

theorem own : ownKnob Try.prog.godebug = none := by kernel_rfl
theorem laidOut : laidOutB Try.prog = true := by kernel_rfl

open Kit Rw
set_option maxRecDepth 100000 in
set_option maxHeartbeats 4000000 in
theorem walk (w : World) (aA_a : Option Addr) (aA_len aA_cap : Nat) (aA_z : List Int) (aA_h : Kit.IsRow .i64 w aA_a aA_len aA_cap aA_z) (aB_a : Option Addr) (aB_len aB_cap : Nat) (aB_z : List Int) (aB_h : Kit.IsRow .i64 w aB_a aB_len aB_cap aB_z) :
    Calls Try.prog 9 #[.slice aA_a aA_len aA_cap, .slice aB_a aB_len aB_cap] w fun e w' => e = .returned (.bool true) ∧ Below w.heap.size w w' := by
  have aA_g := Lib.hid aA_h; clear aA_h
  obtain ⟨aA_L, aA_e, aA_s0⟩ := IsRow.sees aA_g.out
  have aA_S := Lib.hid aA_s0; have aA_len0 := aA_s0.len; subst aA_e; clear aA_s0 aA_g
  have aB_g := Lib.hid aB_h; clear aB_h
  obtain ⟨aB_L, aB_e, aB_s0⟩ := IsRow.sees aB_g.out
  have aB_S := Lib.hid aB_s0; have aB_len0 := aB_s0.len; subst aB_e; clear aB_s0 aB_g
  by_cases aA_l : aA_L.length ≤ 1048576
  rotate_left
  ·
    have HB0 : Hid (Below w.heap.size w w) := Below.refl _ _
    go_enter Try.func9, Try.ntmps9
    go_wp2
    go_ret
    exact ⟨rfl, by have := HB0.out; exact this⟩
  by_cases aB_l : aB_L.length ≤ 1048576
  rotate_left
  ·
    have HB0 : Hid (Below w.heap.size w w) := Below.refl _ _
    go_enter Try.func9, Try.ntmps9
    go_wp2
    go_ret
    exact ⟨rfl, by have := HB0.out; exact this⟩
  have HB0 : Hid (Below w.heap.size w w) := Below.refl _ _
  go_enter Try.func9, Try.ntmps9
  go_wp2_with fail
  refine (LawsI.to_any w (.slice aA_a aA_L.length aA_cap) aA_L (aA_S.out.below HB0.out) (by have h9 := Cros.cross_len aA_L aB_L; (try simp only [LawsI.marksI_len]); omega)).mono ?_
  rintro e w1 ⟨u1, rfl, ho, hg⟩
  have Ou1 := Lib.hid (ho.lower HB0.out.size)
  have HB1 := Lib.hid (HB0.out.grown hg HB0.out.size (fun _ h => by cases h)); clear HB0
  clear ho hg
  go_wp2_with fail
  refine (LawsI.to_any w1 (.slice aB_a aB_L.length aB_cap) aB_L (aB_S.out.below HB1.out) (by have h9 := Cros.cross_len aA_L aB_L; (try simp only [LawsI.marksI_len]); omega)).mono ?_
  rintro e w2 ⟨u2, rfl, ho, hg⟩
  have A_u2_u1 := Lib.hid (Rg.apart_lt ho.lt Ou1.out.lt (Nat.le_refl _))
  have Ou2 := Lib.hid (ho.lower HB1.out.size)
  have HB2 := Lib.hid (HB1.out.grown hg HB1.out.size (fun _ h => by cases h)); clear HB1
  have Ou1 := Lib.hid (Ou1.out.grown hg)
  clear ho hg
  go_wp2_with fail
  refine (Cros.sCross_any w2 _ _ aA_L aB_L (Ou1.out.sees) (Ou2.out.sees) (by have h9 := Cros.cross_len aA_L aB_L; (try simp only [LawsI.marksI_len]); omega)).mono ?_
  rintro e w3 ⟨u3, rfl, ho, hg⟩
  have A_u3_u1 := Lib.hid (Rg.apart_lt ho.lt Ou1.out.lt (Nat.le_refl _))
  have A_u3_u2 := Lib.hid (Rg.apart_lt ho.lt Ou2.out.lt (Nat.le_refl _))
  have Ou3 := Lib.hid (ho.lower HB2.out.size)
  have HB3 := Lib.hid (HB2.out.grown hg HB2.out.size (fun _ h => by cases h)); clear HB2
  have Ou1 := Lib.hid (Ou1.out.grown hg)
  have Ou2 := Lib.hid (Ou2.out.grown hg)
  clear ho hg
  clear Ou1
  clear Ou2
  go_wp2_with fail
  refine (LawsI.to_any w3 (.slice aA_a aA_L.length aA_cap) aA_L (aA_S.out.below HB3.out) (by have h9 := Cros.cross_len aA_L aB_L; (try simp only [LawsI.marksI_len]); omega)).mono ?_
  rintro e w4 ⟨u4, rfl, ho, hg⟩
  have A_u4_u3 := Lib.hid (Rg.apart_lt ho.lt Ou3.out.lt (Nat.le_refl _))
  have Ou4 := Lib.hid (ho.lower HB3.out.size)
  have HB4 := Lib.hid (HB3.out.grown hg HB3.out.size (fun _ h => by cases h)); clear HB3
  have Ou3 := Lib.hid (Ou3.out.grown hg)
  clear ho hg
  go_wp2_with fail
  refine (LawsI.to_any w4 (.slice aB_a aB_L.length aB_cap) aB_L (aB_S.out.below HB4.out) (by have h9 := Cros.cross_len aA_L aB_L; (try simp only [LawsI.marksI_len]); omega)).mono ?_
  rintro e w5 ⟨u5, rfl, ho, hg⟩
  have A_u5_u3 := Lib.hid (Rg.apart_lt ho.lt Ou3.out.lt (Nat.le_refl _))
  have A_u5_u4 := Lib.hid (Rg.apart_lt ho.lt Ou4.out.lt (Nat.le_refl _))
  have Ou5 := Lib.hid (ho.lower HB4.out.size)
  have HB5 := Lib.hid (HB4.out.grown hg HB4.out.size (fun _ h => by cases h)); clear HB4
  have Ou3 := Lib.hid (Ou3.out.grown hg)
  have Ou4 := Lib.hid (Ou4.out.grown hg)
  clear ho hg
  go_wp2_with fail
  refine (Cros.iCross_any w5 _ _ aA_L aB_L (Ou4.out.sees) (Ou5.out.sees) (by have h9 := Cros.cross_len aA_L aB_L; (try simp only [LawsI.marksI_len]); omega) (by have h9 := Cros.cross_len aA_L aB_L; (try simp only [LawsI.marksI_len]); omega)).mono ?_
  rintro e w6 ⟨u6, rfl, ho, hg⟩
  have A_u6_u3 := Lib.hid (Rg.apart_lt ho.lt Ou3.out.lt (Nat.le_refl _))
  have A_u6_u4 := Lib.hid (Rg.apart_lt ho.lt Ou4.out.lt (Nat.le_refl _))
  have A_u6_u5 := Lib.hid (Rg.apart_lt ho.lt Ou5.out.lt (Nat.le_refl _))
  have Ou6 := Lib.hid (ho.lower HB5.out.size)
  have HB6 := Lib.hid (HB5.out.grown hg HB5.out.size (fun _ h => by cases h)); clear HB5
  have Ou3 := Lib.hid (Ou3.out.grown hg)
  have Ou4 := Lib.hid (Ou4.out.grown hg)
  have Ou5 := Lib.hid (Ou5.out.grown hg)
  clear ho hg
  go_wp2_with fail
  refine (LawsI.eq_same w6 (u6) (u3) (Cros.crossOf aA_L aB_L) (Ou6.out.sees) (Ou3.out.sees)).mono ?_
  rintro e w7 ⟨rfl, hg⟩
  have HB7 := Lib.hid (HB6.out.grown hg HB6.out.size (fun _ h => by cases h)); clear HB6
  have Ou3 := Lib.hid (Ou3.out.grown hg)
  have Ou4 := Lib.hid (Ou4.out.grown hg)
  have Ou5 := Lib.hid (Ou5.out.grown hg)
  have Ou6 := Lib.hid (Ou6.out.grown hg)
  clear hg
  go_wp2_with fail
  refine (LawsI.to_any w7 (.slice aA_a aA_L.length aA_cap) aA_L (aA_S.out.below HB7.out) (by have h9 := Cros.cross_len aA_L aB_L; (try simp only [LawsI.marksI_len]); omega)).mono ?_
  rintro e w8 ⟨u7, rfl, ho, hg⟩
  have A_u7_u3 := Lib.hid (Rg.apart_lt ho.lt Ou3.out.lt (Nat.le_refl _))
  have A_u7_u4 := Lib.hid (Rg.apart_lt ho.lt Ou4.out.lt (Nat.le_refl _))
  have A_u7_u5 := Lib.hid (Rg.apart_lt ho.lt Ou5.out.lt (Nat.le_refl _))
  have A_u7_u6 := Lib.hid (Rg.apart_lt ho.lt Ou6.out.lt (Nat.le_refl _))
  have Ou7 := Lib.hid (ho.lower HB7.out.size)
  have HB8 := Lib.hid (HB7.out.grown hg HB7.out.size (fun _ h => by cases h)); clear HB7
  have Ou3 := Lib.hid (Ou3.out.grown hg)
  have Ou4 := Lib.hid (Ou4.out.grown hg)
  have Ou5 := Lib.hid (Ou5.out.grown hg)
  have Ou6 := Lib.hid (Ou6.out.grown hg)
  clear ho hg
  go_wp2_with fail
  refine (LawsI.eq_same w8 (u4) (u7) aA_L (Ou4.out.sees) (Ou7.out.sees)).mono ?_
  rintro e w9 ⟨rfl, hg⟩
  have HB9 := Lib.hid (HB8.out.grown hg HB8.out.size (fun _ h => by cases h)); clear HB8
  have Ou3 := Lib.hid (Ou3.out.grown hg)
  have Ou4 := Lib.hid (Ou4.out.grown hg)
  have Ou5 := Lib.hid (Ou5.out.grown hg)
  have Ou6 := Lib.hid (Ou6.out.grown hg)
  have Ou7 := Lib.hid (Ou7.out.grown hg)
  clear hg
  clear Ou7
  go_wp2_with fail
  refine (LawsI.to_any w9 (.slice aB_a aB_L.length aB_cap) aB_L (aB_S.out.below HB9.out) (by have h9 := Cros.cross_len aA_L aB_L; (try simp only [LawsI.marksI_len]); omega)).mono ?_
  rintro e w10 ⟨u8, rfl, ho, hg⟩
  have A_u8_u3 := Lib.hid (Rg.apart_lt ho.lt Ou3.out.lt (Nat.le_refl _))
  have A_u8_u4 := Lib.hid (Rg.apart_lt ho.lt Ou4.out.lt (Nat.le_refl _))
  have A_u8_u5 := Lib.hid (Rg.apart_lt ho.lt Ou5.out.lt (Nat.le_refl _))
  have A_u8_u6 := Lib.hid (Rg.apart_lt ho.lt Ou6.out.lt (Nat.le_refl _))
  have Ou8 := Lib.hid (ho.lower HB9.out.size)
  have HB10 := Lib.hid (HB9.out.grown hg HB9.out.size (fun _ h => by cases h)); clear HB9
  have Ou3 := Lib.hid (Ou3.out.grown hg)
  have Ou4 := Lib.hid (Ou4.out.grown hg)
  have Ou5 := Lib.hid (Ou5.out.grown hg)
  have Ou6 := Lib.hid (Ou6.out.grown hg)
  clear ho hg
  go_wp2_with fail
  refine (LawsI.eq_same w10 (u5) (u8) aB_L (Ou5.out.sees) (Ou8.out.sees)).mono ?_
  rintro e w11 ⟨rfl, hg⟩
  have HB11 := Lib.hid (HB10.out.grown hg HB10.out.size (fun _ h => by cases h)); clear HB10
  have Ou3 := Lib.hid (Ou3.out.grown hg)
  have Ou4 := Lib.hid (Ou4.out.grown hg)
  have Ou5 := Lib.hid (Ou5.out.grown hg)
  have Ou6 := Lib.hid (Ou6.out.grown hg)
  have Ou8 := Lib.hid (Ou8.out.grown hg)
  clear hg
  clear Ou8
  go_wp2_with fail
  refine (LawsI.mark_any w11 w.heap.size (u4) aA_L (1) Ou4.out (by have h9 := Cros.cross_len aA_L aB_L; (try simp only [LawsI.marksI_len]); omega)).mono ?_
  rintro e w12 ⟨rfl, ho, hg⟩
  have HB12 := Lib.hid (HB11.out.grown hg HB11.out.size (fun c hc => (Ou4.out.lt c hc).1)); clear HB11
  have Ou3 := Lib.hid (Ou3.out.kept hg (A_u4_u3.out.2))
  have Ou5 := Lib.hid (Ou5.out.kept hg (A_u5_u4.out.1))
  have Ou6 := Lib.hid (Ou6.out.kept hg (A_u6_u4.out.1))
  have Ou4 := Lib.hid ho; clear ho hg
  go_wp2_with fail
  refine (LawsI.mark_any w12 w.heap.size (u5) aB_L (1 + (aA_L).length) Ou5.out (by have h9 := Cros.cross_len aA_L aB_L; (try simp only [LawsI.marksI_len]); omega)).mono ?_
  rintro e w13 ⟨rfl, ho, hg⟩
  have HB13 := Lib.hid (HB12.out.grown hg HB12.out.size (fun c hc => (Ou5.out.lt c hc).1)); clear HB12
  have Ou3 := Lib.hid (Ou3.out.kept hg (A_u5_u3.out.2))
  have Ou4 := Lib.hid (Ou4.out.kept hg (A_u5_u4.out.2))
  have Ou6 := Lib.hid (Ou6.out.kept hg (A_u6_u5.out.1))
  have Ou5 := Lib.hid ho; clear ho hg
  go_wp2_with fail
  refine (LawsI.eq_same w13 (u6) (u3) (Cros.crossOf aA_L aB_L) (Ou6.out.sees) (Ou3.out.sees)).mono ?_
  rintro e w14 ⟨rfl, hg⟩
  have HB14 := Lib.hid (HB13.out.grown hg HB13.out.size (fun _ h => by cases h)); clear HB13
  have Ou3 := Lib.hid (Ou3.out.grown hg)
  have Ou4 := Lib.hid (Ou4.out.grown hg)
  have Ou5 := Lib.hid (Ou5.out.grown hg)
  have Ou6 := Lib.hid (Ou6.out.grown hg)
  clear hg
  clear Ou4
  clear Ou5
  go_wp2_with fail
  refine (LawsI.mark_any w14 w.heap.size (u6) (Cros.crossOf aA_L aB_L) (1) Ou6.out (by have h9 := Cros.cross_len aA_L aB_L; (try simp only [LawsI.marksI_len]); omega)).mono ?_
  rintro e w15 ⟨rfl, ho, hg⟩
  have HB15 := Lib.hid (HB14.out.grown hg HB14.out.size (fun c hc => (Ou6.out.lt c hc).1)); clear HB14
  have Ou3 := Lib.hid (Ou3.out.kept hg (A_u6_u3.out.2))
  have Ou6 := Lib.hid ho; clear ho hg
  go_wp2_with fail
  refine (LawsI.held_any w15 (u6) (1) ((Cros.crossOf aA_L aB_L)).length (Ou6.out.sees) (by have h9 := Cros.cross_len aA_L aB_L; (try simp only [LawsI.marksI_len]); omega)).mono ?_
  rintro e w16 ⟨rfl, hg⟩
  have HB16 := Lib.hid (HB15.out.grown hg HB15.out.size (fun _ h => by cases h)); clear HB15
  have Ou3 := Lib.hid (Ou3.out.grown hg)
  have Ou6 := Lib.hid (Ou6.out.grown hg)
  clear hg
  go_wp2_with fail
  refine (LawsI.to_any w16 (.slice aA_a aA_L.length aA_cap) aA_L (aA_S.out.below HB16.out) (by have h9 := Cros.cross_len aA_L aB_L; (try simp only [LawsI.marksI_len]); omega)).mono ?_
  rintro e w17 ⟨u9, rfl, ho, hg⟩
  have A_u9_u3 := Lib.hid (Rg.apart_lt ho.lt Ou3.out.lt (Nat.le_refl _))
  have A_u9_u6 := Lib.hid (Rg.apart_lt ho.lt Ou6.out.lt (Nat.le_refl _))
  have Ou9 := Lib.hid (ho.lower HB16.out.size)
  have HB17 := Lib.hid (HB16.out.grown hg HB16.out.size (fun _ h => by cases h)); clear HB16
  have Ou3 := Lib.hid (Ou3.out.grown hg)
  have Ou6 := Lib.hid (Ou6.out.grown hg)
  clear ho hg
  go_wp2_with fail
  refine (LawsI.to_any w17 (.slice aB_a aB_L.length aB_cap) aB_L (aB_S.out.below HB17.out) (by have h9 := Cros.cross_len aA_L aB_L; (try simp only [LawsI.marksI_len]); omega)).mono ?_
  rintro e w18 ⟨u10, rfl, ho, hg⟩
  have A_u10_u3 := Lib.hid (Rg.apart_lt ho.lt Ou3.out.lt (Nat.le_refl _))
  have A_u10_u6 := Lib.hid (Rg.apart_lt ho.lt Ou6.out.lt (Nat.le_refl _))
  have A_u10_u9 := Lib.hid (Rg.apart_lt ho.lt Ou9.out.lt (Nat.le_refl _))
  have Ou10 := Lib.hid (ho.lower HB17.out.size)
  have HB18 := Lib.hid (HB17.out.grown hg HB17.out.size (fun _ h => by cases h)); clear HB17
  have Ou3 := Lib.hid (Ou3.out.grown hg)
  have Ou6 := Lib.hid (Ou6.out.grown hg)
  have Ou9 := Lib.hid (Ou9.out.grown hg)
  clear ho hg
  go_wp2_with fail
  refine (Cros.iCross_any w18 _ _ aA_L aB_L (Ou9.out.sees) (Ou10.out.sees) (by have h9 := Cros.cross_len aA_L aB_L; (try simp only [LawsI.marksI_len]); omega) (by have h9 := Cros.cross_len aA_L aB_L; (try simp only [LawsI.marksI_len]); omega)).mono ?_
  rintro e w19 ⟨u11, rfl, ho, hg⟩
  have A_u11_u3 := Lib.hid (Rg.apart_lt ho.lt Ou3.out.lt (Nat.le_refl _))
  have A_u11_u6 := Lib.hid (Rg.apart_lt ho.lt Ou6.out.lt (Nat.le_refl _))
  have A_u11_u9 := Lib.hid (Rg.apart_lt ho.lt Ou9.out.lt (Nat.le_refl _))
  have A_u11_u10 := Lib.hid (Rg.apart_lt ho.lt Ou10.out.lt (Nat.le_refl _))
  have Ou11 := Lib.hid (ho.lower HB18.out.size)
  have HB19 := Lib.hid (HB18.out.grown hg HB18.out.size (fun _ h => by cases h)); clear HB18
  have Ou3 := Lib.hid (Ou3.out.grown hg)
  have Ou6 := Lib.hid (Ou6.out.grown hg)
  have Ou9 := Lib.hid (Ou9.out.grown hg)
  have Ou10 := Lib.hid (Ou10.out.grown hg)
  clear ho hg
  clear Ou9
  clear Ou10
  go_wp2_with fail
  refine (LawsI.eq_same w19 (u11) (u3) (Cros.crossOf aA_L aB_L) (Ou11.out.sees) (Ou3.out.sees)).mono ?_
  rintro e w20 ⟨rfl, hg⟩
  have HB20 := Lib.hid (HB19.out.grown hg HB19.out.size (fun _ h => by cases h)); clear HB19
  have Ou3 := Lib.hid (Ou3.out.grown hg)
  have Ou6 := Lib.hid (Ou6.out.grown hg)
  have Ou11 := Lib.hid (Ou11.out.grown hg)
  clear hg
  clear Ou3
  clear Ou11
  go_wp2_with fail
  refine (LawsI.held_any w20 (u6) (1) ((Cros.crossOf aA_L aB_L)).length (Ou6.out.sees) (by have h9 := Cros.cross_len aA_L aB_L; (try simp only [LawsI.marksI_len]); omega)).mono ?_
  rintro e w21 ⟨rfl, hg⟩
  have HB21 := Lib.hid (HB20.out.grown hg HB20.out.size (fun _ h => by cases h)); clear HB20
  have Ou6 := Lib.hid (Ou6.out.grown hg)
  clear hg
  clear Ou6
  go_wp2
  go_ret
  exact ⟨rfl, HB21.out⟩

set_option maxRecDepth 100000 in
/-- What the walk gives, for every argument. -/
theorem contract (H : Type) (enc : TypeId × Value → H) (W : World) (base : Nat) (args : Array Value) (ds gs : List (DataW H)) (before : List MemPlace)
    (hval : ∀ (j : Nat) t v, Try.f9.params[j]? = some t → args[j]? = some v → Value.okWide Try.prog W .any base t v)
    (hW : DataW.Whole enc Try.prog Try.f9.params.toList Rows.fnExactCrossSpec.vars false W args.toList ds gs before) :
    Calls Try.prog 9 args W fun e W' => ∃ v, e = .returned v ∧ Rows.fnExactCrossSpec.post enc Try.prog Try.f9 false true false false W args v W' := by
  have hW' := hW
  obtain ⟨p, q, hA0, hV, rfl, hfz, hnd⟩ := hW
  have hA : DataW.TrodAll enc Try.prog W 0 (fun _ => true) true Try.f9.params.toList args.toList ds p := hA0
  rw [Try.params9] at hA hval
  obtain ⟨v0, vs0, d0, ds0, p0, q0, hargs, rfl, rfl, h0, r0⟩ := trodAll_cons hA
  obtain ⟨v1, vs1, d1, ds1, p1, q1, rfl, rfl, rfl, h1, r1⟩ := trodAll_cons r0
  obtain ⟨rfl, rfl, rfl⟩ := trodAll_nil r1
  obtain rfl : args = #[v0, v1] := by cases args; simp_all
  obtain ⟨rfl, rfl⟩ := trodVars_none hV
  obtain ⟨a0, len0, cap0, rfl⟩ := okWide_slice Try.underlying22 (hval 0 22 v0 rfl rfl)
  have k0 := h0
  have lt0 : ∀ x ∈ p0, x.block < W.heap.size := by obtain ⟨m, hm⟩ := k0; exact DataW.trod_lt m _ _ _ hm
  obtain ⟨z0, w0⟩ : ∃ zs, Kit.IsRow .i64 W a0 len0 cap0 zs := Kit.row_open Try.underlying22 Try.underlying3 (by kernel_rfl) h0
  obtain ⟨a1, len1, cap1, rfl⟩ := okWide_slice Try.underlying22 (hval 1 22 v1 rfl rfl)
  have k1 := h1
  have lt1 : ∀ x ∈ p1, x.block < W.heap.size := by obtain ⟨m, hm⟩ := k1; exact DataW.trod_lt m _ _ _ hm
  obtain ⟨z1, w1⟩ : ∃ zs, Kit.IsRow .i64 W a1 len1 cap1 zs := Kit.row_open Try.underlying22 Try.underlying3 (by kernel_rfl) h1
  clear hA0
  refine (walk W a0 len0 cap0 z0 w0 a1 len1 cap1 z1 w1).mono fun e W' ⟨he, bel⟩ => ?_
  subst he
  exact ⟨_, rfl, _, _, _, [], _, [], hW', trodAll_mk1 (shut_bool Try.underlying4 _), (trodAll_cons_mk (Below.trod laidOut (by kernel_rfl) (of_decide_eq_true (by kernel_rfl)) k0 bel lt0) (trodAll_cons_mk (Below.trod laidOut (by kernel_rfl) (of_decide_eq_true (by kernel_rfl)) k1 bel lt1) trodAll_mk0)), rfl, bel.frame _, fun h => by cases h⟩

noncomputable def laidWorld (os : Os) : World := World.holding Try.prog os ⟨#[], #[], []⟩
theorem reads (os : Os) {H : Type} (enc : TypeId × Value → H) : ∃ places, DataW.whole enc Try.prog ((laidWorld os).forCall (fun _ _ => 0) ⟨#[], #[.slice none 0 0, .slice none 0 0], []⟩).memory Try.f9.params.toList Rows.fnExactCrossSpec.vars false (#[.slice none 0 0, .slice none 0 0] : Array Value).toList 8 = some ([.nil, .nil], [], places) :=
  ⟨[], by kernel_rfl⟩

set_option maxRecDepth 100000 in
theorem lifted (os : Os) (started : os.Started) (H : Type) (enc : TypeId × Value → H) (F : Stop.Interp) :
    ReturnsInHanded {} Try.checked os 9 .any ((OpenSpec.ofChange Rows.fnExactCrossSpec).preRow enc Try.prog Try.f9 Rows.fnExactCrossRow.domain false Rows.fnExactCrossRow.laid) (((OpenSpec.ofChange Rows.fnExactCrossSpec).at F).post enc Try.prog Try.f9 false true false false) := by
  obtain ⟨places, hx⟩ := reads os enc
  refine returnsInHanded_of_row (C := Try.checked) (s := (OpenSpec.ofChange Rows.fnExactCrossSpec)) own started (by kernel_rfl) Try.func9
    (witness_row_at (enc := enc) (C := Try.checked) false (laidWorld os) #[.slice none 0 0, .slice none 0 0] rfl (by kernel_rfl) (by kernel_rfl) (by kernel_rfl)
      (OpenSpec.preRow_of_cond 8 hx (by kernel_rfl) (fun k hk => by cases hk) (by kernel_rfl) (laidMetH_nil _ _))) ?_
  intro W base args ds gs before hval hW _ _ _ _ _ _
  exact contract H enc W base args ds gs before hval hW

set_option maxRecDepth 100000 in
theorem said : Rows.FnExactCrossSaid :=
  OpenClaim.holds_of_cond 9 Try.f9 rfl rfl rfl rfl rfl rfl rfl ⟨rfl, rfl, rfl, rfl, rfl⟩ rfl rfl rfl rfl rfl (by kernel_rfl) Try.func9 (by kernel_rfl)
    (of_decide_eq_true (by kernel_rfl)) (by unfold Func.isWrapper; first | (rw [if_pos (by decide +kernel)]; kernel_rfl) | (rw [if_neg (by decide +kernel)]; exact ⟨rfl, rfl⟩))
    (fun os started H enc _ F => by rw [OpenClaim.pre_eq_preRow]; exact lifted os started H enc F)

theorem proved : Rows.FnExactCrossSaid := said
#print axioms proved
end Go.Proofs.Ytbgbnbnfmlpemaa.fnExactCross

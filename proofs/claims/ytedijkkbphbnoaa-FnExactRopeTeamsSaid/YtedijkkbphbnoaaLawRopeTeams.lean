/- The law RopeTeams: the program's RopeTeams answers as its model, for every argument; it writes into no argument, and its answer owns its memory, each rope and the row of them. No condition. -/
import Derived.Test.YtedijkkbphbnoaaRows
import Derived.Test.YtedijkkbphbnoaaRowE
import Derived.Test.YtedijkkbphbnoaaLawsM
import Derived.Test.YtedijkkbphbnoaaSzM
import Derived.Test.YtedijkkbphbnoaaTeams
import Derived.WalkKit
import Derived.ProofKit
import Derived.OpenShut
import Derived.ShutString
import Derived.ChangeOld
import Derived.Below
import Derived.Deep.DeepHandedRow
import Derived.Deep.DeepWitnessRowRef
import Derived.Lib.LaidTab
namespace Go.Proofs.Ytedijkkbphbnoaa.fnExactRopeTeams
open Go.ChangeShapes Go.WideShapes Go.ChangeAt Go.RowKit
open Go.ChangeMaps (open_string shut_string)
set_option linter.unusedVariables false

theorem own : ownKnob Try.prog.godebug = none := by kernel_rfl
theorem laidOut : laidOutB Try.prog = true := by kernel_rfl

open Kit Rw
set_option maxRecDepth 100000 in
set_option maxHeartbeats 4000000 in
theorem walk (w : World) (aL_a : Option Addr) (aL_len aL_cap : Nat) (aL_L : List Rg.Mem) (aL_h : aL_L.length = aL_len ∧ Rg.SeesG Rg.encM w (.slice aL_a aL_len aL_cap) aL_L) :
    Calls Try.prog 3 #[.slice aL_a aL_len aL_cap] w fun e w' => e = .returned (.bool true) ∧ Below w.heap.size w w' := by
  obtain ⟨aL_e, aL_s0⟩ := aL_h; have aL_S := Lib.hid aL_s0; have aL_len0 := aL_s0.len; subst aL_e; clear aL_s0
  by_cases aL_l : (aL_L.length : Int) ≤ (1048576 : Int)
  rotate_left
  ·
    have HB0 : Hid (Below w.heap.size w w) := Below.refl _ _
    go_enter Try.func3, Try.ntmps3
    go_wp2_with fail
    refine (LawsM.szM_no w _ _ (1048576 : Int) (aL_S.out.below HB0.out) (by omega) (by omega) (by omega)).mono ?_
    rintro e w1 ⟨rfl, hg⟩
    have HB1 := Lib.hid (HB0.out.grown hg HB0.out.size (fun _ h => by cases h)); clear HB0
    clear hg
    go_wp2
    go_ret
    exact ⟨rfl, HB1.out⟩
  obtain ⟨T, hT⟩ : ∃ T, T = Rop.teamsOf aL_L := ⟨_, rfl⟩
  have htot : Rop.tot T ≤ 8 := by rw [hT]; exact Rop.tot_teamsOf aL_L
  obtain ⟨tt, htt⟩ : ∃ tt, tt = Rop.tot T := ⟨_, rfl⟩
  rw [← htt] at htot
  have hkn : ¬ ((1 + tt : Nat) : Int) < 0 := by omega
  have hne : (((1 + tt : Nat) : Int) != ((1 + tt : Nat) : Int)) = false := by simp
  have HTT := Lib.hid htt; have HTE := Lib.hid hT; clear htt hT
  have HB0 : Hid (Below w.heap.size w w) := Below.refl _ _
  go_enter Try.func3, Try.ntmps3
  go_wp2_with fail
  refine (LawsM.szM_yes w _ _ (1048576 : Int) (aL_S.out.below HB0.out) (by omega) (by omega) (by omega)).mono ?_
  rintro e w1 ⟨rfl, hg⟩
  have HB1 := Lib.hid (HB0.out.grown hg HB0.out.size (fun _ h => by cases h)); clear HB0
  clear hg
  go_wp2_with fail
  refine (LawsM.to_any w1 (.slice aL_a aL_L.length aL_cap) aL_L (aL_S.out.below HB1.out) (by omega)).mono ?_
  rintro e w2 ⟨u1, rfl, ho, hg⟩
  have Ou1 := Lib.hid (ho.lower HB1.out.size)
  have HB2 := Lib.hid (HB1.out.grown hg HB1.out.size (fun _ h => by cases h)); clear HB1
  clear ho hg
  go_wp2_with fail
  refine (Rop.sTeamsS w2 _ aL_L (Ou1.out.sees) (by omega)).mono ?_
  rintro e w3 ⟨r2, rfl, V2, hs, hg⟩
  rw [← HTE.out] at hs
  have S2 := Lib.hid hs
  have HB3 := Lib.hid (HB2.out.grown hg HB2.out.size (fun _ h => by cases h)); clear HB2
  have Ou1 := Lib.hid (Ou1.out.grown hg)
  clear hs hg
  clear Ou1
  have HC : Hid (Below w3.heap.size w3 w3) := Below.refl _ _
  have LW3 : Hid (w.heap.size ≤ w3.heap.size) := HB3.out.size
  go_wp2_with fail
  refine (LawsM.to_any w3 (.slice aL_a aL_L.length aL_cap) aL_L (aL_S.out.below HB3.out) (by omega)).mono ?_
  rintro e w4 ⟨u3, rfl, ho, hg⟩
  have LB4 : Hid (w3.heap.size ≤ w4.heap.size) := hg.size
  have Lu3 := Lib.hid ho.lt
  have Ou3 := Lib.hid (ho.lower HB3.out.size)
  have HB4 := Lib.hid (HB3.out.grown hg HB3.out.size (fun _ h => by cases h)); clear HB3
  have HC := Lib.hid (HC.out.grown hg HC.out.size (fun _ h => by cases h))
  clear ho hg
  go_wp2_with fail
  refine (Rop.iTeamsS w4 _ aL_L (Ou3.out.sees) (by omega)).mono ?_
  rintro e w5 ⟨r4, rfl, V4, hs, hg⟩
  rw [← HTE.out] at hs
  have S4 := Lib.hid hs
  have HB5 := Lib.hid (HB4.out.grown hg HB4.out.size (fun _ h => by cases h)); clear HB4
  have HC := Lib.hid (HC.out.grown hg HC.out.size (fun _ h => by cases h))
  have Ou3 := Lib.hid (Ou3.out.grown hg)
  clear hs hg
  go_wp2_with fail
  refine (Rop.eqSS w5 _ _ _ _ _ _ T S4.out (S2.out.under HC.out (Nat.le_refl _))).mono ?_
  rintro e w6 ⟨rfl, hg⟩
  have HB6 := Lib.hid (HB5.out.grown hg HB5.out.size (fun _ h => by cases h)); clear HB5
  have HC := Lib.hid (HC.out.grown hg HC.out.size (fun _ h => by cases h))
  have Ou3 := Lib.hid (Ou3.out.grown hg)
  have S4 := Lib.hid (S4.out.grown hg)
  clear hg
  go_wp2_with fail
  refine (LawsM.to_any w6 (.slice aL_a aL_L.length aL_cap) aL_L (aL_S.out.below HB6.out) (by omega)).mono ?_
  rintro e w7 ⟨u5, rfl, ho, hg⟩
  have Ou5 := Lib.hid (ho.lower HB6.out.size)
  have HB7 := Lib.hid (HB6.out.grown hg HB6.out.size (fun _ h => by cases h)); clear HB6
  have HC := Lib.hid (HC.out.grown hg HC.out.size (fun _ h => by cases h))
  have Ou3 := Lib.hid (Ou3.out.grown hg)
  have S4 := Lib.hid (S4.out.grown hg)
  clear ho hg
  go_wp2_with fail
  refine (LawsM.eq_same w7 (u3) (u5) aL_L (Ou3.out.sees) (Ou5.out.sees)).mono ?_
  rintro e w8 ⟨rfl, hg⟩
  have HB8 := Lib.hid (HB7.out.grown hg HB7.out.size (fun _ h => by cases h)); clear HB7
  have HC := Lib.hid (HC.out.grown hg HC.out.size (fun _ h => by cases h))
  have Ou3 := Lib.hid (Ou3.out.grown hg)
  have Ou5 := Lib.hid (Ou5.out.grown hg)
  have S4 := Lib.hid (S4.out.grown hg)
  clear hg
  clear Ou5
  go_wp2_with fail
  refine (LawsM.mark_any w8 w.heap.size (u3) aL_L (1) Ou3.out (by omega)).mono ?_
  rintro e w9 ⟨rfl, ho, hg⟩
  have HB9 := Lib.hid (HB8.out.grown hg HB8.out.size (fun c hc => (Ou3.out.lt c hc).1)); clear HB8
  have HC := Lib.hid (HC.out.grown hg HC.out.size (fun c hc => (Lu3.out c hc).1))
  have S4 := Lib.hid (S4.out.kept hg (fun g e => .inr (Lu3.out g e).2))
  clear ho hg Ou3 Lu3
  go_wp2_with fail
  refine (Rop.eqSS w9 _ _ _ _ _ _ T S4.out (S2.out.under HC.out (Nat.le_refl _))).mono ?_
  rintro e w10 ⟨rfl, hg⟩
  have HB10 := Lib.hid (HB9.out.grown hg HB9.out.size (fun _ h => by cases h)); clear HB9
  have HC := Lib.hid (HC.out.grown hg HC.out.size (fun _ h => by cases h))
  have S4 := Lib.hid (S4.out.grown hg)
  clear hg
  go_wp2_with fail
  refine (Rop.markSS w10 w3.heap.size _ V4 T 1 (S4.out.lower LB4.out) (by rw [← HTT.out]; omega) HC.out.size).mono ?_
  rintro e w11 ⟨rfl, hs, hb⟩
  rw [← HTT.out]
  have HB11 := Lib.hid (Rop.below_trans HB10.out hb LW3.out); clear HB10
  have HC := Lib.hid (Rop.below_trans HC.out hb (Nat.le_refl _))
  have S4 := Lib.hid hs; clear hs hb
  go_wp2_with fail
  refine (Rop.heldSS w11 _ _ V4 T 1 S4.out (by rw [← HTT.out]; omega)).mono ?_
  rintro e w12 ⟨rfl, hg⟩
  rw [← HTT.out]
  have HB12 := Lib.hid (HB11.out.grown hg HB11.out.size (fun _ h => by cases h)); clear HB11
  have HC := Lib.hid (HC.out.grown hg HC.out.size (fun _ h => by cases h))
  have S4 := Lib.hid (S4.out.grown hg)
  clear hg
  go_wp2_with fail
  refine (LawsM.to_any w12 (.slice aL_a aL_L.length aL_cap) aL_L (aL_S.out.below HB12.out) (by omega)).mono ?_
  rintro e w13 ⟨u6, rfl, ho, hg⟩
  have Ou6 := Lib.hid (ho.lower HB12.out.size)
  have HB13 := Lib.hid (HB12.out.grown hg HB12.out.size (fun _ h => by cases h)); clear HB12
  have HC := Lib.hid (HC.out.grown hg HC.out.size (fun _ h => by cases h))
  have S4 := Lib.hid (S4.out.grown hg)
  clear ho hg
  go_wp2_with fail
  refine (Rop.iTeamsS w13 _ aL_L (Ou6.out.sees) (by omega)).mono ?_
  rintro e w14 ⟨r7, rfl, V7, hs, hg⟩
  rw [← HTE.out] at hs
  have S7 := Lib.hid hs
  have HB14 := Lib.hid (HB13.out.grown hg HB13.out.size (fun _ h => by cases h)); clear HB13
  have HC := Lib.hid (HC.out.grown hg HC.out.size (fun _ h => by cases h))
  have Ou6 := Lib.hid (Ou6.out.grown hg)
  have S4 := Lib.hid (S4.out.grown hg)
  clear hs hg
  clear Ou6
  go_wp2_with fail
  refine (Rop.eqSS w14 _ _ _ _ _ _ T S7.out (S2.out.under HC.out (Nat.le_refl _))).mono ?_
  rintro e w15 ⟨rfl, hg⟩
  have HB15 := Lib.hid (HB14.out.grown hg HB14.out.size (fun _ h => by cases h)); clear HB14
  have HC := Lib.hid (HC.out.grown hg HC.out.size (fun _ h => by cases h))
  have S4 := Lib.hid (S4.out.grown hg)
  have S7 := Lib.hid (S7.out.grown hg)
  clear hg
  clear S7 S2 HC
  go_wp2_with fail
  refine (Rop.heldSS w15 _ _ V4 T 1 S4.out (by rw [← HTT.out]; omega)).mono ?_
  rintro e w16 ⟨rfl, hg⟩
  rw [← HTT.out]
  have HB16 := Lib.hid (HB15.out.grown hg HB15.out.size (fun _ h => by cases h)); clear HB15
  have S4 := Lib.hid (S4.out.grown hg)
  clear hg
  go_wp2
  go_ret
  exact ⟨rfl, HB16.out⟩

set_option maxRecDepth 100000 in
/-- What the walk gives, for every argument. -/
theorem contract (H : Type) (enc : TypeId × Value → H) (W : World) (base : Nat) (args : Array Value) (ds gs : List (DataW H)) (before : List MemPlace)
    (hval : ∀ (j : Nat) t v, Try.f3.params[j]? = some t → args[j]? = some v → Value.okWide Try.prog W .any base t v)
    (hW : DataW.Whole enc Try.prog Try.f3.params.toList Rows.fnExactRopeTeamsSpec.vars false W args.toList ds gs before) :
    Calls Try.prog 3 args W fun e W' => ∃ v, e = .returned v ∧ Rows.fnExactRopeTeamsSpec.post enc Try.prog Try.f3 false true false false W args v W' := by
  have hW' := hW
  obtain ⟨p, q, hA0, hV, rfl, hfz, hnd⟩ := hW
  have hA : DataW.TrodAll enc Try.prog W 0 (fun _ => true) true Try.f3.params.toList args.toList ds p := hA0
  rw [Try.params3] at hA hval
  obtain ⟨v0, vs0, d0, ds0, p0, q0, hargs, rfl, rfl, h0, r0⟩ := trodAll_cons hA
  obtain ⟨rfl, rfl, rfl⟩ := trodAll_nil r0
  obtain rfl : args = #[v0] := by cases args; simp_all
  obtain ⟨rfl, rfl⟩ := trodVars_none hV
  obtain ⟨a0, len0, cap0, rfl⟩ := okWide_slice Try.underlying22 (hval 0 22 v0 rfl rfl)
  have k0 := h0
  have lt0 : ∀ x ∈ p0, x.block < W.heap.size := by obtain ⟨m, hm⟩ := k0; exact DataW.trod_lt m _ _ _ hm
  obtain ⟨z0, w0⟩ := Rg.row_openG (e := Rg.encM) Try.underlying22 (by kernel_rfl) (Rg.encM_open Try.underlying39 (by kernel_rfl) Try.underlying3 Try.underlying3 Try.underlying3 Try.underlying4) h0
  clear hA0
  refine (walk W a0 len0 cap0 z0 w0).mono fun e W' ⟨he, bel⟩ => ?_
  subst he
  exact ⟨_, rfl, _, _, _, [], _, [], hW', trodAll_mk1 (shut_bool Try.underlying4 _), (trodAll_cons_mk (Below.trod laidOut (by kernel_rfl) (of_decide_eq_true (by kernel_rfl)) k0 bel lt0) trodAll_mk0), rfl, bel.frame _, fun h => by cases h⟩

noncomputable def laidWorld (os : Os) : World := World.holding Try.prog os ⟨#[], #[], []⟩
theorem reads (os : Os) {H : Type} (enc : TypeId × Value → H) : ∃ places, DataW.whole enc Try.prog ((laidWorld os).forCall (fun _ _ => 0) ⟨#[], #[.slice none 0 0], []⟩).memory Try.f3.params.toList Rows.fnExactRopeTeamsSpec.vars false (#[.slice none 0 0] : Array Value).toList 8 = some ([.nil], [], places) :=
  ⟨[], by kernel_rfl⟩

set_option maxRecDepth 100000 in
theorem lifted (os : Os) (started : os.Started) (H : Type) (enc : TypeId × Value → H) (F : Stop.Interp) :
    ReturnsInHanded {} Try.checked os 3 .any ((OpenSpec.ofChange Rows.fnExactRopeTeamsSpec).preRow enc Try.prog Try.f3 Rows.fnExactRopeTeamsRow.domain false Rows.fnExactRopeTeamsRow.laid) (((OpenSpec.ofChange Rows.fnExactRopeTeamsSpec).at F).post enc Try.prog Try.f3 false true false false) := by
  obtain ⟨places, hx⟩ := reads os enc
  refine returnsInHanded_of_row (C := Try.checked) (s := (OpenSpec.ofChange Rows.fnExactRopeTeamsSpec)) own started (by kernel_rfl) Try.func3
    (witness_row_at (enc := enc) (C := Try.checked) false (laidWorld os) #[.slice none 0 0] rfl (by kernel_rfl) (by kernel_rfl) (by kernel_rfl)
      (OpenSpec.preRow_of_cond 8 hx (by kernel_rfl) (fun k hk => by cases hk) (by kernel_rfl) (laidMetH_nil _ _))) ?_
  intro W base args ds gs before hval hW _ _ _ _ _ _
  exact contract H enc W base args ds gs before hval hW

set_option maxRecDepth 100000 in
theorem said : Rows.FnExactRopeTeamsSaid :=
  OpenClaim.holds_of_cond 3 Try.f3 rfl rfl rfl rfl rfl rfl rfl ⟨rfl, rfl, rfl, rfl, rfl⟩ rfl rfl rfl rfl rfl (by kernel_rfl) Try.func3 (by kernel_rfl)
    (of_decide_eq_true (by kernel_rfl)) (by unfold Func.isWrapper; first | (rw [if_pos (by decide +kernel)]; kernel_rfl) | (rw [if_neg (by decide +kernel)]; exact ⟨rfl, rfl⟩))
    (fun os started H enc _ F => by rw [OpenClaim.pre_eq_preRow]; exact lifted os started H enc F)

theorem proved : Rows.FnExactRopeTeamsSaid := said
#print axioms proved
end Go.Proofs.Ytedijkkbphbnoaa.fnExactRopeTeams

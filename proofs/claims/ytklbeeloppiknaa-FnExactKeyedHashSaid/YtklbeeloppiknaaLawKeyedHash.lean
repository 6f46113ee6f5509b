/- The law FnExactKeyedHash: for every argument the program's KeyedHash answers as its model, writes into no argument, and its answer owns its memory. No condition. -/
import Derived.Test.YtklbeeloppiknaaRows
import Derived.Test.YtklbeeloppiknaaLawsB
import Derived.Test.YtklbeeloppiknaaLawsI
import Derived.Test.YtklbeeloppiknaaHs
import Derived.WalkKit
import Derived.ProofKit
import Derived.OpenShut
import Derived.ShutString
import Derived.ChangeOld
import Derived.Below
import Derived.Deep.DeepHandedRow
import Derived.Deep.DeepWitnessRowRef
import Derived.Lib.LaidTab
namespace Go.Proofs.Ytklbeeloppiknaa.fnExactKeyedHash
open Go.ChangeShapes Go.WideShapes Go.ChangeAt Go.RowKit
open Go.ChangeMaps (open_string shut_string)
set_option linter.unusedVariables false

theorem own : ownKnob Try.prog.godebug = none := by kernel_rfl
theorem laidOut : laidOutB Try.prog = true := by kernel_rfl

open Kit Rw
set_option maxHeartbeats 4000000 in
theorem walk (w : World) (aKey : Int) (aKey_h : (Lit.int .i64 aKey).wf = true) (aValues_a : Option Addr) (aValues_len aValues_cap : Nat) (aValues_z : List Int) (aValues_h : Kit.IsRow .i64 w aValues_a aValues_len aValues_cap aValues_z) :
    Calls Try.prog 5 #[.int .i64 aKey, .slice aValues_a aValues_len aValues_cap] w fun e w' => e = .returned (.bool true) ∧ Below w.heap.size w w' := by
  have aValues_g := Lib.hid aValues_h; clear aValues_h
  by_cases aValues_l : aValues_len ≤ 1048576
  rotate_left
  · go_enter Try.func5, Try.ntmps5; go_wp2; go_ret; exact ⟨rfl, Below.refl _ _⟩
  obtain ⟨aValues_L, aValues_e, aValues_s⟩ := IsRow.sees aValues_g.out
  have aValues_S := Lib.hid aValues_s; have aValues_E : Hid (aValues_L.length ≤ 1048576) := aValues_e ▸ aValues_l; clear aValues_s aValues_g aValues_e
  have aKey_H := Lib.hid aKey_h; clear aKey_h
  have HB0 : Hid (Below w.heap.size w w) := Below.refl _ _
  go_enter Try.func5, Try.ntmps5
  go_wp2_with fail
  refine (LawsI.to_any w (.slice aValues_a aValues_len aValues_cap) aValues_L (aValues_S.out.below HB0.out) (Nat.le_trans aValues_E.out (by decide))).mono ?_
  rintro e w1 ⟨u1, rfl, ho, hg⟩
  have Ou1 := Lib.hid (ho.lower HB0.out.size)
  have HB1 := Lib.hid (HB0.out.grown hg HB0.out.size (fun _ h => by cases h)); clear HB0
  clear ho hg
  go_wp2_with fail
  refine (Hs.sKeyed_any w1 aKey u1 aValues_L aKey_H.out Ou1.out.sees (Nat.le_trans aValues_E.out (by decide))).mono ?_
  rintro e w2 ⟨rfl, hg⟩
  have HB2 := Lib.hid (HB1.out.grown hg HB1.out.size (fun _ h => by cases h)); clear HB1
  have Ou1 := Lib.hid (Ou1.out.grown hg)
  clear hg
  clear Ou1
  go_wp2_with fail
  refine (LawsI.to_any w2 (.slice aValues_a aValues_len aValues_cap) aValues_L (aValues_S.out.below HB2.out) (Nat.le_trans aValues_E.out (by decide))).mono ?_
  rintro e w3 ⟨u2, rfl, ho, hg⟩
  have Ou2 := Lib.hid (ho.lower HB2.out.size)
  have HB3 := Lib.hid (HB2.out.grown hg HB2.out.size (fun _ h => by cases h)); clear HB2
  clear ho hg
  go_wp2_with fail
  refine (Hs.keyed_any w3 aKey u2 aValues_L aKey_H.out Ou2.out.sees).mono ?_
  rintro e w4 ⟨rfl, hg⟩
  have HB4 := Lib.hid (HB3.out.grown hg HB3.out.size (fun _ h => by cases h)); clear HB3
  have Ou2 := Lib.hid (Ou2.out.grown hg)
  clear hg
  go_wp2_with fail
  refine (LawsI.to_any w4 (.slice aValues_a aValues_len aValues_cap) aValues_L (aValues_S.out.below HB4.out) (Nat.le_trans aValues_E.out (by decide))).mono ?_
  rintro e w5 ⟨u3, rfl, ho, hg⟩
  have A_u3_u2 := Lib.hid (ho.apart Ou2.out (Nat.le_refl _))
  have Ou3 := Lib.hid (ho.lower HB4.out.size)
  have HB5 := Lib.hid (HB4.out.grown hg HB4.out.size (fun _ h => by cases h)); clear HB4
  have Ou2 := Lib.hid (Ou2.out.grown hg)
  clear ho hg
  go_wp2_with fail
  refine (LawsI.eq_same w5 u2 u3 aValues_L Ou2.out.sees Ou3.out.sees).mono ?_
  rintro e w6 ⟨rfl, hg⟩
  have HB6 := Lib.hid (HB5.out.grown hg HB5.out.size (fun _ h => by cases h)); clear HB5
  have Ou2 := Lib.hid (Ou2.out.grown hg)
  have Ou3 := Lib.hid (Ou3.out.grown hg)
  clear hg
  clear Ou3
  clear Ou2
  go_wp2
  go_ret
  exact ⟨rfl, HB6.out⟩

/-- What the walk gives, for every argument. -/
theorem contract (H : Type) (enc : TypeId × Value → H) (W : World) (base : Nat) (args : Array Value) (ds gs : List (DataW H)) (before : List MemPlace)
    (hval : ∀ (j : Nat) t v, Try.f5.params[j]? = some t → args[j]? = some v → Value.okWide Try.prog W .any base t v)
    (hW : DataW.Whole enc Try.prog Try.f5.params.toList Rows.fnExactKeyedHashSpec.vars false W args.toList ds gs before) :
    Calls Try.prog 5 args W fun e W' => ∃ v, e = .returned v ∧ Rows.fnExactKeyedHashSpec.post enc Try.prog Try.f5 false true false false W args v W' := by
  have hW' := hW
  obtain ⟨p, q, hA0, hV, rfl, hfz, hnd⟩ := hW
  have hA : DataW.TrodAll enc Try.prog W 0 (fun _ => true) true Try.f5.params.toList args.toList ds p := hA0
  rw [Try.params5] at hA hval
  obtain ⟨v0, vs0, d0, ds0, p0, q0, hargs, rfl, rfl, h0, r0⟩ := trodAll_cons hA
  obtain ⟨v1, vs1, d1, ds1, p1, q1, rfl, rfl, rfl, h1, r1⟩ := trodAll_cons r0
  obtain ⟨rfl, rfl, rfl⟩ := trodAll_nil r1
  obtain rfl : args = #[v0, v1] := by cases args; simp_all
  obtain ⟨rfl, rfl⟩ := trodVars_none hV
  obtain ⟨a0, rfl, rfl, rfl, w0⟩ := open_int Try.underlying3 (hval 0 3 v0 rfl rfl) h0
  obtain ⟨a1, len1, cap1, rfl⟩ := okWide_slice Try.underlying28 (hval 1 28 v1 rfl rfl)
  have k1 := h1
  have lt1 : ∀ x ∈ p1, x.block < W.heap.size := by obtain ⟨m, hm⟩ := k1; exact DataW.trod_lt m _ _ _ hm
  obtain ⟨z1, w1⟩ : ∃ zs, Kit.IsRow .i64 W a1 len1 cap1 zs := Kit.row_open Try.underlying28 Try.underlying3 (by kernel_rfl) h1
  clear hA0
  refine (walk W a0 w0 a1 len1 cap1 z1 w1).mono fun e W' ⟨he, bel⟩ => ?_
  subst he
  exact ⟨_, rfl, _, _, _, [], _, [], hW', trodAll_mk1 (shut_bool Try.underlying4 _), (trodAll_cons_mk (shut_int Try.underlying3 w0) (trodAll_cons_mk (Below.trod laidOut (by kernel_rfl) (of_decide_eq_true (by kernel_rfl)) k1 bel lt1) trodAll_mk0)), rfl, bel.frame _, fun h => by cases h⟩

noncomputable def laidWorld (os : Os) : World := World.holding Try.prog os ⟨#[], #[], []⟩
theorem reads (os : Os) {H : Type} (enc : TypeId × Value → H) : ∃ places, DataW.whole enc Try.prog ((laidWorld os).forCall (fun _ _ => 0) ⟨#[], #[.int .i64 0, .slice none 0 0], []⟩).memory Try.f5.params.toList Rows.fnExactKeyedHashSpec.vars false (#[.int .i64 0, .slice none 0 0] : Array Value).toList 8 = some ([.lit (.int .i64 0), .nil], [], places) :=
  ⟨[], by kernel_rfl⟩

set_option maxRecDepth 100000 in
theorem lifted (os : Os) (started : os.Started) (H : Type) (enc : TypeId × Value → H) (F : Stop.Interp) :
    ReturnsInHanded {} Try.checked os 5 .any ((OpenSpec.ofChange Rows.fnExactKeyedHashSpec).preRow enc Try.prog Try.f5 Rows.fnExactKeyedHashRow.domain false Rows.fnExactKeyedHashRow.laid) (((OpenSpec.ofChange Rows.fnExactKeyedHashSpec).at F).post enc Try.prog Try.f5 false true false false) := by
  obtain ⟨places, hx⟩ := reads os enc
  refine returnsInHanded_of_row (C := Try.checked) (s := (OpenSpec.ofChange Rows.fnExactKeyedHashSpec)) own started (by kernel_rfl) Try.func5
    (witness_row_at (enc := enc) (C := Try.checked) false (laidWorld os) #[.int .i64 0, .slice none 0 0] rfl (by kernel_rfl) (by kernel_rfl) (by kernel_rfl)
      (OpenSpec.preRow_of_cond 8 hx (by kernel_rfl) (fun k hk => by cases hk) (by kernel_rfl) (laidMetH_nil _ _))) ?_
  intro W base args ds gs before hval hW _ _ _ _ _ _
  exact contract H enc W base args ds gs before hval hW

theorem said : Rows.FnExactKeyedHashSaid :=
  OpenClaim.holds_of_cond 5 Try.f5 rfl rfl rfl rfl rfl rfl rfl ⟨rfl, rfl, rfl, rfl, rfl⟩ rfl rfl rfl rfl rfl (by kernel_rfl) Try.func5 (by kernel_rfl)
    (of_decide_eq_true (by kernel_rfl)) (by unfold Func.isWrapper; first | (rw [if_pos (by decide +kernel)]; kernel_rfl) | (rw [if_neg (by decide +kernel)]; exact ⟨rfl, rfl⟩))
    (fun os started H enc _ F => by rw [OpenClaim.pre_eq_preRow]; exact lifted os started H enc F)

theorem proved : Rows.FnExactKeyedHashSaid := said
#print axioms proved
end Go.Proofs.Ytklbeeloppiknaa.fnExactKeyedHash

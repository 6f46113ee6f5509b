/- The law FnCipher: decryption inverts encryption, and encryption inverts decryption. No condition. -/
import Derived.Test.YtklbeeloppiknaaRows
import Derived.Test.YtklbeeloppiknaaDrawE
import Derived.Test.YtklbeeloppiknaaCipS
import Derived.Test.YtklbeeloppiknaaSameB
import Derived.Test.YtklbeeloppiknaaBig
import Derived.WalkKit
import Derived.ProofKit
import Derived.OpenShut
import Derived.ShutString
import Derived.ChangeOld
import Derived.Below
import Derived.Deep.DeepHandedRow
import Derived.Deep.DeepWitnessRowRef
import Derived.Lib.LaidTab
namespace Go.Proofs.Ytklbeeloppiknaa.fnCipher
open Go.ChangeShapes Go.WideShapes Go.ChangeAt Go.RowKit
open Go.ChangeMaps (open_string shut_string)
set_option linter.unusedVariables false

theorem own : ownKnob Try.prog.godebug = none := by kernel_rfl
theorem laidOut : laidOutB Try.prog = true := by kernel_rfl

open Kit Rw Hs Cip Draw Same

theorem shape {k : IntKind} {w : World} {v : Value} {L : List Int} (h : Sees k w v L) : ∃ a n cap, v = .slice a n cap ∧ Hid (L.length = n) := by
  obtain ⟨a, cap, h, _⟩ := h
  exact ⟨a, _, cap, h, rfl⟩

set_option maxHeartbeats 1000000 in
theorem walk (w : World) (a : Option Addr) (len cap : Nat) (z : List Int) (w0 : Kit.IsRow .u8 w a len cap z) :
    Calls Try.prog 3 #[.slice a len cap] w fun e w' => e = .returned (.bool true) ∧ Below w.heap.size w w' := by
  have hll := w0.len_le
  have hl64 : len ≤ 9223372036854775807 := by unfold maxLen at hll; omega
  have HR := Lib.hid w0
  clear w0 hll
  by_cases hbig : 1048576 < len
  · go_enter Try.func3, Try.ntmps3
    go_wp2_with (go_at_call 10; refine (big_any _ _ _ _ hl64).mono ?_; rintro e w' ⟨rfl, rfl⟩)
    go_ret
    exact ⟨rfl, Below.refl _ _⟩
  have hlen : len ≤ 1048576 := by omega
  go_enter Try.func3, Try.ntmps3
  go_wp2_with fail
  refine (big_any _ _ _ _ hl64).mono ?_
  rintro e w' ⟨rfl, rfl⟩
  go_wp2_with fail
  refine (dEncrypt_any w a len cap z HR.out).mono ?_
  rintro e w1 ⟨k, u, L, rfl, hk, ho, hL, hg⟩
  have HK := Lib.hid hk.wf
  have HO := Lib.hid ho
  have HL := Lib.hid hL
  have HW := Lib.hid ho.2
  have HB1 := Lib.hid (grown_below hg w.heap.size (Nat.le_refl _))
  clear hk ho hL hg
  have HE1 := Lib.hid (cip_back (s := 1) (k := k) (.inl rfl) HW.out)
  have HE2 := Lib.hid (cip_back (s := -1) (k := k) (.inr rfl) HW.out)
  obtain ⟨ua, un, uc, hu, HUN⟩ := shape HO.out.sees
  subst hu
  go_wp2_with fail
  refine (enc_any w1 k _ L HK.out HO.out.sees (by have := HL.out; omega)).mono ?_
  rintro e w2 ⟨x, rfl, ho, hg⟩
  have HX := Lib.hid ho
  have HO2 := Lib.hid (HO.out.grown hg)
  have HB2 := Lib.hid (HB1.out.trans (grown_below hg _ HB1.out.size))
  clear ho hg HO HB1
  go_wp2_with fail
  refine (dec_any w2 k _ (cip 1 k L) HK.out HX.out.sees (by rw [cip_len]; have := HL.out; omega)).mono ?_
  rintro e w3 ⟨y, rfl, ho, hg⟩
  have HY : Hid (Own .u8 5 w3 w2.heap.size y L) := by
    have := ho; rw [HE1.out] at this; exact this
  have HO3 := Lib.hid (HO2.out.grown hg)
  have HB3 := Lib.hid (HB2.out.trans (grown_below hg _ HB2.out.size))
  clear ho hg HO2 HB2 HX
  go_wp2_with fail
  refine (same_same w3 _ _ L HY.out.sees HO3.out.sees).mono ?_
  rintro e w4 ⟨rfl, hg⟩
  have HO4 := Lib.hid (HO3.out.grown hg)
  have HB4 := Lib.hid (HB3.out.trans (grown_below hg _ HB3.out.size))
  clear hg HO3 HB3 HY
  go_wp2_with fail
  refine (dec_any w4 k _ L HK.out HO4.out.sees (by have := HL.out; omega)).mono ?_
  rintro e w5 ⟨x, rfl, ho, hg⟩
  have HX := Lib.hid ho
  have HO5 := Lib.hid (HO4.out.grown hg)
  have HB5 := Lib.hid (HB4.out.trans (grown_below hg _ HB4.out.size))
  clear ho hg HO4 HB4
  go_wp2_with fail
  refine (enc_any w5 k _ (cip (-1) k L) HK.out HX.out.sees (by rw [cip_len]; have := HL.out; omega)).mono ?_
  rintro e w6 ⟨y, rfl, ho, hg⟩
  have HY : Hid (Own .u8 5 w6 w5.heap.size y L) := by
    have h2 : cip 1 k (cip (-1) k L) = L := HE2.out
    have := ho; rw [h2] at this; exact this
  have HO6 := Lib.hid (HO5.out.grown hg)
  have HB6 := Lib.hid (HB5.out.trans (grown_below hg _ HB5.out.size))
  clear ho hg HO5 HB5 HX
  go_wp2_with fail
  refine (same_same w6 _ _ L HY.out.sees HO6.out.sees).mono ?_
  rintro e w7 ⟨rfl, hg⟩
  have HO7 := Lib.hid (HO6.out.grown hg)
  have HB7 := Lib.hid (HB6.out.trans (grown_below hg _ HB6.out.size))
  clear hg HO6 HB6 HY
  go_wp2_with fail
  refine (enc_any w7 k _ L HK.out HO7.out.sees (by have := HL.out; omega)).mono ?_
  rintro e w8 ⟨x, rfl, ho, hg⟩
  have HB8 := Lib.hid (HB7.out.trans (grown_below hg _ HB7.out.size))
  obtain ⟨va, vn, vc, hv, HVN⟩ := shape ho.sees
  subst hv
  clear ho hg HO7 HB7
  obtain rfl : vn = un := by rw [← HUN.out, ← HVN.out, cip_len]
  go_wp2
  go_ret
  exact ⟨rfl, HB8.out⟩

/-- What the walk gives, for every argument. -/
theorem contract (H : Type) (enc : TypeId × Value → H) (W : World) (base : Nat) (args : Array Value) (ds gs : List (DataW H)) (before : List MemPlace)
    (hval : ∀ (j : Nat) t v, Try.f3.params[j]? = some t → args[j]? = some v → Value.okWide Try.prog W .any base t v)
    (hW : DataW.Whole enc Try.prog Try.f3.params.toList Rows.fnCipherSpec.vars false W args.toList ds gs before) :
    Calls Try.prog 3 args W fun e W' => ∃ v, e = .returned v ∧ Rows.fnCipherSpec.post enc Try.prog Try.f3 false true false false W args v W' := by
  have hW' := hW
  obtain ⟨p, q, hA0, hV, rfl, hfz, hnd⟩ := hW
  have hA : DataW.TrodAll enc Try.prog W 0 (fun _ => true) true Try.f3.params.toList args.toList ds p := hA0
  rw [Try.params3] at hA hval
  obtain ⟨v0, vs0, d0, ds0, p0, q0, hargs, rfl, rfl, h0, r0⟩ := trodAll_cons hA
  obtain ⟨rfl, rfl, rfl⟩ := trodAll_nil r0
  obtain rfl : args = #[v0] := by cases args; simp_all
  obtain ⟨rfl, rfl⟩ := trodVars_none hV
  obtain ⟨a0, len0, cap0, rfl⟩ := okWide_slice Try.underlying22 (hval 0 22 v0 rfl rfl)
  have k0 := h0
  have lt0 : ∀ x ∈ p0, x.block < W.heap.size := by obtain ⟨m, hm⟩ := k0; exact DataW.trod_lt m _ _ _ hm
  obtain ⟨z0, w0⟩ : ∃ zs, Kit.IsRow .u8 W a0 len0 cap0 zs := Kit.row_open Try.underlying22 Try.underlying5 (by kernel_rfl) h0
  clear hA0
  refine (walk W a0 len0 cap0 z0 w0).mono fun e W' ⟨he, bel⟩ => ?_
  subst he
  exact ⟨_, rfl, _, _, _, [], _, [], hW', trodAll_mk1 (shut_bool Try.underlying4 _), (trodAll_cons_mk (Below.trod laidOut (by kernel_rfl) (of_decide_eq_true (by kernel_rfl)) k0 bel lt0) trodAll_mk0), rfl, bel.frame _, fun h => by cases h⟩

noncomputable def laidWorld (os : Os) : World := World.holding Try.prog os ⟨#[], #[], []⟩
theorem reads (os : Os) {H : Type} (enc : TypeId × Value → H) : ∃ places, DataW.whole enc Try.prog ((laidWorld os).forCall (fun _ _ => 0) ⟨#[], #[.slice none 0 0], []⟩).memory Try.f3.params.toList Rows.fnCipherSpec.vars false (#[.slice none 0 0] : Array Value).toList 8 = some ([.nil], [], places) :=
  ⟨[], by kernel_rfl⟩

set_option maxRecDepth 100000 in
theorem lifted (os : Os) (started : os.Started) (H : Type) (enc : TypeId × Value → H) (F : Stop.Interp) :
    ReturnsInHanded {} Try.checked os 3 .any ((OpenSpec.ofChange Rows.fnCipherSpec).preRow enc Try.prog Try.f3 Rows.fnCipherRow.domain false Rows.fnCipherRow.laid) (((OpenSpec.ofChange Rows.fnCipherSpec).at F).post enc Try.prog Try.f3 false true false false) := by
  obtain ⟨places, hx⟩ := reads os enc
  refine returnsInHanded_of_row (C := Try.checked) (s := (OpenSpec.ofChange Rows.fnCipherSpec)) own started (by kernel_rfl) Try.func3
    (witness_row_at (enc := enc) (C := Try.checked) false (laidWorld os) #[.slice none 0 0] rfl (by kernel_rfl) (by kernel_rfl) (by kernel_rfl)
      (OpenSpec.preRow_of_cond 8 hx (by kernel_rfl) (fun k hk => by cases hk) (by kernel_rfl) (laidMetH_nil _ _))) ?_
  intro W base args ds gs before hval hW _ _ _ _ _ _
  exact contract H enc W base args ds gs before hval hW

theorem said : Rows.FnCipherSaid :=
  OpenClaim.holds_of_cond 3 Try.f3 rfl rfl rfl rfl rfl rfl rfl ⟨rfl, rfl, rfl, rfl, rfl⟩ rfl rfl rfl rfl rfl (by kernel_rfl) Try.func3 (by kernel_rfl)
    (of_decide_eq_true (by kernel_rfl)) (by unfold Func.isWrapper; first | (rw [if_pos (by decide +kernel)]; kernel_rfl) | (rw [if_neg (by decide +kernel)]; exact ⟨rfl, rfl⟩))
    (fun os started H enc _ F => by rw [OpenClaim.pre_eq_preRow]; exact lifted os started H enc F)

theorem proved : Rows.FnCipherSaid := said
#print axioms proved
end Go.Proofs.Ytklbeeloppiknaa.fnCipher

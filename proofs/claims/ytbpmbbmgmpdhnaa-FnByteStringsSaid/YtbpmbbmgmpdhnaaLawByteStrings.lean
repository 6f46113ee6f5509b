/- The law FnByteStrings: byte strings and lists of integers are decoded from their encodings. No condition. -/
import Derived.Deep.RegionHeld3
import Derived.Test.YtbpmbbmgmpdhnaaRows
import Derived.Test.YtbpmbbmgmpdhnaaSameB
import Derived.Test.YtbpmbbmgmpdhnaaSameI
import Derived.Test.YtbpmbbmgmpdhnaaBig
import Derived.Test.YtbpmbbmgmpdhnaaAt
import Derived.Test.YtbpmbbmgmpdhnaaSame
import Derived.Test.YtbpmbbmgmpdhnaaRead
import Derived.Test.YtbpmbbmgmpdhnaaRdB
import Derived.Test.YtbpmbbmgmpdhnaaDec
import Derived.Test.YtbpmbbmgmpdhnaaEnc
import Derived.Test.YtbpmbbmgmpdhnaaBStr
import Derived.Test.YtbpmbbmgmpdhnaaPut
import Derived.Test.YtbpmbbmgmpdhnaaPutS
import Derived.Test.YtbpmbbmgmpdhnaaDrawB
import Derived.Test.YtbpmbbmgmpdhnaaDraw1
import Derived.Test.YtbpmbbmgmpdhnaaDraw2
import Derived.Test.YtbpmbbmgmpdhnaaInfo
import Derived.WalkKit
import Derived.ProofKit
import Derived.OpenShut
import Derived.ShutString
import Derived.ChangeOld
import Derived.Below
import Derived.Deep.DeepHandedRow
import Derived.Deep.DeepWitnessRowRef
import Derived.Lib.LaidTab
namespace Go.Proofs.Ytbpmbbmgmpdhnaa.fnByteStrings
open Go.ChangeShapes Go.WideShapes Go.ChangeAt Go.RowKit
open Go.ChangeMaps (open_string shut_string)
set_option linter.unusedVariables false

theorem own : ownKnob Try.prog.godebug = none := by kernel_rfl
theorem laidOut : laidOutB Try.prog = true := by kernel_rfl

open Kit Rw Var LawsB Put Rdv RdB Draw Same Dec Enc BStr

theorem shape {k : IntKind} {w : World} {v : Value} {L : List Int} (h : Sees k w v L) : ∃ a n cap, v = .slice a n cap ∧ Hid (L.length = n) := by
  obtain ⟨a, cap, h, _⟩ := h
  exact ⟨a, _, cap, h, rfl⟩

set_option maxRecDepth 100000 in
set_option maxHeartbeats 1000000 in
theorem walk (w : World) (a : Option Addr) (len cap : Nat) (z : List Int) (w0 : Kit.IsRow .u8 w a len cap z) :
    Calls Try.prog 4 #[.slice a len cap] w fun e w' => e = .returned (.bool true) ∧ Below w.heap.size w w' := by
  have hll := w0.len_le
  have hl64 : len ≤ 9223372036854775807 := by unfold maxLen at hll; omega
  have HR := Lib.hid w0
  clear w0 hll
  by_cases hbig : 1048576 < len
  · go_enter Try.func4, Try.ntmps4
    go_wp2_with (go_at_call 16; refine (big_any _ _ _ _ hl64).mono ?_; rintro e w' ⟨rfl, rfl⟩)
    go_ret
    exact ⟨rfl, Below.refl _ _⟩
  have hlen : len ≤ 1048576 := by omega
  obtain ⟨i0, hi, hz0, hz1, hz2⟩ := info_parts Inf.info_i64
  go_enter Try.func4, Try.ntmps4
  go_wp2_with fail
  refine (big_any _ _ _ _ hl64).mono ?_
  rintro e w' ⟨rfl, rfl⟩
  go_wp2_with fail
  refine (dAppendBytes_any w a len cap z HR.out).mono ?_
  rintro e w1 ⟨u, L, v, D, rfl, ho, hL, hv, hD, hg⟩
  have HO := Lib.hid ho
  have HV := Lib.hid hv
  have HL := Lib.hid hL
  have HD := Lib.hid hD
  have HB1 := Lib.hid (grown_below hg w.heap.size (Nat.le_refl _))
  clear ho hv hL hD hg
  obtain ⟨ua, un, uc, hu, HUN⟩ := shape HO.out.sees
  subst hu
  obtain ⟨va, vn, vc, hv, HVN⟩ := shape HV.out.sees
  subst hv
  go_wp2_with fail
  refine (appendBytes_any w1 _ _ L D HO.out.sees HV.out.sees (by have := HL.out; omega) (by have := HD.out; omega)).mono ?_
  rintro e w2 ⟨x, rfl, ho, hg⟩
  have HX := Lib.hid ho
  have HV2 := Lib.hid (HV.out.grown hg)
  have HB2 := Lib.hid (HB1.out.trans (grown_below hg _ HB1.out.size))
  clear ho hg HO HV HB1
  have hun : un ≤ 2 := by have := HUN.out; have := HL.out; omega
  have hvn : vn ≤ 5 := by have := HVN.out; have := HD.out; omega
  have HXL : Hid ((L ++ encI D.length ++ D).length ≤ 20) := by
    show _ ≤ _
    have h1 := HL.out
    have h2 := HD.out
    have h3 := encI_len D.length
    simp only [List.length_append]
    omega
  obtain ⟨xa, xn, xc, hx, HXN⟩ := shape HX.out.sees
  subst hx
  have hrb : rb (L ++ encI D.length ++ D) (un : Nat) (vn : Nat) = (D, (xn : Int), true) := by
    rw [← HUN.out, ← HVN.out, ← HXN.out]
    exact rb_put L D _ (by have := HD.out; omega) (Int.le_refl _)
  have hrs : rb (L ++ encI D.length ++ D) (un : Nat) ((vn : Int) - 1) = ([], 0, false) := by
    rw [← HUN.out, ← HVN.out]
    exact rb_short L D _ (by have := HD.out; omega) (by omega)
  have HRB := Lib.hid hrb
  have HRS := Lib.hid hrs
  clear hrb hrs
  go_wp2_with fail
  refine (readBytes_any w2 _ (L ++ encI D.length ++ D) (un : Nat) (vn : Nat) HX.out.sees (by have := HXL.out; omega) (i64_mk (by omega)) (i64_mk (by omega))).mono ?_
  rintro e w3 ⟨y, rfl, ho, hg⟩
  rw [HRB.out] at ho ⊢
  have HY := Lib.hid ho
  have HX3 := Lib.hid (HX.out.grown hg)
  have HV3 := Lib.hid (HV2.out.grown hg)
  have HB3 := Lib.hid (HB2.out.trans (grown_below hg _ HB2.out.size))
  clear ho hg HX HV2 HB2
  go_wp2_with fail
  refine (readBytes_any w3 _ (L ++ encI D.length ++ D) (un : Nat) ((vn : Int) - 1) HX3.out.sees (by have := HXL.out; omega) (i64_mk (by omega)) (i64_mk (by omega))).mono ?_
  rintro e w4 ⟨y2, rfl, ho, hg⟩
  rw [HRS.out]
  have HY4 := Lib.hid (HY.out.grown hg)
  have HV4 := Lib.hid (HV3.out.grown hg)
  have HB4 := Lib.hid (HB3.out.trans (grown_below hg _ HB3.out.size))
  clear ho hg HX3 HY HV3 HB3
  go_wp2_with fail
  refine (same_same w4 _ _ D HY4.out.sees HV4.out.sees).mono ?_
  rintro e w5 ⟨rfl, hg⟩
  have HB5 := Lib.hid (HB4.out.trans (grown_below hg _ HB4.out.size))
  clear hg HY4 HV4 HB4
  have HN0 := Lib.hid (own_empty (k := .i64) (E := 3) w5)
  have HBA : Hid (Below w.heap.size w (w5.alloc (.cells #[] 3 (0, 0)))) := HB5.out.alloc HB5.out.size _
  have HN1 := Lib.hid (HN0.out.lower HB5.out.size)
  clear HN0
  go_wp2
  go_loopw [12, 13] (fun u i wr => ∃ j : Nat, ∃ N : List Int, j ≤ 5 ∧ i = .int .i64 j ∧ Hid (N.length = j) ∧ Hid (Nums N) ∧ Hid (Own .i64 3 wr w.heap.size u N) ∧ Hid (Below w.heap.size w wr))
    (fun _ i _ => 6 - (intOf i).toNat)
  case atStart => exact ⟨0, [], Nat.zero_le _, rfl, rfl, (fun x hx => by cases hx), HN1, HBA⟩
  case round =>
    obtain ⟨j, N, hj, rfl, HNL, HNS, HNO, HB6⟩ := hrel
    go_wp2_with fail
    refine (at_any wr a len cap z (HR.out.below HB6.out) hlen 0 (by omega)).mono ?_
    rintro e w' ⟨q, ⟨hq0, hq1⟩, rfl, rfl⟩
    by_cases hlt : (j : Int) < q % 6
    · have hj5 : j ≤ 4 := by omega
      go_wp2_with fail
      refine (at_any wr a len cap z (HR.out.below HB6.out) hlen (j + 1) (by omega)).mono ?_
      rintro e w' ⟨x1, ⟨hx0, hx1⟩, rfl, rfl⟩
      go_wp2_with fail
      refine (at_any wr a len cap z (HR.out.below HB6.out) hlen (j + 2) (by omega)).mono ?_
      rintro e w' ⟨x2, ⟨hy0, hy1⟩, rfl, rfl⟩
      have hp0 : 0 ≤ x1 * x2 := Int.mul_nonneg hx0 hy0
      have hp1 : x1 * x2 ≤ 255 * 255 := Int.mul_le_mul hx1 hy1 hy0 (by omega)
      go_wp2_with fail
      refine (at_any wr a len cap z (HR.out.below HB6.out) hlen (j + 3) (by omega)).mono ?_
      rintro e w' ⟨x3, ⟨hz0', hz1'⟩, rfl, rfl⟩
      have hr0 : 0 ≤ x1 * x2 * x3 := Int.mul_nonneg hp0 hz0'
      have hr1 : x1 * x2 * x3 ≤ 65025 * 255 := Int.mul_le_mul (by omega) hz1' hz0' (by omega)
      have hnl : N.length ≤ 5 := by have := HNL.out; omega
      go_wp2_with (at_builtin; go_loud (refine wpList_append_one _ rfl _ _ 35 rfl w.heap.size 3 i0 (.int .i64 0) 8 Try.underlying35 hi hz0 hz1 hz2 rfl .i64 _ N rfl HNO.out (x1 * x2 * x3) rfl (i64_mk (by omega)) (by omega) (by decide) HB6.out.size ?_); intro v3 w3 hown3 hgrow3; have HO3 := Lib.hid hown3; have HG3 := Lib.hid hgrow3; clear hown3 hgrow3)
      go_roundw
      case rel =>
        refine ⟨j + 1, N ++ [x1 * x2 * x3], by omega, by go_num, by have := HNL.out; show _ = _; simp [this], ?_, HO3, HB6.out.grown HG3.out HB6.out.size (fun c hc => (HNO.out.lt c hc).1)⟩
        intro x hx
        rcases List.mem_append.1 hx with h | h
        · exact HNS.out x h
        · simp at h; subst h; exact ⟨hr0, by omega⟩
      case measure => simp [intOf]; omega
    · have hge : q % 6 ≤ (j : Int) := by omega
      obtain ⟨la, ln, lc, hl, HLN⟩ := shape HNO.out.sees
      subst hl
      have hnl : N.length ≤ 5 := by have := HNL.out; omega
      have hln : ln ≤ 5 := by have := HLN.out; omega
      have HEL : Hid ((encAll N).length ≤ 100) := by have := encAll_len N; show _ ≤ _; omega
      have hd1 : dec (encAll N) 0 (ln : Nat) = (N, ((encAll N).length : Int), true) := by rw [← HLN.out]; exact dec_enc HNS.out (by omega)
      have hd2 : dec (encAll N) 0 ((ln : Int) + 1) = ([], 0, false) := by rw [← HLN.out]; exact dec_more HNS.out (by omega)
      have HD1 := Lib.hid hd1
      have HD2 := Lib.hid hd2
      clear hd1 hd2 hlt
      go_wp2_with fail
      refine (encode_any wr _ N HNO.out.sees (by omega)).mono ?_
      rintro e w7 ⟨ev, rfl, ho, hg⟩
      have HE := Lib.hid ho
      have HN7 := Lib.hid (HNO.out.grown hg)
      have HB7 := Lib.hid (HB6.out.trans (grown_below hg _ HB6.out.size))
      clear ho hg HNO HB6
      obtain ⟨ea, en, ec, hev, HEN⟩ := shape HE.out.sees
      subst hev
      go_wp2_with fail
      refine (decode_any w7 _ (encAll N) 0 (ln : Nat) HE.out.sees (by have := HEL.out; omega) (i64_mk (by omega)) (i64_mk (by omega))).mono ?_
      rintro e w8 ⟨mv, rfl, ho, hg⟩
      rw [HD1.out] at ho ⊢
      have HM := Lib.hid ho
      have HE8 := Lib.hid (HE.out.grown hg)
      have HN8 := Lib.hid (HN7.out.grown hg)
      have HB8 := Lib.hid (HB7.out.trans (grown_below hg _ HB7.out.size))
      clear ho hg HE HN7 HB7
      rw [HEN.out]
      go_wp2_with fail
      refine (decode_any w8 _ (encAll N) 0 ((ln : Int) + 1) HE8.out.sees (by have := HEL.out; omega) (i64_mk (by omega)) (i64_mk (by omega))).mono ?_
      rintro e w9 ⟨mv2, rfl, ho, hg⟩
      rw [HD2.out]
      have HM9 := Lib.hid (HM.out.grown hg)
      have HN9 := Lib.hid (HN8.out.grown hg)
      have HB9 := Lib.hid (HB8.out.trans (grown_below hg _ HB8.out.size))
      clear ho hg HM HE8 HN8 HB8
      go_wp2_with fail
      refine (sameI_same w9 _ _ N HM9.out.sees HN9.out.sees).mono ?_
      rintro e w10 ⟨rfl, hg⟩
      have HB10 := Lib.hid (HB9.out.trans (grown_below hg _ HB9.out.size))
      clear hg
      go_wp2
      go_ret
      exact ⟨rfl, HB10.out⟩

set_option maxRecDepth 100000 in
/-- What the walk gives, for every argument. -/
theorem contract (H : Type) (enc : TypeId × Value → H) (W : World) (base : Nat) (args : Array Value) (ds gs : List (DataW H)) (before : List MemPlace)
    (hval : ∀ (j : Nat) t v, Try.f4.params[j]? = some t → args[j]? = some v → Value.okWide Try.prog W .any base t v)
    (hW : DataW.Whole enc Try.prog Try.f4.params.toList Rows.fnByteStringsSpec.vars false W args.toList ds gs before) :
    Calls Try.prog 4 args W fun e W' => ∃ v, e = .returned v ∧ Rows.fnByteStringsSpec.post enc Try.prog Try.f4 false true false false W args v W' := by
  have hW' := hW
  obtain ⟨p, q, hA0, hV, rfl, hfz, hnd⟩ := hW
  have hA : DataW.TrodAll enc Try.prog W 0 (fun _ => true) true Try.f4.params.toList args.toList ds p := hA0
  rw [Try.params4] at hA hval
  obtain ⟨v0, vs0, d0, ds0, p0, q0, hargs, rfl, rfl, h0, r0⟩ := trodAll_cons hA
  obtain ⟨rfl, rfl, rfl⟩ := trodAll_nil r0
  obtain rfl : args = #[v0] := by cases args; simp_all
  obtain ⟨rfl, rfl⟩ := trodVars_none hV
  obtain ⟨a0, len0, cap0, rfl⟩ := okWide_slice Try.underlying22 (hval 0 22 v0 rfl rfl)
  have k0 := h0
  have lt0 : ∀ x ∈ p0, x.block < W.heap.size := by obtain ⟨m, hm⟩ := k0; exact DataW.trod_lt m _ _ _ hm
  obtain ⟨z0, w0⟩ : ∃ zs, Kit.IsRow .u8 W a0 len0 cap0 zs := Kit.row_open Try.underlying22 Try.underlying5 (by kernel_rfl) h0
  clear hA0
  refine (walk W a0 len0 cap0 z0 w0).mono fun e W' ⟨he, bel⟩ => ?_
  subst he
  exact ⟨_, rfl, _, _, _, [], _, [], hW', trodAll_mk1 (shut_bool Try.underlying4 _), (trodAll_cons_mk (Below.trod laidOut (by kernel_rfl) (of_decide_eq_true (by kernel_rfl)) k0 bel lt0) trodAll_mk0), rfl, bel.frame _, fun h => by cases h⟩

noncomputable def laidWorld (os : Os) : World := World.holding Try.prog os ⟨#[], #[], []⟩
theorem reads (os : Os) {H : Type} (enc : TypeId × Value → H) : ∃ places, DataW.whole enc Try.prog ((laidWorld os).forCall (fun _ _ => 0) ⟨#[], #[.slice none 0 0], []⟩).memory Try.f4.params.toList Rows.fnByteStringsSpec.vars false (#[.slice none 0 0] : Array Value).toList 8 = some ([.nil], [], places) :=
  ⟨[], by kernel_rfl⟩

set_option maxRecDepth 100000 in
theorem lifted (os : Os) (started : os.Started) (H : Type) (enc : TypeId × Value → H) (F : Stop.Interp) :
    ReturnsInHanded {} Try.checked os 4 .any ((OpenSpec.ofChange Rows.fnByteStringsSpec).preRow enc Try.prog Try.f4 Rows.fnByteStringsRow.domain false Rows.fnByteStringsRow.laid) (((OpenSpec.ofChange Rows.fnByteStringsSpec).at F).post enc Try.prog Try.f4 false true false false) := by
  obtain ⟨places, hx⟩ := reads os enc
  refine returnsInHanded_of_row (C := Try.checked) (s := (OpenSpec.ofChange Rows.fnByteStringsSpec)) own started (by kernel_rfl) Try.func4
    (witness_row_at (enc := enc) (C := Try.checked) false (laidWorld os) #[.slice none 0 0] rfl (by kernel_rfl) (by kernel_rfl) (by kernel_rfl)
      (OpenSpec.preRow_of_cond 8 hx (by kernel_rfl) (fun k hk => by cases hk) (by kernel_rfl) (laidMetH_nil _ _))) ?_
  intro W base args ds gs before hval hW _ _ _ _ _ _
  exact contract H enc W base args ds gs before hval hW

set_option maxRecDepth 100000 in
theorem said : Rows.FnByteStringsSaid :=
  OpenClaim.holds_of_cond 4 Try.f4 rfl rfl rfl rfl rfl rfl rfl ⟨rfl, rfl, rfl, rfl, rfl⟩ rfl rfl rfl rfl rfl (by kernel_rfl) Try.func4 (by kernel_rfl)
    (of_decide_eq_true (by kernel_rfl)) (by unfold Func.isWrapper; first | (rw [if_pos (by decide +kernel)]; kernel_rfl) | (rw [if_neg (by decide +kernel)]; exact ⟨rfl, rfl⟩))
    (fun os started H enc _ F => by rw [OpenClaim.pre_eq_preRow]; exact lifted os started H enc F)

theorem proved : Rows.FnByteStringsSaid := said
#print axioms proved
end Go.Proofs.Ytbpmbbmgmpdhnaa.fnByteStrings

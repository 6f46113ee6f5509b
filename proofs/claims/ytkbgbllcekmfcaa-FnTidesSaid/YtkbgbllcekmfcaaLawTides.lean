/- The law FnTides: the next dry hour is dry and none before it, and a crossing stays dry. No condition. -/
import Derived.Deep.RegionHeld3
import Derived.Deep.DeepCutAuto
import Derived.Test.YtkbgbllcekmfcaaRows
import Derived.Test.YtkbgbllcekmfcaaTideQ
import Derived.WalkKit
import Derived.ProofKit
import Derived.OpenShut
import Derived.ShutString
import Derived.ChangeOld
import Derived.Below
import Derived.Deep.DeepHandedRow
import Derived.Deep.DeepWitnessRowRef
import Derived.Lib.LaidTab
namespace Go.Proofs.Ytkbgbllcekmfcaa.fnTides
open Go.ChangeShapes Go.WideShapes Go.ChangeAt Go.RowKit
open Go.ChangeMaps (open_string shut_string)
set_option linter.unusedVariables false

theorem own : ownKnob Try.prog.godebug = none := by kernel_rfl
theorem laidOut : laidOutB Try.prog = true := by kernel_rfl

open Kit Rw Inf Tid TideD TideQ TideI Draw Same Tw

set_option maxRecDepth 100000 in
set_option maxHeartbeats 16000000 in
theorem walk (w : World) (a : Option Addr) (len cap : Nat) (z : List Int) (w0 : Kit.IsRow .u8 w a len cap z) :
    Calls Try.prog 9 #[.slice a len cap] w fun e w' => e = .returned (.bool true) ∧ Below w.heap.size w w' := by
  have hll := w0.len_le
  have hl64 : len ≤ 9223372036854775807 := by unfold maxLen at hll; omega
  have HR := Lib.hid w0
  clear w0 hll
  by_cases hbig : 1048576 < len
  · go_enter Try.func9, Try.ntmps9
    go_wp2_with (go_at_call 25; refine (big_any _ _ _ _ hl64).mono ?_; rintro e w' ⟨rfl, rfl⟩)
    go_ret
    exact ⟨rfl, Below.refl _ _⟩
  have hlen : len ≤ 1048576 := by omega
  go_enter Try.func9, Try.ntmps9
  go_wp2_with fail
  refine (big_any _ _ _ _ hl64).mono ?_
  rintro e w' ⟨rfl, rfl⟩
  go_wp2_with fail
  refine (dNext_any w a len cap z HR.out).mono ?_
  rintro e w1 ⟨x, y, h, rfl, hb, hg1⟩
  obtain ⟨hbx, hby, hbh⟩ := hb
  have HT1 := Lib.hid (TQ.start (x := x) (y := y) hg1)
  clear hg1
  obtain ⟨c0, c1⟩ := two HT1.out.box
  go_wp2_with fail
  generalize w1.alloc (.cells #[.int .i64 x, .int .i64 y] 25 (0, 0)) = w2 at *
  generalize w1.heap.size = B at *
  refine (iNext_any _ x y h).mono ?_
  rintro e w3 ⟨rfl, hg⟩
  have HT3 := Lib.hid (HT1.out.on hg)
  clear hg c0 c1 HT1
  have hnc := next_cases x y h
  obtain ⟨n, hn⟩ : ∃ n, n = nextDry x y h := ⟨_, rfl⟩
  rw [← hn] at hnc ⊢
  have HNC := Lib.hid hnc
  clear hnc hn
  go_upto_region 5 with (fail)
  go_cut [45] (fun s wx => s = .bool false ∧ Hid (TQ w wx B x y))
  case first =>
    obtain ⟨c0, c1⟩ := HT3.out.box.cell 0, HT3.out.box.cell 1
    rcases HNC.out with rfl | ⟨hok, h0, h1, h2, h3, h4⟩
    · go_wp2_with fail
      go_meet; exact ⟨rfl, HT3⟩
    · have h0n : 0 ≤ n := by omega
      by_cases h5 : n ≤ 100000
      · have hd := h3 h5
        have HD := Lib.hid hd
        clear h3 h4 hd hok
        go_wp2_with fail
        refine (dryQ HT3.out HD.out).mono ?_
        rintro e w4 ⟨rfl, ht⟩
        have HT4 := Lib.hid ht
        clear ht
        go_wp2_with fail
        go_meet; exact ⟨congrArg Value.bool (by simp; omega), HT4⟩
      · clear h3 h4 hok
        go_wp2_with fail
        go_meet; exact ⟨congrArg Value.bool (by simp; omega), HT3⟩
  case rest =>
  obtain ⟨rfl, HT4⟩ := hcut
  clear HT3
  go_wp2
  go_loopw [6] (fun i wr => ∃ k : Int, i = .int .i64 k ∧ h ≤ k ∧ (0 ≤ n → k ≤ n) ∧ Hid (TQ w wr B x y)) (fun i _ => (n - intOf i).toNat)
  case atStart => exact ⟨h, rfl, by omega, fun h0 => by rcases HNC.out with h1 | ⟨_, _, h1, _⟩ <;> omega, HT4⟩
  case round =>
    obtain ⟨k, rfl, hk0, hk1, HTR⟩ := hrel
    obtain ⟨c0, c1⟩ := two HTR.out.box
    by_cases hlt : 0 ≤ n ∧ k < n
    · have HD : Hid (isDry x y k = false) := by
        show _ = _
        rcases HNC.out with h1 | ⟨_, _, _, _, _, h4⟩
        · omega
        · exact h4 k hk0 hlt.2
      obtain ⟨hn0, hkn⟩ := hlt
      have hnh : n ≤ h + 11 := by rcases HNC.out with h1 | ⟨_, _, _, h2, _⟩ <;> omega
      go_wp2_with fail
      refine (dryQ HTR.out HD.out).mono ?_
      rintro e w4 ⟨rfl, ht⟩
      have HT5 := Lib.hid ht
      clear ht
      go_wp2
      go_roundw
      case rel => exact ⟨k + 1, rfl, by omega, fun _ => by omega, HT5⟩
      case measure => simp [intOf]; omega
    · have hx : decide (0 ≤ n) = false ∨ decide (k < n) = false := by
        by_cases hn0 : 0 ≤ n
        · exact .inr (decide_eq_false fun h5 => hlt ⟨hn0, h5⟩)
        · exact .inl (decide_eq_false hn0)
      clear HNC HT4
      go_upto_region 8 with (fail)
      go_cut [53] (fun s wx => s = .bool false ∧ Hid (TQ w wx B x y))
      case first =>
        rcases hx with hx | hx
        · go_wp2_with fail
          go_meet; exact ⟨rfl, HTR⟩
        · by_cases hn0 : 0 ≤ n
          · go_wp2_with fail
            go_meet; exact ⟨rfl, HTR⟩
          · go_wp2_with fail
            go_meet; exact ⟨rfl, HTR⟩
      case rest =>
      obtain ⟨rfl, HT6⟩ := hcut
      clear HTR c0 c1 hx hlt hk0 hk1 hbh
      go_wp2
      go_loopw [7, 8] (fun d i wr => ∃ k : Nat, i = .int .i64 k ∧ k ≤ 12 ∧ d = .int .i64 (dryCnt x y k) ∧ Hid (TQ w wr B x y)) (fun _ i _ => (12 - intOf i).toNat)
      case atStart => exact ⟨0, by go_num, by omega, by go_num, HT6⟩
      case round =>
        obtain ⟨k, rfl, hk, rfl, HTR⟩ := hrel
        obtain ⟨c0, c1⟩ := two HTR.out.box
        have hle := dryCnt_le x y k
        by_cases hlt : k < 12
        · have hki : (k : Int) < 12 := by omega
          cases hd : isDry x y (7 + k)
          · have HN := Lib.hid (dryCnt_no hd)
            go_wp2_with fail
            refine (dryQ HTR.out hd).mono ?_
            rintro e w4 ⟨rfl, ht⟩
            have HT7 := Lib.hid ht
            clear ht hd
            go_wp2
            go_roundw
            case rel => exact ⟨k + 1, by go_num, by omega, by rw [HN.out], HT7⟩
            case measure => simp [intOf]; omega
          · have HN := Lib.hid (dryCnt_yes hd)
            go_wp2_with fail
            refine (dryQ HTR.out hd).mono ?_
            rintro e w4 ⟨rfl, ht⟩
            have HT7 := Lib.hid ht
            clear ht hd
            go_wp2
            go_roundw
            case rel => exact ⟨k + 1, by go_num, by omega, by rw [HN.out]; go_num, HT7⟩
            case measure => simp [intOf]; omega
        · have hke : k = 12 := by omega
          subst hke
          have HD := Lib.hid (dry_all x y)
          obtain ⟨d, hdd⟩ : ∃ d, d = dryCnt x y 12 := ⟨_, rfl⟩
          rw [← hdd] at HD hle ⊢
          have hdi : ((d : Int) != (d : Int)) = false := by simp
          clear hdd hlt hk
          go_wp2_with fail
          refine (TideI.iHours_any _ x y).mono ?_
          rintro e w5 ⟨rfl, hg⟩
          rw [← HD.out]
          have HG5 := Lib.hid (HTR.out.on hg).grown
          clear hg HTR c0 c1 HT6 HD
          go_wp2_with fail
          refine (dNextCross_any _ a len cap z (HR.out.below (grown_below HG5.out _ (Nat.le_refl _)))).mono ?_
          rintro e w6 ⟨x', y', h', l, rfl, ⟨hb, hl⟩, hg⟩
          obtain ⟨hbx', hby', hbh'⟩ := hb
          have HT8 := Lib.hid (TQ.start (x := x') (y := y') (grownN_trans HG5.out hg))
          clear hg
          obtain ⟨c0, c1⟩ := two HT8.out.box
          go_wp2_with fail
          generalize w6.alloc (.cells #[.int .i64 x', .int .i64 y'] 25 (0, 0)) = w7 at *
          generalize w6.heap.size = C at *
          refine (iNextCross_any _ x' y' h' l).mono ?_
          rintro e w8 ⟨rfl, hg⟩
          have HT9 := Lib.hid (HT8.out.on hg)
          clear hg c0 c1 HT8
          have hcc := cross_cases x' y' h' l
          obtain ⟨c, hc⟩ : ∃ c, c = nextCross x' y' h' l := ⟨_, rfl⟩
          rw [← hc] at hcc ⊢
          clear hc
          obtain ⟨c0, c1⟩ := two HT9.out.box
          rcases hcc with rfl | ⟨hs, h0, h1, hll, hx, hd, hdl⟩
          · go_wp2
            go_ret
            exact ⟨rfl, grown_below HT9.out.grown _ (Nat.le_refl _)⟩
          · have HX := Lib.hid hx
            have HDD := Lib.hid hd
            have HDL := Lib.hid hdl
            have hcm : (c == -1) = false := by simp; omega
            have hcn : ¬ c = -1 := by omega
            clear hx hd hdl
            go_wp2_with fail
            refine (crossQ HT9.out (by omega) HX.out).mono ?_
            rintro e wa ⟨rfl, ht⟩
            have HTA := Lib.hid ht
            clear ht c0 c1
            obtain ⟨c0, c1⟩ := two HTA.out.box
            go_wp2_with fail
            refine (dryQ HTA.out HDD.out).mono ?_
            rintro e wb ⟨rfl, ht⟩
            have HTB := Lib.hid ht
            clear ht c0 c1
            obtain ⟨c0, c1⟩ := two HTB.out.box
            go_wp2_with fail
            refine (dryQ HTB.out HDL.out).mono ?_
            rintro e wd ⟨rfl, ht⟩
            have HTC := Lib.hid ht
            clear ht c0 c1
            go_wp2
            go_ret
            exact ⟨rfl, grown_below HTC.out.grown _ (Nat.le_refl _)⟩

set_option maxRecDepth 100000 in
/-- What the walk gives, for every argument. -/
theorem contract (H : Type) (enc : TypeId × Value → H) (W : World) (base : Nat) (args : Array Value) (ds gs : List (DataW H)) (before : List MemPlace)
    (hval : ∀ (j : Nat) t v, Try.f9.params[j]? = some t → args[j]? = some v → Value.okWide Try.prog W .any base t v)
    (hW : DataW.Whole enc Try.prog Try.f9.params.toList Rows.fnTidesSpec.vars false W args.toList ds gs before) :
    Calls Try.prog 9 args W fun e W' => ∃ v, e = .returned v ∧ Rows.fnTidesSpec.post enc Try.prog Try.f9 false true false false W args v W' := by
  have hW' := hW
  obtain ⟨p, q, hA0, hV, rfl, hfz, hnd⟩ := hW
  have hA : DataW.TrodAll enc Try.prog W 0 (fun _ => true) true Try.f9.params.toList args.toList ds p := hA0
  rw [Try.params9] at hA hval
  obtain ⟨v0, vs0, d0, ds0, p0, q0, hargs, rfl, rfl, h0, r0⟩ := trodAll_cons hA
  obtain ⟨rfl, rfl, rfl⟩ := trodAll_nil r0
  obtain rfl : args = #[v0] := by cases args; simp_all
  obtain ⟨rfl, rfl⟩ := trodVars_none hV
  obtain ⟨a0, len0, cap0, rfl⟩ := okWide_slice Try.underlying35 (hval 0 35 v0 rfl rfl)
  have k0 := h0
  have lt0 : ∀ x ∈ p0, x.block < W.heap.size := by obtain ⟨m, hm⟩ := k0; exact DataW.trod_lt m _ _ _ hm
  obtain ⟨z0, w0⟩ : ∃ zs, Kit.IsRow .u8 W a0 len0 cap0 zs := Kit.row_open Try.underlying35 Try.underlying5 (by kernel_rfl) h0
  clear hA0
  refine (walk W a0 len0 cap0 z0 w0).mono fun e W' ⟨he, bel⟩ => ?_
  subst he
  exact ⟨_, rfl, _, _, _, [], _, [], hW', trodAll_mk1 (shut_bool Try.underlying4 _), (trodAll_cons_mk (Below.trod laidOut (by kernel_rfl) (of_decide_eq_true (by kernel_rfl)) k0 bel lt0) trodAll_mk0), rfl, bel.frame _, fun h => by cases h⟩

noncomputable def laidWorld (os : Os) : World := World.holding Try.prog os ⟨#[], #[], []⟩
theorem reads (os : Os) {H : Type} (enc : TypeId × Value → H) : ∃ places, DataW.whole enc Try.prog ((laidWorld os).forCall (fun _ _ => 0) ⟨#[], #[.slice none 0 0], []⟩).memory Try.f9.params.toList Rows.fnTidesSpec.vars false (#[.slice none 0 0] : Array Value).toList 8 = some ([.nil], [], places) :=
  ⟨[], by kernel_rfl⟩

set_option maxRecDepth 100000 in
theorem lifted (os : Os) (started : os.Started) (H : Type) (enc : TypeId × Value → H) (F : Stop.Interp) :
    ReturnsInHanded {} Try.checked os 9 .any ((OpenSpec.ofChange Rows.fnTidesSpec).preRow enc Try.prog Try.f9 Rows.fnTidesRow.domain false Rows.fnTidesRow.laid) (((OpenSpec.ofChange Rows.fnTidesSpec).at F).post enc Try.prog Try.f9 false true false false) := by
  obtain ⟨places, hx⟩ := reads os enc
  refine returnsInHanded_of_row (C := Try.checked) (s := (OpenSpec.ofChange Rows.fnTidesSpec)) own started (by kernel_rfl) Try.func9
    (witness_row_at (enc := enc) (C := Try.checked) false (laidWorld os) #[.slice none 0 0] rfl (by kernel_rfl) (by kernel_rfl) (by kernel_rfl)
      (OpenSpec.preRow_of_cond 8 hx (by kernel_rfl) (fun k hk => by cases hk) (by kernel_rfl) (laidMetH_nil _ _))) ?_
  intro W base args ds gs before hval hW _ _ _ _ _ _
  exact contract H enc W base args ds gs before hval hW

set_option maxRecDepth 100000 in
theorem said : Rows.FnTidesSaid :=
  OpenClaim.holds_of_cond 9 Try.f9 rfl rfl rfl rfl rfl rfl rfl ⟨rfl, rfl, rfl, rfl, rfl⟩ rfl rfl rfl rfl rfl (by kernel_rfl) Try.func9 (by kernel_rfl)
    (of_decide_eq_true (by kernel_rfl)) (by unfold Func.isWrapper; first | (rw [if_pos (by decide +kernel)]; kernel_rfl) | (rw [if_neg (by decide +kernel)]; exact ⟨rfl, rfl⟩))
    (fun os started H enc _ F => by rw [OpenClaim.pre_eq_preRow]; exact lifted os started H enc F)

theorem proved : Rows.FnTidesSaid := said
#print axioms proved
end Go.Proofs.Ytkbgbllcekmfcaa.fnTides

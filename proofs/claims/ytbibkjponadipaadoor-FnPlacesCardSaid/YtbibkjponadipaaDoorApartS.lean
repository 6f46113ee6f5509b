/- Contract of the model's Apart. -/
import Derived.Test.YtbibkjponadipaaDoorLandS
import Derived.Deep.QuietTactic
import Derived.BigQuiet
namespace Go.Proofs.YtbibkjponadipaaDoor.LandS
open Go.RowKit Kit Rw Ld Md

theorem sMax_any (a b : Int) (w : World) :
    Calls Tryd.prog 30 #[.int .i64 a, .int .i64 b] w fun e w' => e = .returned (.int .i64 (mx a b)) ∧ w' = w := by
  unfold mx
  by_cases h : a < b
  · rw [if_pos h]
    go_enter Tryd.func30, Tryd.ntmps30
    go_wp2
    go_ret; exact ⟨rfl, rfl⟩
  · rw [if_neg h]
    go_enter Tryd.func30, Tryd.ntmps30
    go_wp2
    go_ret; exact ⟨rfl, rfl⟩

set_option maxHeartbeats 1000000 in
theorem sApart_any (w : World) (W H n m : Int) (v : Value) (X : List Int) (hv : Sees .i64 w v X) :
    Calls Tryd.prog 19 #[.agg #[.int .i64 W, .int .i64 H, v], .int .i64 n, .int .i64 m] w fun e w' => e = .returned (.int .i64 (apart W H X n m)) ∧ w.grownBy w' none := by
  have hl := hv.len
  have hgr := World.grownBy_alloc w (.cells #[.int .i64 W, .int .i64 H, v] 26 (0, 0)) none
  have HG := Lib.hid hgr
  have HV := Lib.hid (hv.grown hgr)
  have HB := Lib.hid (box_new w #[.int .i64 W, .int .i64 H, v] 26)
  obtain ⟨c0, c1, c2⟩ := HB.out.three
  obtain ⟨a, cap, rfl, _⟩ := hv
  clear hgr
  have hs := sIsCell_any _ W H n _ X HV.out
  by_cases hC : isCell W H X n = true
  · rw [hC] at hs
    have HS := Lib.hid hs
    have HC := Lib.hid hC
    clear hs hC
    by_cases hD : isCell W H X m = true
    · have HE : Hid (apart W H X n m = mx (n % W - m % W) (m % W - n % W) + mx (n / W - m / W) (m / W - n / W)) := by show _ = _; unfold apart; rw [if_pos ⟨HC.out, hD⟩]
      have HD := Lib.hid hD
      obtain ⟨hL, hn0, hn1⟩ := isCell_of HC.out
      obtain ⟨_, hm0, hm1⟩ := isCell_of hD
      obtain ⟨⟨hW1, hW8⟩, hH, hLen, _⟩ := isLand_of hL
      have hA := area ⟨hW1, hW8⟩ hH
      rw [← hLen] at hA
      obtain ⟨hA0, hA1⟩ := hA
      have e1 := Int.emod_nonneg n (show W ≠ 0 by omega)
      have e2 := Int.emod_lt_of_pos n (show 0 < W by omega)
      have e3 := Int.emod_nonneg m (show W ≠ 0 by omega)
      have e4 := Int.emod_lt_of_pos m (show 0 < W by omega)
      have e5 : 0 ≤ n / W := Int.ediv_nonneg hn0 (by omega)
      have e6 : n / W ≤ n := Int.ediv_le_self _ hn0
      have e7 : 0 ≤ m / W := Int.ediv_nonneg hm0 (by omega)
      have e8 : m / W ≤ m := Int.ediv_le_self _ hm0
      clear hD hL hH hLen
      go_enter Tryd.func19, Tryd.ntmps19
      go_wp2_with fail
      refine HS.out.mono ?_
      rintro e w2 ⟨rfl, hg⟩
      have HG2 := Lib.hid (grownN_trans HG.out hg)
      have HV2 := Lib.hid (HV.out.grown hg)
      have HB2 := Lib.hid (HB.out.grown hg)
      obtain ⟨d0, d1, d2⟩ := HB2.out.three
      have hs2 := sIsCell_any w2 W H m _ X HV2.out
      rw [HD.out] at hs2
      have HS2 := Lib.hid hs2
      clear hg hs2 c0 c1 c2
      go_wp2_with fail
      refine HS2.out.mono ?_
      rintro e w3 ⟨rfl, hg⟩
      have HG3 := Lib.hid (grownN_trans HG2.out hg)
      have HB3 := Lib.hid (HB2.out.grown hg)
      clear d0 d1 d2
      obtain ⟨d0, d1, d2⟩ := HB3.out.three
      clear hg
      have t1 : n.tmod W = n % W := Int.tmod_eq_emod_of_nonneg hn0
      have t2 : m.tmod W = m % W := Int.tmod_eq_emod_of_nonneg hm0
      have t3 : n.tdiv W = n / W := Int.tdiv_eq_ediv_of_nonneg hn0
      have t4 : m.tdiv W = m / W := Int.tdiv_eq_ediv_of_nonneg hm0
      have hmx : ∀ x y : Int, (mx x y = x ∨ mx x y = y) := fun x y => by unfold mx; split <;> simp
      have w1 : IntKind.i64.wrap (n % W - m % W) = n % W - m % W := IntWalk.i64_in _ (by omega)
      have w2' : IntKind.i64.wrap (m % W - n % W) = m % W - n % W := IntWalk.i64_in _ (by omega)
      have w3' : IntKind.i64.wrap (n / W - m / W) = n / W - m / W := IntWalk.i64_in _ (by omega)
      have w4 : IntKind.i64.wrap (m / W - n / W) = m / W - n / W := IntWalk.i64_in _ (by omega)
      have w5 : IntKind.i64.wrap (mx (n % W - m % W) (m % W - n % W) + mx (n / W - m / W) (m / W - n / W)) = mx (n % W - m % W) (m % W - n % W) + mx (n / W - m / W) (m / W - n / W) := IntWalk.i64_in _ (by
        rcases hmx (n % W - m % W) (m % W - n % W) with h1 | h1 <;> rcases hmx (n / W - m / W) (m / W - n / W) with h2 | h2 <;> rw [h1, h2] <;> omega)
      clear hmx
      go_wp2_with fail
      go_quiet ((go_at_call 30; exact Calls.quiet_of_same (sMax_any _ _ _)))
      go_wp2
      go_ret
      exact ⟨ret_i64 HE.out.symm, grown_drewN HG3.out _⟩
    · have hD2 : isCell W H X m = false := by simpa using hD
      have HE : Hid (apart W H X n m = -1) := by show _ = _; unfold apart; rw [if_neg (fun h => hD h.2)]
      have HD := Lib.hid hD2
      clear hD hD2
      go_enter Tryd.func19, Tryd.ntmps19
      go_wp2_with fail
      refine HS.out.mono ?_
      rintro e w2 ⟨rfl, hg⟩
      have HG2 := Lib.hid (grownN_trans HG.out hg)
      have HV2 := Lib.hid (HV.out.grown hg)
      obtain ⟨d0, d1, d2⟩ := (HB.out.grown hg).three
      have hs2 := sIsCell_any w2 W H m _ X HV2.out
      rw [HD.out] at hs2
      have HS2 := Lib.hid hs2
      clear hg hs2 c0 c1 c2
      go_wp2_with fail
      refine HS2.out.mono ?_
      rintro e w3 ⟨rfl, hg⟩
      have HG3 := Lib.hid (grownN_trans HG2.out hg)
      clear hg
      go_wp2
      go_ret
      exact ⟨ret_i64 HE.out.symm, HG3.out⟩
  · have hC2 : isCell W H X n = false := by simpa using hC
    rw [hC2] at hs
    have HS := Lib.hid hs
    have HE : Hid (apart W H X n m = -1) := by show _ = _; unfold apart; rw [if_neg (fun h => hC h.1)]
    clear hs hC hC2
    go_enter Tryd.func19, Tryd.ntmps19
    go_wp2_with fail
    refine HS.out.mono ?_
    rintro e w2 ⟨rfl, hg⟩
    have HG2 := Lib.hid (grownN_trans HG.out hg)
    clear hg
    go_wp2
    go_ret
    exact ⟨ret_i64 HE.out.symm, HG2.out⟩

end Go.Proofs.YtbibkjponadipaaDoor.LandS

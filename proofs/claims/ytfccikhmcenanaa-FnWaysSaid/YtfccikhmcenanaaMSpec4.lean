/- Contracts of the model's IsLand, IsCell and IsOpen. Contract of the model's Apart. Contract of the model's CountCells. Contracts of the model's Near, Apart and CountCells. Contract of the model's Near. -/
import Derived.Test.YtfccikhmcenanaaMBase
import Derived.IntWalk
import Derived.Deep.RegionWith
import Derived.Deep.QuietTactic
import Derived.BigQuiet
import Derived.Deep.DeepCutAuto
namespace Go.Proofs.Ytfccikhmcenanaa.LandS
open Go.RowKit Kit Rw Ld Md

set_option maxHeartbeats 1000000 in
theorem sIsLand_any (w : World) (W H : Int) (v : Value) (X : List Int) (hv : Sees .i64 w v X) :
    Calls Try.prog 40 #[.agg #[.int .i64 W, .int .i64 H, v]] w fun e w' => e = .returned (.bool (isLand W H X)) ∧ w.grownBy w' none := by
  have hl := hv.len
  have HG := Lib.hid (World.grownBy_alloc w (.cells #[.int .i64 W, .int .i64 H, v] 26 (0, 0)) none)
  have HV := Lib.hid (hv.grown HG.out)
  obtain ⟨c0, c1, c2⟩ := (box_new w #[.int .i64 W, .int .i64 H, v] 26).three
  obtain ⟨a, cap, rfl, _⟩ := hv
  by_cases hW : 1 ≤ W ∧ W ≤ 8
  · by_cases hH : 1 ≤ H ∧ H ≤ 8
    · have hA := area hW hH
      have HW := Lib.hid hW
      have HH := Lib.hid hH
      have hp : IntKind.i64.wrap (W * H) = W * H := IntWalk.i64_in _ (by omega)
      clear hW hH
      by_cases hLen : (X.length : Int) = W * H
      · have hLen2 : ((X.length : Int) == W * H) = true := by simpa using hLen
        have hLen3 : ((X.length : Int) != W * H) = false := by simpa using hLen
        have HLen := Lib.hid hLen
        clear hLen
        go_enter Try.func40, Try.ntmps40
        go_wp2_with (first
          | (go_at_call_of 61 (Value.int IntKind.i64 W); refine (l1In_yes _ HW.out).mono ?_; rintro e w' ⟨rfl, rfl⟩)
          | (go_at_call_of 61 (Value.int IntKind.i64 H); refine (l1In_yes _ HH.out).mono ?_; rintro e w' ⟨rfl, rfl⟩))
        clear hLen2 hLen3 hp
        generalize w.alloc (.cells #[.int .i64 W, .int .i64 H, .slice a X.length cap] 26 (0, 0)) = W1 at *
        go_loop [3] (fun i => ∃ j : Nat, j ≤ X.length ∧ i = .int .i64 j ∧ Hid (∀ m, m < j → 0 ≤ X.getD m 0 ∧ X.getD m 0 ≤ 2)) (fun i => X.length - (intOf i).toNat)
        case atStart => exact ⟨0, Nat.zero_le _, rfl, fun m hm => absurd hm (Nat.not_lt_zero _)⟩
        case round =>
          obtain ⟨j, hj, rfl, HE⟩ := hrel
          by_cases hlt : j < X.length
          · obtain ⟨x, hx⟩ : ∃ x, x = X.getD j 0 := ⟨_, rfl⟩
            obtain ⟨b, o, rfl, hcj⟩ := HV.out.at_row hlt
            rw [← hx] at hcj
            have HX := Lib.hid hx
            clear hx
            by_cases hk : 0 ≤ x ∧ x ≤ 2
            · have HK := Lib.hid hk
              clear hk
              go_wp2_with fail
              refine (l1In_yes _ HK.out).mono ?_
              rintro e w' ⟨rfl, rfl⟩
              go_wp2
              go_round
              case rel =>
                refine ⟨j + 1, by omega, by go_num, fun m hm => ?_⟩
                by_cases h : m = j
                · subst h; rw [← HX.out]; exact HK.out
                · exact HE.out m (by omega)
              case measure => simp [intOf]; omega
            · have HK := Lib.hid hk
              have HL : Hid (isLand W H X = false) := isLand_no (fun h => hk (by rw [HX.out]; exact h.2.2.2 _ (mem_getD hlt)))
              clear hk
              go_wp2_with fail
              refine (l1In_no _ HK.out).mono ?_
              rintro e w' ⟨rfl, rfl⟩
              go_wp2
              go_ret
              exact ⟨ret_bool HL.out.symm, HG.out⟩
          · have HL : Hid (isLand W H X = true) := isLand_mk ⟨HW.out, HH.out, HLen.out, fun k hk => by
              obtain ⟨m, hm, rfl⟩ := List.getElem_of_mem hk
              have := HE.out m (by omega)
              simpa [hm] using this⟩
            go_wp2
            go_ret
            exact ⟨ret_bool HL.out.symm, HG.out⟩
      · have hLen2 : ((X.length : Int) == W * H) = false := by simpa using hLen
        have hLen3 : ((X.length : Int) != W * H) = true := by simpa using hLen
        have HL := Lib.hid (isLand_no (W := W) (H := H) (X := X) (fun h => hLen h.2.2.1))
        clear hLen
        go_enter Try.func40, Try.ntmps40
        go_wp2_with (first
          | (go_at_call_of 61 (Value.int IntKind.i64 W); refine (l1In_yes _ HW.out).mono ?_; rintro e w' ⟨rfl, rfl⟩)
          | (go_at_call_of 61 (Value.int IntKind.i64 H); refine (l1In_yes _ HH.out).mono ?_; rintro e w' ⟨rfl, rfl⟩))
        go_ret
        exact ⟨ret_bool HL.out.symm, HG.out⟩
    · have HW := Lib.hid hW
      have HH := Lib.hid hH
      have HL := Lib.hid (isLand_no (W := W) (H := H) (X := X) (fun h => hH h.2.1))
      clear hW hH
      go_enter Try.func40, Try.ntmps40
      go_wp2_with fail
      refine (l1In_yes _ HW.out).mono ?_
      rintro e w' ⟨rfl, rfl⟩
      go_wp2_with fail
      refine (l1In_no _ HH.out).mono ?_
      rintro e w' ⟨rfl, rfl⟩
      go_wp2
      go_ret
      exact ⟨ret_bool HL.out.symm, HG.out⟩
  · have HW := Lib.hid hW
    have HL := Lib.hid (isLand_no (W := W) (H := H) (X := X) (fun h => hW h.1))
    clear hW
    go_enter Try.func40, Try.ntmps40
    go_wp2_with fail
    refine (l1In_no _ HW.out).mono ?_
    rintro e w' ⟨rfl, rfl⟩
    go_wp2
    go_ret
    exact ⟨ret_bool HL.out.symm, HG.out⟩

set_option maxHeartbeats 400000 in
theorem sIsCell_any (w : World) (W H n : Int) (v : Value) (X : List Int) (hv : Sees .i64 w v X) :
    Calls Try.prog 19 #[.agg #[.int .i64 W, .int .i64 H, v], .int .i64 n] w fun e w' => e = .returned (.bool (isCell W H X n)) ∧ w.grownBy w' none := by
  have hl := hv.len
  have hgr := World.grownBy_alloc w (.cells #[.int .i64 W, .int .i64 H, v] 26 (0, 0)) none
  have HG := Lib.hid hgr
  have HV := Lib.hid (hv.grown hgr)
  have HB := Lib.hid (box_new w #[.int .i64 W, .int .i64 H, v] 26)
  obtain ⟨c0, c1, c2⟩ := HB.out.three
  obtain ⟨a, cap, rfl, _⟩ := hv
  clear hgr
  have hs := sIsLand_any _ W H _ X HV.out
  by_cases hL : isLand W H X = true
  · rw [hL] at hs
    have HS := Lib.hid hs
    have HL := Lib.hid hL
    clear hs hL
    go_enter Try.func19, Try.ntmps19
    go_wp2_with fail
    refine HS.out.mono ?_
    rintro e w2 ⟨rfl, hg⟩
    have HG2 := Lib.hid (grownN_trans HG.out hg)
    obtain ⟨d0, d1, d2⟩ := (HB.out.grown hg).three
    clear hg
    go_wp2_with fail
    refine (l1In_any n 0 ((X.length : Int) - 1) _).mono ?_
    rintro e w3 ⟨rfl, rfl⟩
    go_wp2
    go_ret
    refine ⟨ret_bool ?_, HG2.out⟩
    simp [isCell, HL.out]
  · have hL2 : isLand W H X = false := by simpa using hL
    rw [hL2] at hs
    have HS := Lib.hid hs
    have HL := Lib.hid hL2
    clear hs hL hL2
    go_enter Try.func19, Try.ntmps19
    go_wp2_with fail
    refine HS.out.mono ?_
    rintro e w2 ⟨rfl, hg⟩
    have HG2 := Lib.hid (grownN_trans HG.out hg)
    clear hg
    go_wp2
    go_ret
    refine ⟨ret_bool ?_, HG2.out⟩
    simp [isCell, HL.out]

set_option maxHeartbeats 400000 in
theorem sIsOpen_any (w : World) (W H n : Int) (v : Value) (X : List Int) (hv : Sees .i64 w v X) :
    Calls Try.prog 43 #[.agg #[.int .i64 W, .int .i64 H, v], .int .i64 n] w fun e w' => e = .returned (.bool (isOpen W H X n)) ∧ w.grownBy w' none := by
  have hl := hv.len
  have hgr := World.grownBy_alloc w (.cells #[.int .i64 W, .int .i64 H, v] 26 (0, 0)) none
  have HG := Lib.hid hgr
  have HV := Lib.hid (hv.grown hgr)
  have HB := Lib.hid (box_new w #[.int .i64 W, .int .i64 H, v] 26)
  obtain ⟨c0, c1, c2⟩ := HB.out.three
  obtain ⟨a, cap, rfl, _⟩ := hv
  clear hgr
  have hs := sIsCell_any _ W H n _ X HV.out
  by_cases hC : isCell W H X n = true
  · rw [hC] at hs
    obtain ⟨hL, h0, h1⟩ := isCell_of hC
    obtain ⟨m, rfl⟩ : ∃ m : Nat, n = m := ⟨n.toNat, by omega⟩
    have hm : m < X.length := by omega
    obtain ⟨x, hx⟩ : ∃ x, x = X.getD m 0 := ⟨_, rfl⟩
    have HX := Lib.hid hx
    have HS := Lib.hid hs
    have HC := Lib.hid hC
    clear hs hC hL hx
    go_enter Try.func43, Try.ntmps43
    go_wp2_with fail
    refine HS.out.mono ?_
    rintro e w2 ⟨rfl, hg⟩
    have HG2 := Lib.hid (grownN_trans HG.out hg)
    obtain ⟨d0, d1, d2⟩ := (HB.out.grown hg).three
    obtain ⟨b, o, rfl, hcj⟩ := (HV.out.grown hg).at_row hm
    rw [← HX.out] at hcj
    clear hg
    go_wp2
    go_ret
    refine ⟨ret_bool ?_, HG2.out⟩
    simp only [isOpen, HC.out, HX.out, Bool.true_and, Int.toNat_natCast]
    rw [Bool.eq_iff_iff]
    simp
  · have hC2 : isCell W H X n = false := by simpa using hC
    rw [hC2] at hs
    have HS := Lib.hid hs
    have HC := Lib.hid hC2
    clear hs hC hC2
    go_enter Try.func43, Try.ntmps43
    go_wp2_with fail
    refine HS.out.mono ?_
    rintro e w2 ⟨rfl, hg⟩
    have HG2 := Lib.hid (grownN_trans HG.out hg)
    clear hg
    go_wp2
    go_ret
    refine ⟨ret_bool ?_, HG2.out⟩
    simp [isOpen, HC.out]
end Go.Proofs.Ytfccikhmcenanaa.LandS

namespace Go.Proofs.Ytfccikhmcenanaa.LandS
open Go.RowKit Kit Rw Ld Md

theorem sMax_any (a b : Int) (w : World) :
    Calls Try.prog 75 #[.int .i64 a, .int .i64 b] w fun e w' => e = .returned (.int .i64 (mx a b)) ∧ w' = w := by
  unfold mx
  by_cases h : a < b
  · rw [if_pos h]
    go_enter Try.func75, Try.ntmps75
    go_wp2
    go_ret; exact ⟨rfl, rfl⟩
  · rw [if_neg h]
    go_enter Try.func75, Try.ntmps75
    go_wp2
    go_ret; exact ⟨rfl, rfl⟩

set_option maxHeartbeats 1000000 in
theorem sApart_any (w : World) (W H n m : Int) (v : Value) (X : List Int) (hv : Sees .i64 w v X) :
    Calls Try.prog 49 #[.agg #[.int .i64 W, .int .i64 H, v], .int .i64 n, .int .i64 m] w fun e w' => e = .returned (.int .i64 (apart W H X n m)) ∧ w.grownBy w' none := by
  have hl := hv.len
  have hgr := World.grownBy_alloc w (.cells #[.int .i64 W, .int .i64 H, v] 26 (0, 0)) none
  have HG := Lib.hid hgr
  have HV := Lib.hid (hv.grown hgr)
  have HB := Lib.hid (box_new w #[.int .i64 W, .int .i64 H, v] 26)
  obtain ⟨c0, c1, c2⟩ := HB.out.three
  obtain ⟨a, cap, rfl, _⟩ := hv
  clear hgr
  have hs := sIsCell_any _ W H n _ X HV.out
  by_cases hC : isCell W H X n = true
  · rw [hC] at hs
    have HS := Lib.hid hs
    have HC := Lib.hid hC
    clear hs hC
    by_cases hD : isCell W H X m = true
    · have HE : Hid (apart W H X n m = mx (n % W - m % W) (m % W - n % W) + mx (n / W - m / W) (m / W - n / W)) := by show _ = _; unfold apart; rw [if_pos ⟨HC.out, hD⟩]
      have HD := Lib.hid hD
      obtain ⟨hL, hn0, hn1⟩ := isCell_of HC.out
      obtain ⟨_, hm0, hm1⟩ := isCell_of hD
      obtain ⟨⟨hW1, hW8⟩, hH, hLen, _⟩ := isLand_of hL
      have hA := area ⟨hW1, hW8⟩ hH
      rw [← hLen] at hA
      obtain ⟨hA0, hA1⟩ := hA
      have e1 := Int.emod_nonneg n (show W ≠ 0 by omega)
      have e2 := Int.emod_lt_of_pos n (show 0 < W by omega)
      have e3 := Int.emod_nonneg m (show W ≠ 0 by omega)
      have e4 := Int.emod_lt_of_pos m (show 0 < W by omega)
      have e5 : 0 ≤ n / W := Int.ediv_nonneg hn0 (by omega)
      have e6 : n / W ≤ n := Int.ediv_le_self _ hn0
      have e7 : 0 ≤ m / W := Int.ediv_nonneg hm0 (by omega)
      have e8 : m / W ≤ m := Int.ediv_le_self _ hm0
      clear hD hL hH hLen
      go_enter Try.func49, Try.ntmps49
      go_wp2_with fail
      refine HS.out.mono ?_
      rintro e w2 ⟨rfl, hg⟩
      have HG2 := Lib.hid (grownN_trans HG.out hg)
      have HV2 := Lib.hid (HV.out.grown hg)
      have HB2 := Lib.hid (HB.out.grown hg)
      obtain ⟨d0, d1, d2⟩ := HB2.out.three
      have hs2 := sIsCell_any w2 W H m _ X HV2.out
      rw [HD.out] at hs2
      have HS2 := Lib.hid hs2
      clear hg hs2 c0 c1 c2
      go_wp2_with fail
      refine HS2.out.mono ?_
      rintro e w3 ⟨rfl, hg⟩
      have HG3 := Lib.hid (grownN_trans HG2.out hg)
      have HB3 := Lib.hid (HB2.out.grown hg)
      clear d0 d1 d2
      obtain ⟨d0, d1, d2⟩ := HB3.out.three
      clear hg
      have t1 : n.tmod W = n % W := Int.tmod_eq_emod_of_nonneg hn0
      have t2 : m.tmod W = m % W := Int.tmod_eq_emod_of_nonneg hm0
      have t3 : n.tdiv W = n / W := Int.tdiv_eq_ediv_of_nonneg hn0
      have t4 : m.tdiv W = m / W := Int.tdiv_eq_ediv_of_nonneg hm0
      have hmx : ∀ x y : Int, (mx x y = x ∨ mx x y = y) := fun x y => by unfold mx; split <;> simp
      have w1 : IntKind.i64.wrap (n % W - m % W) = n % W - m % W := IntWalk.i64_in _ (by omega)
      have w2' : IntKind.i64.wrap (m % W - n % W) = m % W - n % W := IntWalk.i64_in _ (by omega)
      have w3' : IntKind.i64.wrap (n / W - m / W) = n / W - m / W := IntWalk.i64_in _ (by omega)
      have w4 : IntKind.i64.wrap (m / W - n / W) = m / W - n / W := IntWalk.i64_in _ (by omega)
      have w5 : IntKind.i64.wrap (mx (n % W - m % W) (m % W - n % W) + mx (n / W - m / W) (m / W - n / W)) = mx (n % W - m % W) (m % W - n % W) + mx (n / W - m / W) (m / W - n / W) := IntWalk.i64_in _ (by
        rcases hmx (n % W - m % W) (m % W - n % W) with h1 | h1 <;> rcases hmx (n / W - m / W) (m / W - n / W) with h2 | h2 <;> rw [h1, h2] <;> omega)
      clear hmx
      go_wp2_with fail
      go_quiet ((go_at_call 75; exact Calls.quiet_of_same (sMax_any _ _ _)))
      go_wp2
      go_ret
      exact ⟨ret_i64 HE.out.symm, grown_drewN HG3.out _⟩
    · have hD2 : isCell W H X m = false := by simpa using hD
      have HE : Hid (apart W H X n m = -1) := by show _ = _; unfold apart; rw [if_neg (fun h => hD h.2)]
      have HD := Lib.hid hD2
      clear hD hD2
      go_enter Try.func49, Try.ntmps49
      go_wp2_with fail
      refine HS.out.mono ?_
      rintro e w2 ⟨rfl, hg⟩
      have HG2 := Lib.hid (grownN_trans HG.out hg)
      have HV2 := Lib.hid (HV.out.grown hg)
      obtain ⟨d0, d1, d2⟩ := (HB.out.grown hg).three
      have hs2 := sIsCell_any w2 W H m _ X HV2.out
      rw [HD.out] at hs2
      have HS2 := Lib.hid hs2
      clear hg hs2 c0 c1 c2
      go_wp2_with fail
      refine HS2.out.mono ?_
      rintro e w3 ⟨rfl, hg⟩
      have HG3 := Lib.hid (grownN_trans HG2.out hg)
      clear hg
      go_wp2
      go_ret
      exact ⟨ret_i64 HE.out.symm, HG3.out⟩
  · have hC2 : isCell W H X n = false := by simpa using hC
    rw [hC2] at hs
    have HS := Lib.hid hs
    have HE : Hid (apart W H X n m = -1) := by show _ = _; unfold apart; rw [if_neg (fun h => hC h.1)]
    clear hs hC hC2
    go_enter Try.func49, Try.ntmps49
    go_wp2_with fail
    refine HS.out.mono ?_
    rintro e w2 ⟨rfl, hg⟩
    have HG2 := Lib.hid (grownN_trans HG.out hg)
    clear hg
    go_wp2
    go_ret
    exact ⟨ret_i64 HE.out.symm, HG2.out⟩

end Go.Proofs.Ytfccikhmcenanaa.LandS

namespace Go.Proofs.Ytfccikhmcenanaa.LandS
open Go.RowKit Kit Rw Ld Md

theorem count_next {X : List Int} {k : Int} {j : Nat} (hj : j < X.length) : ((X.take (j + 1)).filter fun x => x == k).length = ((X.take j).filter fun x => x == k).length + (if X.getD j 0 = k then 1 else 0) := by
  rw [List.take_add_one, List.filter_append, List.length_append]
  congr 1
  by_cases h : X[j] = k <;> simp [hj, h]

set_option maxHeartbeats 1000000 in
theorem sCount_any (w : World) (W H n : Int) (v : Value) (X : List Int) (hv : Sees .i64 w v X) :
    Calls Try.prog 50 #[.agg #[.int .i64 W, .int .i64 H, v], .int .i64 n] w fun e w' => e = .returned (.int .i64 (count W H X n)) ∧ w.grownBy w' none := by
  have hl := hv.len
  have hgr := World.grownBy_alloc w (.cells #[.int .i64 W, .int .i64 H, v] 26 (0, 0)) none
  have HG := Lib.hid hgr
  have HV := Lib.hid (hv.grown hgr)
  have HB := Lib.hid (box_new w #[.int .i64 W, .int .i64 H, v] 26)
  obtain ⟨c0, c1, c2⟩ := HB.out.three
  obtain ⟨a, cap, rfl, _⟩ := hv
  clear hgr
  by_cases hL : isLand W H X = true
  · have HC : Hid (count W H X n = ((X.filter fun x => x == n).length : Int)) := by show _ = _; unfold count; rw [if_pos hL]
    have HL := Lib.hid hL
    clear hL
    go_enter Try.func50, Try.ntmps50
    go_wp2
    generalize w.alloc (.cells #[.int .i64 W, .int .i64 H, .slice a X.length cap] 26 (0, 0)) = W1 at *
    clear c0 c1 c2
    go_loopw [5, 6] (fun s i wr => ∃ j : Nat, j ≤ X.length ∧ i = .int .i64 j ∧ s = .int .i64 (((X.take j).filter fun x => x == n).length : Int) ∧ Hid (W1.grownBy wr none)) (fun _ i _ => X.length - (intOf i).toNat)
    case atStart => exact ⟨0, Nat.zero_le _, rfl, by simp, World.grownBy.refl _ _⟩
    case round =>
      obtain ⟨j, hj, rfl, rfl, HR⟩ := hrel
      obtain ⟨d0, d1, d2⟩ := (HB.out.grown HR.out).three
      obtain ⟨y, hy⟩ : ∃ y, y = ((X.take j).filter fun x => x == n).length := ⟨_, rfl⟩
      have hyj : y ≤ j := by rw [hy]; exact Nat.le_trans (List.length_filter_le _ _) (by simp; omega)
      rw [← hy]
      have HY := Lib.hid hy
      clear hy
      by_cases hlt : j < X.length
      · have hs := sIsLand_any wr W H _ X (HV.out.grown HR.out)
        rw [HL.out] at hs
        have HS := Lib.hid hs
        have HN := Lib.hid (count_next (k := n) hlt)
        clear hs
        obtain ⟨x, hx⟩ : ∃ x, x = X.getD j 0 := ⟨_, rfl⟩
        have HX := Lib.hid hx
        clear hx
        go_wp2_with fail
        refine HS.out.mono ?_
        rintro e w2 ⟨rfl, hg⟩
        have HR2 := Lib.hid (grownN_trans HR.out hg)
        clear d0 d1 d2
        obtain ⟨d0, d1, d2⟩ := (HB.out.grown HR2.out).three
        obtain ⟨b, o, rfl, hcj⟩ := (HV.out.grown HR2.out).at_row hlt
        rw [← HX.out] at hcj
        clear hg
        by_cases hxn : x = n
        · have hb : (x == n) = true := by simpa using hxn
          go_wp2
          go_roundw
          case rel => exact ⟨j + 1, by omega, by go_num, by rw [HN.out, ← HY.out, ← HX.out, if_pos hxn]; go_num, HR2⟩
          case measure => simp [intOf]; omega
        · have hb : (x == n) = false := by simpa using hxn
          go_wp2
          go_roundw
          case rel => exact ⟨j + 1, by omega, by go_num, by rw [HN.out, ← HY.out, ← HX.out, if_neg hxn]; go_num, HR2⟩
          case measure => simp [intOf]; omega
      · have : j = X.length := by omega
        subst this
        go_wp2
        go_ret
        exact ⟨ret_i64 (by rw [HC.out, HY.out, List.take_length]), grownN_trans HG.out HR.out⟩
  · have HC : Hid (count W H X n = 0) := by show _ = _; unfold count; rw [if_neg hL]
    have hL2 : isLand W H X = false := by simpa using hL
    have hs := sIsLand_any _ W H _ X HV.out
    rw [hL2] at hs
    have HS := Lib.hid hs
    clear hL hL2 hs
    go_enter Try.func50, Try.ntmps50
    go_wp2
    refine wp_loop_rounds 1 ?_
    rw [rounds_succ]
    by_cases h0 : 0 < X.length
    · go_wp2_with fail
      refine HS.out.mono ?_
      rintro e w2 ⟨rfl, hg⟩
      have HG2 := Lib.hid (grownN_trans HG.out hg)
      clear hg
      go_wp2
      go_ret
      exact ⟨ret_i64 HC.out.symm, HG2.out⟩
    · go_wp2
      go_ret
      exact ⟨ret_i64 HC.out.symm, HG.out⟩
end Go.Proofs.Ytfccikhmcenanaa.LandS

namespace Go.Proofs.Ytfccikhmcenanaa.LandS
open Go.RowKit Kit Rw Ld Md

theorem vbool {a b : Bool} (h : a = b) : Value.bool a = Value.bool b := by rw [h]
/-- Where the walk through l4Near stands: what has been collected, the land in its box, its row. -/
structure NR (w wx : World) (p H : Int) (b o un uc : Nat) (X L : List Int) (s : Value) : Prop where
  own : Own .i64 3 wx (w.heap.size + 1) s L
  box : Box wx w.heap.size #[.int .i64 p, .int .i64 H, .slice (some ⟨b, o, none⟩) un uc] 26
  row : Sees .i64 wx (.slice (some ⟨b, o, none⟩) un uc) X
  grown : w.grownBy wx none
theorem NR.on {w wx wy : World} {p H : Int} {b o un uc : Nat} {X L : List Int} {s : Value} (h : NR w wx p H b o un uc X L s) (hg : wx.grownBy wy none) : NR w wy p H b o un uc X L s :=
  ⟨h.own.grown hg, h.box.grown hg, h.row.grown hg, grownN_trans h.grown hg⟩
/-- Behind an append to what is collected. -/
theorem NR.more {w wx wy : World} {p H : Int} {b o un uc : Nat} {X L M : List Int} {s s' : Value} (h : NR w wx p H b o un uc X L s) (ho : Own .i64 3 wy (w.heap.size + 1) s' M) (hg : wx.grownBy wy s.ownBlock) (hb : b < w.heap.size) : NR w wy p H b o un uc X M s' := by
  have h1 : s.ownBlock ≠ some w.heap.size := h.own.off (Nat.lt_succ_self _)
  have h2 : s.ownBlock ≠ some b := h.own.off (by omega)
  refine ⟨ho, h.box.kept hg h1, h.row.kept hg (.inr (by simpa [Value.ownBlock] using fun e => h2 e.symm)), grown_new h.grown hg (fun c hc => by have := h.own.lt c hc; omega)⟩

set_option maxRecDepth 100000 in
set_option maxHeartbeats 4000000 in
theorem l4Near_any (w : World) (W H n : Int) (v : Value) (X : List Int) (hv : Sees .i64 w v X) (hc : isCell W H X n = true) :
    Calls Try.prog 74 #[.agg #[.int .i64 W, .int .i64 H, v], .int .i64 n] w fun e w' => ∃ u, e = .returned u ∧ Own .i64 3 w' w.heap.size u (near W n X) ∧ w.grownBy w' none := by
  obtain ⟨hL, hn0, hn1⟩ := isCell_of hc
  obtain ⟨hW, hH, hLen, _⟩ := isLand_of hL
  have hA := area hW hH
  obtain ⟨p, rfl⟩ : ∃ p : Nat, W = p := ⟨W.toNat, by omega⟩
  obtain ⟨q, rfl⟩ : ∃ q : Nat, n = q := ⟨n.toNat, by omega⟩
  have hp : 1 ≤ p ∧ p ≤ 8 := by omega
  have hq : q < X.length := by omega
  have hx64 : X.length ≤ 64 := by omega
  have hright : q % p + 1 < p → q + 1 < X.length := by
    intro hm
    obtain ⟨h, rfl⟩ : ∃ h : Nat, H = h := ⟨H.toNat, by omega⟩
    have e : X.length = p * h := by exact_mod_cast hLen
    rw [e] at hq ⊢
    exact right_in hq hm
  obtain ⟨b, o, ha⟩ : ∃ b o, ∃ un uc, v = .slice (some ⟨b, o, none⟩) un uc ∧ Hid (X.length = un) ∧ b < w.heap.size := by
    obtain ⟨a, un, uc, hu, HUN⟩ := hv.shape
    subst hu
    obtain ⟨b, o, rfl, hcell⟩ := hv.at_row hq
    exact ⟨b, o, un, uc, rfl, HUN, World.block_lt_of_cell? w _ hcell⟩
  obtain ⟨un, uc, hu, HUN, hbw⟩ := ha
  subst hu
  have hun : un ≤ 64 ∧ q < un := by rw [← HUN.out]; exact ⟨hx64, hq⟩
  obtain ⟨hun0, hun1⟩ := hun
  obtain ⟨hp1, hp8⟩ := hp
  have HBW := Lib.hid hbw
  have hgr := World.grownBy_alloc w (.cells #[.int .i64 p, .int .i64 H, .slice (some ⟨b, o, none⟩) un uc] 26 (0, 0)) none
  have hnr : NR w ((w.alloc (.cells #[.int .i64 p, .int .i64 H, .slice (some ⟨b, o, none⟩) un uc] 26 (0, 0))).alloc (.cells #[] 3 (0, 0))) p H b o un uc X [] (.slice (some ⟨w.heap.size + 1, 0, none⟩) 0 0) := by
    have ho := own_empty (k := .i64) (E := 3) (w.alloc (.cells #[.int .i64 p, .int .i64 H, .slice (some ⟨b, o, none⟩) un uc] 26 (0, 0)))
    simp only [World.size_alloc] at ho
    exact ⟨ho, (box_new _ _ _).grown (World.grownBy_alloc _ _ none), (hv.grown hgr).grown (World.grownBy_alloc _ _ none), grownN_trans hgr (World.grownBy_alloc _ _ none)⟩
  have HN := Lib.hid hnr
  have HR : Hid (q % p + 1 < p → q + 1 < X.length) := hright
  clear hv hc hL hgr hW hH hLen hA hn0 hn1 hx64 hq hnr hbw hright
  obtain ⟨i0, hi, hz0, hz1, hz2⟩ := info_parts Inf.info_i64
  obtain ⟨c0, c1, c2⟩ := HN.out.box.three
  have hmod : (q : Int) % (p : Int) = ((q % p : Nat) : Int) := by omega
  have HM := Lib.hid hmod
  have hmlt : q % p < p := Nat.mod_lt _ (by omega)
  have hm0 : (0 : Int) ≤ (q : Int) % (p : Int) := Int.emod_nonneg _ (by omega)
  have hm1 : (q : Int) % (p : Int) < (p : Int) := Int.emod_lt_of_pos _ (by omega)
  clear hmod
  obtain ⟨b1, hb1⟩ : ∃ c, c = decide ((p : Int) ≤ (q : Int) ∧ X.getD (q - p) 0 ≠ 2) := ⟨_, rfl⟩
  have E1 : Hid (n1 p q X = if b1 = true then [(q : Int) - (p : Int)] else []) := by show _ = _; rw [hb1]; exact n1_nat p q X
  have HC1 := Lib.hid hb1; clear hb1
  obtain ⟨b2, hb2⟩ : ∃ c, c = decide ((0 : Int) < (q : Int) % (p : Int) ∧ X.getD (q - 1) 0 ≠ 2) := ⟨_, rfl⟩
  have E2 : Hid (n2 p q X = if b2 = true then [(q : Int) - 1] else []) := by show _ = _; rw [hb2]; exact n2_nat p q X
  have HC2 := Lib.hid hb2; clear hb2
  obtain ⟨b3, hb3⟩ : ∃ c, c = decide ((q : Int) % (p : Int) < (p : Int) - 1 ∧ X.getD (q + 1) 0 ≠ 2) := ⟨_, rfl⟩
  have E3 : Hid (n3 p q X = if b3 = true then [(q : Int) + 1] else []) := by show _ = _; rw [hb3]; exact n3_nat p q X
  have HC3 := Lib.hid hb3; clear hb3
  obtain ⟨b4, hb4⟩ : ∃ c, c = decide ((q : Int) + (p : Int) < (X.length : Int) ∧ X.getD (q + p) 0 ≠ 2) := ⟨_, rfl⟩
  have E4 : Hid (n4 p q X = if b4 = true then [(q : Int) + (p : Int)] else []) := by show _ = _; rw [hb4]; exact n4_nat p q X
  have HC4 := Lib.hid hb4; clear hb4
  go_enter Try.func74, Try.ntmps74
  go_upto_region 2 with (fail)
  go_cut [21] (fun s wx => s = .bool b1 ∧ Hid (NR w wx p H b o un uc X ([]) (.slice (some ⟨w.heap.size + 1, 0, none⟩) 0 0)))
  case first =>
    by_cases g : p ≤ q
    · have gi : ((p : Int) ≤ (q : Int)) := by omega
      have hcj := HN.out.row.at' (j := q - p) (by rw [HUN.out]; omega)
      obtain ⟨x, hx⟩ : ∃ x, x = X.getD (q - p) 0 := ⟨_, rfl⟩
      rw [← hx] at hcj
      have HX := Lib.hid hx; clear hx
      by_cases h2 : x = 2
      · subst h2
        go_wp2_with fail
        go_meet; exact ⟨vbool (by rw [HC1.out]; symm; rw [decide_eq_false_iff_not]; intro h; exact h.2 HX.out.symm), HN⟩
      · have h2b : (x != 2) = true := by simpa using h2
        go_wp2_with fail
        go_meet; exact ⟨vbool (by rw [HC1.out]; symm; rw [decide_eq_true_iff]; exact ⟨gi, by rw [← HX.out]; exact h2⟩), HN⟩
    · have gi : ((q : Int) < (p : Int)) := by omega
      go_wp2_with fail
      go_meet; exact ⟨vbool (by rw [HC1.out]; symm; rw [decide_eq_false_iff_not]; intro h; have := h.1; have := HUN.out; omega), HN⟩
  case rest =>
    obtain ⟨rfl, M1⟩ := hcut
    clear c0 c1 c2
    go_upto_if 21 with (fail)
    go_cut [5] (fun s wx => Hid (NR w wx p H b o un uc X (n1 p q X) s))
    case first =>
      obtain ⟨c0, c1, c2⟩ := M1.out.box.three
      have hll : ([] : List Int).length ≤ 10 := by simp
      have hsz := M1.out.box.lt
      cases b1
      · go_wp2_with fail
        go_meet; exact (by have h := M1; rw [show (n1 p q X : List Int) = [] by rw [E1.out]; simp]; exact h)
      · have gi : ((p : Int) ≤ (q : Int)) := by have h := HC1.out; symm at h; rw [decide_eq_true_iff] at h; have := h.1; have := HUN.out; omega
        go_wp2_with (at_builtin; go_loud (refine wpList_append_one _ rfl _ _ 24 rfl (w.heap.size + 1) 3 i0 (.int .i64 0) 8 Try.underlying24 hi hz0 hz1 hz2 rfl .i64 _ ([]) rfl M1.out.own ((q : Int) - (p : Int)) rfl (i64_mk (by omega)) (by omega) (by decide) (by omega) ?_); intro v3 w3 hown3 hgrow3; have HO3 := Lib.hid hown3; have HG3 := Lib.hid hgrow3; clear hown3 hgrow3)
        go_meet; exact (by have h := M1.out.more HO3.out HG3.out HBW.out; rw [show (n1 p q X : List Int) = [] ++ [(q : Int) - (p : Int)] by rw [E1.out]; simp]; exact h)
    case rest =>
      have Q1 := hcut; clear hcut
      go_upto_region 4 with (fail)
      go_cut [42] (fun s wx => s = .bool b2 ∧ Hid (NR w wx p H b o un uc X (n1 p q X) (u5)))
      case first =>
        obtain ⟨c0, c1, c2⟩ := Q1.out.box.three
        by_cases g : 0 < q % p
        · have gi : ((0 : Int) < (q : Int) % (p : Int)) := by rw [HM.out]; omega
          have hcj := Q1.out.row.at' (j := q - 1) (by rw [HUN.out]; omega)
          obtain ⟨x, hx⟩ : ∃ x, x = X.getD (q - 1) 0 := ⟨_, rfl⟩
          rw [← hx] at hcj
          have HX := Lib.hid hx; clear hx
          have hq1 : 1 ≤ q := by have := Nat.mod_le q p; omega
          by_cases h2 : x = 2
          · subst h2
            go_wp2_with fail
            go_meet; exact ⟨vbool (by rw [HC2.out]; symm; rw [decide_eq_false_iff_not]; intro h; exact h.2 HX.out.symm), Q1⟩
          · have h2b : (x != 2) = true := by simpa using h2
            go_wp2_with fail
            go_meet; exact ⟨vbool (by rw [HC2.out]; symm; rw [decide_eq_true_iff]; exact ⟨gi, by rw [← HX.out]; exact h2⟩), Q1⟩
        · have gi : ((q : Int) % (p : Int) ≤ 0) := by rw [HM.out]; omega
          go_wp2_with fail
          go_meet; exact ⟨vbool (by rw [HC2.out]; symm; rw [decide_eq_false_iff_not]; intro h; have := h.1; have := HUN.out; omega), Q1⟩
      case rest =>
        obtain ⟨rfl, M2⟩ := hcut
        go_upto_if 42 with (fail)
        go_cut [5] (fun s wx => Hid (NR w wx p H b o un uc X (n1 p q X ++ n2 p q X) s))
        case first =>
          obtain ⟨c0, c1, c2⟩ := M2.out.box.three
          have hll : (n1 p q X : List Int).length ≤ 10 := by have := n1_len p q X; omega
          have hsz := M2.out.box.lt
          cases b2
          · go_wp2_with fail
            go_meet; exact (by have h := M2; rw [show (n1 p q X ++ n2 p q X : List Int) = n1 p q X by rw [E2.out]; simp]; exact h)
          · have gi : ((0 : Int) < (q : Int) % (p : Int)) := by have h := HC2.out; symm at h; rw [decide_eq_true_iff] at h; have := h.1; have := HUN.out; omega
            have hq1 : 1 ≤ q := by have := Nat.mod_le q p; rw [HM.out] at gi; omega
            go_wp2_with (at_builtin; go_loud (refine wpList_append_one _ rfl _ _ 24 rfl (w.heap.size + 1) 3 i0 (.int .i64 0) 8 Try.underlying24 hi hz0 hz1 hz2 rfl .i64 _ (n1 p q X) rfl M2.out.own ((q : Int) - 1) rfl (i64_mk (by omega)) (by omega) (by decide) (by omega) ?_); intro v3 w3 hown3 hgrow3; have HO3 := Lib.hid hown3; have HG3 := Lib.hid hgrow3; clear hown3 hgrow3)
            go_meet; exact (by have h := M2.out.more HO3.out HG3.out HBW.out; rw [show (n1 p q X ++ n2 p q X : List Int) = n1 p q X ++ [(q : Int) - 1] by rw [E2.out]; simp]; exact h)
        case rest =>
          have Q2 := hcut; clear hcut
          go_upto_region 6 with (fail)
          go_cut [64] (fun s wx => s = .bool b3 ∧ Hid (NR w wx p H b o un uc X (n1 p q X ++ n2 p q X) (u5)))
          case first =>
            obtain ⟨c0, c1, c2⟩ := Q2.out.box.three
            by_cases g : q % p + 1 < p
            · have gi : ((q : Int) % (p : Int) < (p : Int) - 1) := by rw [HM.out]; omega
              have hcj := Q2.out.row.at' (j := q + 1) (by exact HR.out g)
              obtain ⟨x, hx⟩ : ∃ x, x = X.getD (q + 1) 0 := ⟨_, rfl⟩
              rw [← hx] at hcj
              have HX := Lib.hid hx; clear hx
              have hir : (q : Int) + 1 < (un : Int) := by have := HR.out g; have := HUN.out; omega
              by_cases h2 : x = 2
              · subst h2
                go_quiet (fail)
                go_wp2_with fail
                go_meet; exact ⟨vbool (by rw [HC3.out]; symm; rw [decide_eq_false_iff_not]; intro h; exact h.2 HX.out.symm), Lib.hid (Q2.out.on (grown_drewN (World.grownBy.refl _ none) _))⟩
              · have h2b : (x != 2) = true := by simpa using h2
                go_quiet (fail)
                go_wp2_with fail
                go_meet; exact ⟨vbool (by rw [HC3.out]; symm; rw [decide_eq_true_iff]; exact ⟨gi, by rw [← HX.out]; exact h2⟩), Lib.hid (Q2.out.on (grown_drewN (World.grownBy.refl _ none) _))⟩
            · have gi : ((p : Int) - 1 ≤ (q : Int) % (p : Int)) := by rw [HM.out]; omega
              have gd : decide ((q : Int) % (p : Int) < (p : Int) - 1) = false := by rw [decide_eq_false_iff_not]; omega
              go_quiet (fail)
              go_wp2_with fail
              go_meet; exact ⟨vbool (by rw [HC3.out]; symm; rw [decide_eq_false_iff_not]; intro h; have := h.1; have := HUN.out; omega), Lib.hid (Q2.out.on (grown_drewN (World.grownBy.refl _ none) _))⟩
          case rest =>
            obtain ⟨rfl, M3⟩ := hcut
            go_upto_if 64 with (fail)
            go_cut [5] (fun s wx => Hid (NR w wx p H b o un uc X (n1 p q X ++ n2 p q X ++ n3 p q X) s))
            case first =>
              obtain ⟨c0, c1, c2⟩ := M3.out.box.three
              have hll : (n1 p q X ++ n2 p q X : List Int).length ≤ 10 := by have := n1_len p q X; have := n2_len p q X; simp only [List.length_append]; omega
              have hsz := M3.out.box.lt
              cases b3
              · go_wp2_with fail
                go_meet; exact (by have h := M3; rw [show (n1 p q X ++ n2 p q X ++ n3 p q X : List Int) = n1 p q X ++ n2 p q X by rw [E3.out]; simp]; exact h)
              · have gi : ((q : Int) % (p : Int) < (p : Int) - 1) := by have h := HC3.out; symm at h; rw [decide_eq_true_iff] at h; have := h.1; have := HUN.out; omega
                go_wp2_with (at_builtin; go_loud (refine wpList_append_one _ rfl _ _ 24 rfl (w.heap.size + 1) 3 i0 (.int .i64 0) 8 Try.underlying24 hi hz0 hz1 hz2 rfl .i64 _ (n1 p q X ++ n2 p q X) rfl M3.out.own ((q : Int) + 1) rfl (i64_mk (by omega)) (by omega) (by decide) (by omega) ?_); intro v3 w3 hown3 hgrow3; have HO3 := Lib.hid hown3; have HG3 := Lib.hid hgrow3; clear hown3 hgrow3)
                go_meet; exact (by have h := M3.out.more HO3.out HG3.out HBW.out; rw [show (n1 p q X ++ n2 p q X ++ n3 p q X : List Int) = n1 p q X ++ n2 p q X ++ [(q : Int) + 1] by rw [E3.out]; simp]; exact h)
            case rest =>
              have Q3 := hcut; clear hcut
              go_upto_region 8 with (fail)
              go_cut [88] (fun s wx => s = .bool b4 ∧ Hid (NR w wx p H b o un uc X (n1 p q X ++ n2 p q X ++ n3 p q X) (u5)))
              case first =>
                obtain ⟨c0, c1, c2⟩ := Q3.out.box.three
                by_cases g : q + p < un
                · have gi : ((q : Int) + (p : Int) < (un : Int)) := by omega
                  have hcj := Q3.out.row.at' (j := q + p) (by rw [HUN.out]; omega)
                  obtain ⟨x, hx⟩ : ∃ x, x = X.getD (q + p) 0 := ⟨_, rfl⟩
                  rw [← hx] at hcj
                  have HX := Lib.hid hx; clear hx
                  by_cases h2 : x = 2
                  · subst h2
                    go_wp2_with fail
                    go_meet; exact ⟨vbool (by rw [HC4.out]; symm; rw [decide_eq_false_iff_not]; intro h; exact h.2 HX.out.symm), Q3⟩
                  · have h2b : (x != 2) = true := by simpa using h2
                    go_wp2_with fail
                    go_meet; exact ⟨vbool (by rw [HC4.out]; symm; rw [decide_eq_true_iff]; exact ⟨(by have := HUN.out; omega), by rw [← HX.out]; exact h2⟩), Q3⟩
                · have gi : ((un : Int) ≤ (q : Int) + (p : Int)) := by omega
                  go_wp2_with fail
                  go_meet; exact ⟨vbool (by rw [HC4.out]; symm; rw [decide_eq_false_iff_not]; intro h; have := h.1; have := HUN.out; omega), Q3⟩
              case rest =>
                obtain ⟨rfl, M4⟩ := hcut
                go_upto_if 88 with (fail)
                go_cut [5] (fun s wx => Hid (NR w wx p H b o un uc X (n1 p q X ++ n2 p q X ++ n3 p q X ++ n4 p q X) s))
                case first =>
                  obtain ⟨c0, c1, c2⟩ := M4.out.box.three
                  have hll : (n1 p q X ++ n2 p q X ++ n3 p q X : List Int).length ≤ 10 := by have := n1_len p q X; have := n2_len p q X; have := n3_len p q X; simp only [List.length_append]; omega
                  have hsz := M4.out.box.lt
                  cases b4
                  · go_wp2_with fail
                    go_meet; exact (by have h := M4; rw [show (n1 p q X ++ n2 p q X ++ n3 p q X ++ n4 p q X : List Int) = n1 p q X ++ n2 p q X ++ n3 p q X by rw [E4.out]; simp]; exact h)
                  · have gi : ((q : Int) + (p : Int) < (un : Int)) := by have h := HC4.out; symm at h; rw [decide_eq_true_iff] at h; have := h.1; have := HUN.out; omega
                    go_wp2_with (at_builtin; go_loud (refine wpList_append_one _ rfl _ _ 24 rfl (w.heap.size + 1) 3 i0 (.int .i64 0) 8 Try.underlying24 hi hz0 hz1 hz2 rfl .i64 _ (n1 p q X ++ n2 p q X ++ n3 p q X) rfl M4.out.own ((q : Int) + (p : Int)) rfl (i64_mk (by omega)) (by omega) (by decide) (by omega) ?_); intro v3 w3 hown3 hgrow3; have HO3 := Lib.hid hown3; have HG3 := Lib.hid hgrow3; clear hown3 hgrow3)
                    go_meet; exact (by have h := M4.out.more HO3.out HG3.out HBW.out; rw [show (n1 p q X ++ n2 p q X ++ n3 p q X ++ n4 p q X : List Int) = n1 p q X ++ n2 p q X ++ n3 p q X ++ [(q : Int) + (p : Int)] by rw [E4.out]; simp]; exact h)
                case rest =>
                  have Q4 := hcut; clear hcut
                  go_wp2
                  go_ret
                  exact ⟨_, rfl, by have h := Q4.out.own.lower (Nat.le_succ _); rw [near]; exact h, Q4.out.grown⟩
end Go.Proofs.Ytfccikhmcenanaa.LandS

namespace Go.Proofs.Ytfccikhmcenanaa.LandS
open Go.RowKit Kit Rw Ld Md

set_option maxHeartbeats 400000 in
theorem sNear_any (w : World) (W H n : Int) (v : Value) (X : List Int) (hv : Sees .i64 w v X) :
    Calls Try.prog 44 #[.agg #[.int .i64 W, .int .i64 H, v], .int .i64 n] w fun e w' => ∃ u, e = .returned u ∧ Own .i64 3 w' w.heap.size u (nearOf W H X n) ∧ w.grownBy w' none := by
  have hl := hv.len
  have hgr := World.grownBy_alloc w (.cells #[.int .i64 W, .int .i64 H, v] 26 (0, 0)) none
  have HG := Lib.hid hgr
  have HV := Lib.hid (hv.grown hgr)
  have HB := Lib.hid (box_new w #[.int .i64 W, .int .i64 H, v] 26)
  obtain ⟨c0, c1, c2⟩ := HB.out.three
  obtain ⟨a, cap, rfl, _⟩ := hv
  clear hgr
  have hs := sIsCell_any _ W H n _ X HV.out
  by_cases hC : isCell W H X n = true
  · rw [hC] at hs
    have HS := Lib.hid hs
    have HC := Lib.hid hC
    have HE : Hid (nearOf W H X n = near W n X) := by show _ = _; unfold nearOf; rw [if_pos hC]
    clear hs hC
    go_enter Try.func44, Try.ntmps44
    go_wp2_with fail
    refine HS.out.mono ?_
    rintro e w2 ⟨rfl, hg⟩
    have HG2 := Lib.hid (grownN_trans HG.out hg)
    have HV2 := Lib.hid (HV.out.grown hg)
    obtain ⟨d0, d1, d2⟩ := (HB.out.grown hg).three
    clear hg
    go_wp2_with fail
    refine (l4Near_any w2 W H n _ X HV2.out HC.out).mono ?_
    rintro e w3 ⟨u, rfl, ho, hg⟩
    have HO := Lib.hid (ho.lower HG2.out.size)
    have HG3 := Lib.hid (grownN_trans HG2.out hg)
    clear ho hg
    go_wp2
    go_ret
    rw [HE.out]
    exact ⟨_, rfl, HO.out, HG3.out⟩
  · have hC2 : isCell W H X n = false := by simpa using hC
    rw [hC2] at hs
    have HS := Lib.hid hs
    have HE : Hid (nearOf W H X n = []) := by show _ = _; unfold nearOf; rw [if_neg hC]
    clear hs hC hC2
    go_enter Try.func44, Try.ntmps44
    go_wp2_with fail
    refine HS.out.mono ?_
    rintro e w2 ⟨rfl, hg⟩
    have HG2 := Lib.hid (grownN_trans HG.out hg)
    clear hg
    go_wp2
    go_ret
    rw [HE.out]
    exact ⟨_, rfl, (own_empty _).lower HG2.out.size, grownN_trans HG2.out (World.grownBy_alloc _ _ none)⟩

end Go.Proofs.Ytfccikhmcenanaa.LandS

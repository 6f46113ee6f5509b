/- Contracts of the model's IsLand, IsCell and IsOpen. -/
import Derived.Test.YtbibkjponadipaaDoorMBase
import Derived.IntWalk
import Derived.Deep.RegionWith
namespace Go.Proofs.YtbibkjponadipaaDoor.LandS
open Go.RowKit Kit Rw Ld Md

set_option maxHeartbeats 1000000 in
theorem sIsLand_any (w : World) (W H : Int) (v : Value) (X : List Int) (hv : Sees .i64 w v X) :
    Calls Tryd.prog 39 #[.agg #[.int .i64 W, .int .i64 H, v]] w fun e w' => e = .returned (.bool (isLand W H X)) ∧ w.grownBy w' none := by
  have hl := hv.len
  have HG := Lib.hid (World.grownBy_alloc w (.cells #[.int .i64 W, .int .i64 H, v] 26 (0, 0)) none)
  have HV := Lib.hid (hv.grown HG.out)
  obtain ⟨c0, c1, c2⟩ := (box_new w #[.int .i64 W, .int .i64 H, v] 26).three
  obtain ⟨a, cap, rfl, _⟩ := hv
  by_cases hW : 1 ≤ W ∧ W ≤ 8
  · by_cases hH : 1 ≤ H ∧ H ≤ 8
    · have hA := area hW hH
      have HW := Lib.hid hW
      have HH := Lib.hid hH
      have hp : IntKind.i64.wrap (W * H) = W * H := IntWalk.i64_in _ (by omega)
      clear hW hH
      by_cases hLen : (X.length : Int) = W * H
      · have hLen2 : ((X.length : Int) == W * H) = true := by simpa using hLen
        have hLen3 : ((X.length : Int) != W * H) = false := by simpa using hLen
        have HLen := Lib.hid hLen
        clear hLen
        go_enter Tryd.func39, Tryd.ntmps39
        go_wp2_with (first
          | (go_at_call_of 40 (Value.int IntKind.i64 W); refine (l1In_yes _ HW.out).mono ?_; rintro e w' ⟨rfl, rfl⟩)
          | (go_at_call_of 40 (Value.int IntKind.i64 H); refine (l1In_yes _ HH.out).mono ?_; rintro e w' ⟨rfl, rfl⟩))
        clear hLen2 hLen3 hp
        generalize w.alloc (.cells #[.int .i64 W, .int .i64 H, .slice a X.length cap] 26 (0, 0)) = W1 at *
        go_loop [3] (fun i => ∃ j : Nat, j ≤ X.length ∧ i = .int .i64 j ∧ Hid (∀ m, m < j → 0 ≤ X.getD m 0 ∧ X.getD m 0 ≤ 2)) (fun i => X.length - (intOf i).toNat)
        case atStart => exact ⟨0, Nat.zero_le _, rfl, fun m hm => absurd hm (Nat.not_lt_zero _)⟩
        case round =>
          obtain ⟨j, hj, rfl, HE⟩ := hrel
          by_cases hlt : j < X.length
          · obtain ⟨x, hx⟩ : ∃ x, x = X.getD j 0 := ⟨_, rfl⟩
            obtain ⟨b, o, rfl, hcj⟩ := HV.out.at_row hlt
            rw [← hx] at hcj
            have HX := Lib.hid hx
            clear hx
            by_cases hk : 0 ≤ x ∧ x ≤ 2
            · have HK := Lib.hid hk
              clear hk
              go_wp2_with fail
              refine (l1In_yes _ HK.out).mono ?_
              rintro e w' ⟨rfl, rfl⟩
              go_wp2
              go_round
              case rel =>
                refine ⟨j + 1, by omega, by go_num, fun m hm => ?_⟩
                by_cases h : m = j
                · subst h; rw [← HX.out]; exact HK.out
                · exact HE.out m (by omega)
              case measure => simp [intOf]; omega
            · have HK := Lib.hid hk
              have HL : Hid (isLand W H X = false) := isLand_no (fun h => hk (by rw [HX.out]; exact h.2.2.2 _ (mem_getD hlt)))
              clear hk
              go_wp2_with fail
              refine (l1In_no _ HK.out).mono ?_
              rintro e w' ⟨rfl, rfl⟩
              go_wp2
              go_ret
              exact ⟨ret_bool HL.out.symm, HG.out⟩
          · have HL : Hid (isLand W H X = true) := isLand_mk ⟨HW.out, HH.out, HLen.out, fun k hk => by
              obtain ⟨m, hm, rfl⟩ := List.getElem_of_mem hk
              have := HE.out m (by omega)
              simpa [hm] using this⟩
            go_wp2
            go_ret
            exact ⟨ret_bool HL.out.symm, HG.out⟩
      · have hLen2 : ((X.length : Int) == W * H) = false := by simpa using hLen
        have hLen3 : ((X.length : Int) != W * H) = true := by simpa using hLen
        have HL := Lib.hid (isLand_no (W := W) (H := H) (X := X) (fun h => hLen h.2.2.1))
        clear hLen
        go_enter Tryd.func39, Tryd.ntmps39
        go_wp2_with (first
          | (go_at_call_of 40 (Value.int IntKind.i64 W); refine (l1In_yes _ HW.out).mono ?_; rintro e w' ⟨rfl, rfl⟩)
          | (go_at_call_of 40 (Value.int IntKind.i64 H); refine (l1In_yes _ HH.out).mono ?_; rintro e w' ⟨rfl, rfl⟩))
        go_ret
        exact ⟨ret_bool HL.out.symm, HG.out⟩
    · have HW := Lib.hid hW
      have HH := Lib.hid hH
      have HL := Lib.hid (isLand_no (W := W) (H := H) (X := X) (fun h => hH h.2.1))
      clear hW hH
      go_enter Tryd.func39, Tryd.ntmps39
      go_wp2_with fail
      refine (l1In_yes _ HW.out).mono ?_
      rintro e w' ⟨rfl, rfl⟩
      go_wp2_with fail
      refine (l1In_no _ HH.out).mono ?_
      rintro e w' ⟨rfl, rfl⟩
      go_wp2
      go_ret
      exact ⟨ret_bool HL.out.symm, HG.out⟩
  · have HW := Lib.hid hW
    have HL := Lib.hid (isLand_no (W := W) (H := H) (X := X) (fun h => hW h.1))
    clear hW
    go_enter Tryd.func39, Tryd.ntmps39
    go_wp2_with fail
    refine (l1In_no _ HW.out).mono ?_
    rintro e w' ⟨rfl, rfl⟩
    go_wp2
    go_ret
    exact ⟨ret_bool HL.out.symm, HG.out⟩

set_option maxHeartbeats 400000 in
theorem sIsCell_any (w : World) (W H n : Int) (v : Value) (X : List Int) (hv : Sees .i64 w v X) :
    Calls Tryd.prog 29 #[.agg #[.int .i64 W, .int .i64 H, v], .int .i64 n] w fun e w' => e = .returned (.bool (isCell W H X n)) ∧ w.grownBy w' none := by
  have hl := hv.len
  have hgr := World.grownBy_alloc w (.cells #[.int .i64 W, .int .i64 H, v] 26 (0, 0)) none
  have HG := Lib.hid hgr
  have HV := Lib.hid (hv.grown hgr)
  have HB := Lib.hid (box_new w #[.int .i64 W, .int .i64 H, v] 26)
  obtain ⟨c0, c1, c2⟩ := HB.out.three
  obtain ⟨a, cap, rfl, _⟩ := hv
  clear hgr
  have hs := sIsLand_any _ W H _ X HV.out
  by_cases hL : isLand W H X = true
  · rw [hL] at hs
    have HS := Lib.hid hs
    have HL := Lib.hid hL
    clear hs hL
    go_enter Tryd.func29, Tryd.ntmps29
    go_wp2_with fail
    refine HS.out.mono ?_
    rintro e w2 ⟨rfl, hg⟩
    have HG2 := Lib.hid (grownN_trans HG.out hg)
    obtain ⟨d0, d1, d2⟩ := (HB.out.grown hg).three
    clear hg
    go_wp2_with fail
    refine (l1In_any n 0 ((X.length : Int) - 1) _).mono ?_
    rintro e w3 ⟨rfl, rfl⟩
    go_wp2
    go_ret
    refine ⟨ret_bool ?_, HG2.out⟩
    simp [isCell, HL.out]
  · have hL2 : isLand W H X = false := by simpa using hL
    rw [hL2] at hs
    have HS := Lib.hid hs
    have HL := Lib.hid hL2
    clear hs hL hL2
    go_enter Tryd.func29, Tryd.ntmps29
    go_wp2_with fail
    refine HS.out.mono ?_
    rintro e w2 ⟨rfl, hg⟩
    have HG2 := Lib.hid (grownN_trans HG.out hg)
    clear hg
    go_wp2
    go_ret
    refine ⟨ret_bool ?_, HG2.out⟩
    simp [isCell, HL.out]

set_option maxHeartbeats 400000 in
theorem sIsOpen_any (w : World) (W H n : Int) (v : Value) (X : List Int) (hv : Sees .i64 w v X) :
    Calls Tryd.prog 26 #[.agg #[.int .i64 W, .int .i64 H, v], .int .i64 n] w fun e w' => e = .returned (.bool (isOpen W H X n)) ∧ w.grownBy w' none := by
  have hl := hv.len
  have hgr := World.grownBy_alloc w (.cells #[.int .i64 W, .int .i64 H, v] 26 (0, 0)) none
  have HG := Lib.hid hgr
  have HV := Lib.hid (hv.grown hgr)
  have HB := Lib.hid (box_new w #[.int .i64 W, .int .i64 H, v] 26)
  obtain ⟨c0, c1, c2⟩ := HB.out.three
  obtain ⟨a, cap, rfl, _⟩ := hv
  clear hgr
  have hs := sIsCell_any _ W H n _ X HV.out
  by_cases hC : isCell W H X n = true
  · rw [hC] at hs
    obtain ⟨hL, h0, h1⟩ := isCell_of hC
    obtain ⟨m, rfl⟩ : ∃ m : Nat, n = m := ⟨n.toNat, by omega⟩
    have hm : m < X.length := by omega
    obtain ⟨x, hx⟩ : ∃ x, x = X.getD m 0 := ⟨_, rfl⟩
    have HX := Lib.hid hx
    have HS := Lib.hid hs
    have HC := Lib.hid hC
    clear hs hC hL hx
    go_enter Tryd.func26, Tryd.ntmps26
    go_wp2_with fail
    refine HS.out.mono ?_
    rintro e w2 ⟨rfl, hg⟩
    have HG2 := Lib.hid (grownN_trans HG.out hg)
    obtain ⟨d0, d1, d2⟩ := (HB.out.grown hg).three
    obtain ⟨b, o, rfl, hcj⟩ := (HV.out.grown hg).at_row hm
    rw [← HX.out] at hcj
    clear hg
    go_wp2
    go_ret
    refine ⟨ret_bool ?_, HG2.out⟩
    simp only [isOpen, HC.out, HX.out, Bool.true_and, Int.toNat_natCast]
    rw [Bool.eq_iff_iff]
    simp
  · have hC2 : isCell W H X n = false := by simpa using hC
    rw [hC2] at hs
    have HS := Lib.hid hs
    have HC := Lib.hid hC2
    clear hs hC hC2
    go_enter Tryd.func26, Tryd.ntmps26
    go_wp2_with fail
    refine HS.out.mono ?_
    rintro e w2 ⟨rfl, hg⟩
    have HG2 := Lib.hid (grownN_trans HG.out hg)
    clear hg
    go_wp2
    go_ret
    refine ⟨ret_bool ?_, HG2.out⟩
    simp [isOpen, HC.out]
end Go.Proofs.YtbibkjponadipaaDoor.LandS

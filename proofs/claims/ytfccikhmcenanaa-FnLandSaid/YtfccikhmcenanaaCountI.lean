/- Contract of the program's CountCells. -/
import Derived.Test.YtfccikhmcenanaaLandI
import Derived.Test.YtfccikhmcenanaaCountS
namespace Go.Proofs.Ytfccikhmcenanaa.LandI
open Go.RowKit Kit Rw Ld Md

set_option maxHeartbeats 1000000 in
theorem count_any (w : World) (W H n : Int) (v : Value) (X : List Int) (hv : Sees .i64 w v X) :
    Calls Try.prog 28 #[.agg #[.int .i64 W, .int .i64 H, v], .int .i64 n] w fun e w' => e = .returned (.int .i64 (count W H X n)) ∧ w.grownBy w' none := by
  have hl := hv.len
  have hgr := World.grownBy_alloc w (.cells #[.int .i64 W, .int .i64 H, v] 26 (0, 0)) none
  have HG := Lib.hid hgr
  have HV := Lib.hid (hv.grown hgr)
  have HB := Lib.hid (box_new w #[.int .i64 W, .int .i64 H, v] 26)
  obtain ⟨c0, c1, c2⟩ := HB.out.three
  obtain ⟨a, cap, rfl, _⟩ := hv
  clear hgr
  have hs := isLand_any _ W H _ X HV.out
  by_cases hL : isLand W H X = true
  · have HC : Hid (count W H X n = ((X.filter fun x => x == n).length : Int)) := by show _ = _; unfold count; rw [if_pos hL]
    rw [hL] at hs
    have HS := Lib.hid hs
    clear hL hs
    go_enter Try.func28, Try.ntmps28
    go_wp2_with fail
    refine HS.out.mono ?_
    rintro e w2 ⟨rfl, hg⟩
    have HG2 := Lib.hid (grownN_trans HG.out hg)
    have HV2 := Lib.hid (HV.out.grown hg)
    have HB2 := Lib.hid (HB.out.grown hg)
    clear c0 c1 c2
    obtain ⟨c0, c1, c2⟩ := HB2.out.three
    clear hg
    go_wp2
    clear c0 c1 c2
    go_loop [5, 14] (fun s i => ∃ j : Nat, j ≤ X.length ∧ i = .int .i64 j ∧ s = .int .i64 (((X.take j).filter fun x => x == n).length : Int)) (fun _ i => X.length - (intOf i).toNat)
    case atStart => exact ⟨0, Nat.zero_le _, rfl, by simp⟩
    case round =>
      obtain ⟨j, hj, rfl, rfl⟩ := hrel
      obtain ⟨y, hy⟩ : ∃ y, y = ((X.take j).filter fun x => x == n).length := ⟨_, rfl⟩
      have hyj : y ≤ j := by rw [hy]; exact Nat.le_trans (List.length_filter_le _ _) (by simp; omega)
      rw [← hy]
      have HY := Lib.hid hy
      clear hy
      by_cases hlt : j < X.length
      · have HN := Lib.hid (LandS.count_next (k := n) hlt)
        obtain ⟨x, hx⟩ : ∃ x, x = X.getD j 0 := ⟨_, rfl⟩
        have HX := Lib.hid hx
        clear hx
        obtain ⟨b, o, rfl, hcj⟩ := HV2.out.at_row hlt
        rw [← HX.out] at hcj
        by_cases hxn : x = n
        · have hb : (x == n) = true := by simpa using hxn
          go_wp2
          go_round
          case rel => exact ⟨j + 1, by omega, by go_num, by rw [HN.out, ← HY.out, ← HX.out, if_pos hxn]; go_num⟩
          case measure => simp [intOf]; omega
        · have hb : (x == n) = false := by simpa using hxn
          go_wp2
          go_round
          case rel => exact ⟨j + 1, by omega, by go_num, by rw [HN.out, ← HY.out, ← HX.out, if_neg hxn]; go_num⟩
          case measure => simp [intOf]; omega
      · have : j = X.length := by omega
        subst this
        go_wp2
        go_ret
        exact ⟨ret_i64 (by rw [HC.out, HY.out, List.take_length]), HG2.out⟩
  · have HC : Hid (count W H X n = 0) := by show _ = _; unfold count; rw [if_neg hL]
    have hL2 : isLand W H X = false := by simpa using hL
    rw [hL2] at hs
    have HS := Lib.hid hs
    clear hL hL2 hs
    go_enter Try.func28, Try.ntmps28
    go_wp2_with fail
    refine HS.out.mono ?_
    rintro e w2 ⟨rfl, hg⟩
    have HG2 := Lib.hid (grownN_trans HG.out hg)
    clear hg
    go_wp2
    go_ret
    exact ⟨ret_i64 HC.out.symm, HG2.out⟩
end Go.Proofs.Ytfccikhmcenanaa.LandI

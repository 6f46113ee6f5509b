/- Contract of the model's CountCells. -/
import Derived.Test.YtoanhnklemlfmaaDoorLandS
namespace Go.Proofs.YtoanhnklemlfmaaDoor.LandS
open Go.RowKit Kit Rw Ld Md

theorem count_next {X : List Int} {k : Int} {j : Nat} (hj : j < X.length) : ((X.take (j + 1)).filter fun x => x == k).length = ((X.take j).filter fun x => x == k).length + (if X.getD j 0 = k then 1 else 0) := by
  rw [List.take_add_one, List.filter_append, List.length_append]
  congr 1
  by_cases h : X[j] = k <;> simp [hj, h]

set_option maxHeartbeats 1000000 in
theorem sCount_any (w : World) (W H n : Int) (v : Value) (X : List Int) (hv : Sees .i64 w v X) :
    Calls Tryd.prog 101 #[.agg #[.int .i64 W, .int .i64 H, v], .int .i64 n] w fun e w' => e = .returned (.int .i64 (count W H X n)) ∧ w.grownBy w' none := by
  have hl := hv.len
  have hgr := World.grownBy_alloc w (.cells #[.int .i64 W, .int .i64 H, v] 27 (0, 0)) none
  have HG := Lib.hid hgr
  have HV := Lib.hid (hv.grown hgr)
  have HB := Lib.hid (box_new w #[.int .i64 W, .int .i64 H, v] 27)
  obtain ⟨c0, c1, c2⟩ := HB.out.three
  obtain ⟨a, cap, rfl, _⟩ := hv
  clear hgr
  by_cases hL : isLand W H X = true
  · have HC : Hid (count W H X n = ((X.filter fun x => x == n).length : Int)) := by show _ = _; unfold count; rw [if_pos hL]
    have HL := Lib.hid hL
    clear hL
    go_enter Tryd.func101, Tryd.ntmps101
    go_wp2
    generalize w.alloc (.cells #[.int .i64 W, .int .i64 H, .slice a X.length cap] 27 (0, 0)) = W1 at *
    clear c0 c1 c2
    go_loopw [5, 6] (fun s i wr => ∃ j : Nat, j ≤ X.length ∧ i = .int .i64 j ∧ s = .int .i64 (((X.take j).filter fun x => x == n).length : Int) ∧ Hid (W1.grownBy wr none)) (fun _ i _ => X.length - (intOf i).toNat)
    case atStart => exact ⟨0, Nat.zero_le _, rfl, by simp, World.grownBy.refl _ _⟩
    case round =>
      obtain ⟨j, hj, rfl, rfl, HR⟩ := hrel
      obtain ⟨d0, d1, d2⟩ := (HB.out.grown HR.out).three
      obtain ⟨y, hy⟩ : ∃ y, y = ((X.take j).filter fun x => x == n).length := ⟨_, rfl⟩
      have hyj : y ≤ j := by rw [hy]; exact Nat.le_trans (List.length_filter_le _ _) (by simp; omega)
      rw [← hy]
      have HY := Lib.hid hy
      clear hy
      by_cases hlt : j < X.length
      · have hs := sIsLand_any wr W H _ X (HV.out.grown HR.out)
        rw [HL.out] at hs
        have HS := Lib.hid hs
        have HN := Lib.hid (count_next (k := n) hlt)
        clear hs
        obtain ⟨x, hx⟩ : ∃ x, x = X.getD j 0 := ⟨_, rfl⟩
        have HX := Lib.hid hx
        clear hx
        go_wp2_with fail
        refine HS.out.mono ?_
        rintro e w2 ⟨rfl, hg⟩
        have HR2 := Lib.hid (grownN_trans HR.out hg)
        clear d0 d1 d2
        obtain ⟨d0, d1, d2⟩ := (HB.out.grown HR2.out).three
        obtain ⟨b, o, rfl, hcj⟩ := (HV.out.grown HR2.out).at_row hlt
        rw [← HX.out] at hcj
        clear hg
        by_cases hxn : x = n
        · have hb : (x == n) = true := by simpa using hxn
          go_wp2
          go_roundw
          case rel => exact ⟨j + 1, by omega, by go_num, by rw [HN.out, ← HY.out, ← HX.out, if_pos hxn]; go_num, HR2⟩
          case measure => simp [intOf]; omega
        · have hb : (x == n) = false := by simpa using hxn
          go_wp2
          go_roundw
          case rel => exact ⟨j + 1, by omega, by go_num, by rw [HN.out, ← HY.out, ← HX.out, if_neg hxn]; go_num, HR2⟩
          case measure => simp [intOf]; omega
      · have : j = X.length := by omega
        subst this
        go_wp2
        go_ret
        exact ⟨ret_i64 (by rw [HC.out, HY.out, List.take_length]), grownN_trans HG.out HR.out⟩
  · have HC : Hid (count W H X n = 0) := by show _ = _; unfold count; rw [if_neg hL]
    have hL2 : isLand W H X = false := by simpa using hL
    have hs := sIsLand_any _ W H _ X HV.out
    rw [hL2] at hs
    have HS := Lib.hid hs
    clear hL hL2 hs
    go_enter Tryd.func101, Tryd.ntmps101
    go_wp2
    refine wp_loop_rounds 1 ?_
    rw [rounds_succ]
    by_cases h0 : 0 < X.length
    · go_wp2_with fail
      refine HS.out.mono ?_
      rintro e w2 ⟨rfl, hg⟩
      have HG2 := Lib.hid (grownN_trans HG.out hg)
      clear hg
      go_wp2
      go_ret
      exact ⟨ret_i64 HC.out.symm, HG2.out⟩
    · go_wp2
      go_ret
      exact ⟨ret_i64 HC.out.symm, HG.out⟩
end Go.Proofs.YtoanhnklemlfmaaDoor.LandS

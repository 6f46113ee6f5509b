/- Contracts of MeetDay's model. -/
import Derived.Test.YtbgbnbnfmlpemaaMeet
import Derived.Test.YtbgbnbnfmlpemaaWayS
import Derived.IntWalk
namespace Go.Proofs.Ytbgbnbnfmlpemaa.Awy
open Go.RowKit Kit Rw Ld Gr GrI Bfs Wf Sr LandI WayI

set_option maxRecDepth 20000 in
set_option maxHeartbeats 2000000 in
theorem sMeet_any (w : World) (W H a s : Int) (v u : Value) (X Y : List Int) (hv : Sees .i64 w v X) (hu : Sees .i64 w u Y) :
    Calls Try.prog 24 #[.agg #[.int .i64 W, .int .i64 H, v], .int .i64 a, u, .int .i64 s] w fun e w' => e = .returned (.tuple #[.int .i64 (meetOf W H X a Y s).1, .int .i64 (meetOf W H X a Y s).2]) ∧ w.grownBy w' none := by
  have hul := hu.len
  have hg0 := World.grownBy_alloc w (.cells #[.int .i64 W, .int .i64 H, v] 27 (0, 0)) (none : Option Nat)
  have HB := Lib.hid (box_new w #[.int .i64 W, .int .i64 H, v] 27)
  have HV := Lib.hid (hv.grown hg0)
  have HU := Lib.hid (hu.grown hg0)
  have HG := Lib.hid hg0
  have hiw := WayS.sIsWay_any _ W H v u X Y (hv.grown hg0) (hu.grown hg0)
  obtain ⟨va, vn, vc, hvv, HVN⟩ := hv.shape
  obtain ⟨ua, un, uc, huu, HUN⟩ := hu.shape
  subst hvv huu
  have hun : un ≤ 9223372036854775807 := by rw [← HUN.out]; exact hul
  cases hw : isWayOf W H X Y
  · have HR : Hid (meetOf W H X a Y s = (-1, -1)) := by show _ = _; unfold meetOf; rw [hw]; rfl
    rw [hw] at hiw
    have HIW := Lib.hid hiw
    obtain ⟨c0, c1, c2⟩ := HB.out.three
    clear hv hu hg0 hiw hw
    go_enter Try.func24, Try.ntmps24
    go_wp2_with fail
    generalize w.alloc (.cells #[.int .i64 W, .int .i64 H, .slice va vn vc] 27 (0, 0)) = w1 at *
    refine HIW.out.mono ?_
    rintro e w2 ⟨rfl, hg⟩
    have HG2 := Lib.hid (grownN_trans HG.out hg)
    clear hg
    go_wp2
    go_ret2
    exact ⟨ret_2i HR.out, HG2.out⟩
  · have hP : IsWayP W H X Y := by unfold isWayOf at hw; exact @of_decide_eq_true _ (Classical.propDecidable _) hw
    have hY : 0 < Y.length := hP.1
    have hX : 0 < X.length := by
      obtain ⟨p, h', m, _, _, _, _, _, _, h1⟩ := open_nat (hP.2.1 0 hY)
      exact h1
    obtain ⟨vb, vo, e, hvc⟩ := hv.at_row (j := 0) hX
    subst e
    obtain ⟨ub, uo, e, _⟩ := hu.at_row (j := 0) hY
    subst e
    have hvb := World.block_lt_of_cell? w _ hvc
    have HVB : Hid (vb < w.heap.size) := hvb
    rw [hw] at hiw
    have HIW := Lib.hid hiw
    have HW := Lib.hid hw
    have HY := Lib.hid hY
    by_cases hs : 0 ≤ s ∧ s ≤ 100
    · have hbb : inb s 0 100 = true := decide_eq_true hs
      obtain ⟨k, rfl⟩ : ∃ k : Nat, s = k := ⟨s.toNat, by omega⟩
      have HR : Hid (meetOf W H X a Y (k : Int) = scan (hitB W H X a Y k) (cellAt Y) (201 - k) k) := by show _ = _; unfold meetOf; rw [if_pos ⟨hw, hs⟩, Int.toNat_natCast]
      have hk : k ≤ 100 := by omega
      have hkI : (k : Int) ≤ 100 := by omega
      obtain ⟨c0, c1, c2⟩ := HB.out.three
      clear hv hu hg0 hiw hw hs hP hY hX hvc hvb
      go_enter Try.func24, Try.ntmps24
      go_wp2_with fail
      generalize w.alloc (.cells #[.int .i64 W, .int .i64 H, .slice (some ⟨vb, vo, none⟩) vn vc] 27 (0, 0)) = w1 at *
      refine HIW.out.mono ?_
      rintro e w2 ⟨rfl, hg⟩
      have HG2 := Lib.hid hg
      clear hg c0 c1 c2
      obtain ⟨c0, c1, c2⟩ := (HB.out.grown HG2.out).three
      clear c0 c1 c2
      go_wp2_with (go_at_call 44; refine (l1In_b _ _ _ _).mono ?_; rintro e w6 ⟨rfl, rfl⟩; try rw [hbb])
      generalize w.heap.size = B at *
      go_loopw [10] (fun i wr => ∃ j : Nat, k ≤ j ∧ j ≤ 201 ∧ i = .int .i64 j ∧ Hid (meetOf W H X a Y (k : Int) = scan (hitB W H X a Y k) (cellAt Y) (201 - j) j) ∧ Hid (w1.grownBy wr none)) (fun i _ => 201 - (intOf i).toNat)
      case atStart => exact ⟨k, Nat.le_refl _, by omega, rfl, HR, HG2.out⟩
      case round =>
        obtain ⟨j, hkj, hj, rfl, HM, HGR⟩ := hrel
        by_cases hlt : j ≤ 200
        · have hjI : (j : Int) ≤ 200 := by omega
          have hkjI : (k : Int) ≤ (j : Int) := by omega
          obtain ⟨i, hi⟩ : ∃ i, i = min j (Y.length - 1) := ⟨_, rfl⟩
          have hmn := sMin_b (j : Int) ((un : Int) - 1) wr
          rw [least_at (by rw [← HUN.out]; exact HY.out), ← HUN.out, ← hi, HUN.out] at hmn
          have HMN := Lib.hid hmn
          have hiY : i < Y.length := by have := HY.out; omega
          have hiu : i < un := by rw [← HUN.out]; exact hiY
          have hiuI : (i : Int) < (un : Int) := by omega
          obtain ⟨y, hy⟩ : ∃ y, y = Y.getD i 0 := ⟨_, rfl⟩
          have HCA : Hid (cellAt Y j = y) := by show _ = _; unfold cellAt; rw [← hi, hy]
          have hat := seesAt HU.out HGR.out hiY
          rw [← hy] at hat
          obtain ⟨c0, c1, c2⟩ := (HB.out.grown HGR.out).three
          have HD := Lib.hid (WayS.sDays_any wr W H a y _ X (HV.out.grown HGR.out))
          obtain ⟨n, hn⟩ : ∃ n, n = daysOf W H X a y := ⟨_, rfl⟩
          rw [← hn] at HD
          by_cases hh : 0 ≤ n ∧ n ≤ (j : Int) - (k : Int)
          · obtain ⟨hh1, hh2⟩ := hh
            have HRR : Hid (meetOf W H X a Y (k : Int) = ((j : Int), y)) := by
              show _ = _
              rw [HM.out, scan_hit hlt (by unfold hitB; rw [HCA.out, ← hn]; exact decide_eq_true ⟨hh1, hh2⟩), HCA.out]
            clear hmn hi hy hn hiY
            go_wp2_with fail
            refine HMN.out.mono ?_
            rintro e w5 ⟨rfl, rfl⟩
            go_wp2_with fail
            refine HD.out.mono ?_
            rintro e w6 ⟨rfl, hg⟩
            have HG6 := Lib.hid (grownN_trans HG.out (grownN_trans HGR.out hg))
            clear hg hat c0 c1 c2
            go_wp2
            go_ret2
            exact ⟨ret_2i HRR.out, HG6.out⟩
          · have HM2 : Hid (meetOf W H X a Y (k : Int) = scan (hitB W H X a Y k) (cellAt Y) (201 - (j + 1)) (j + 1)) := by
              show _ = _
              rw [HM.out, scan_miss hlt (by unfold hitB; rw [HCA.out, ← hn]; exact decide_eq_false hh)]
            clear hmn hi hy hn hiY
            by_cases hh1 : 0 ≤ n
            · have hh2 : (j : Int) - (k : Int) < n := by omega
              clear hh
              go_wp2_with fail
              refine HMN.out.mono ?_
              rintro e w5 ⟨rfl, rfl⟩
              go_wp2_with fail
              refine HD.out.mono ?_
              rintro e w6 ⟨rfl, hg⟩
              have HG6 := Lib.hid (grownN_trans HGR.out hg)
              clear hg hat c0 c1 c2
              go_wp2
              go_roundw
              case rel => exact ⟨j + 1, by omega, by omega, by go_num, HM2, HG6⟩
              case measure => simp [intOf]; omega
            · clear hh
              go_wp2_with fail
              refine HMN.out.mono ?_
              rintro e w5 ⟨rfl, rfl⟩
              go_wp2_with fail
              refine HD.out.mono ?_
              rintro e w6 ⟨rfl, hg⟩
              have HG6 := Lib.hid (grownN_trans HGR.out hg)
              clear hg hat c0 c1 c2
              go_wp2
              go_roundw
              case rel => exact ⟨j + 1, by omega, by omega, by go_num, HM2, HG6⟩
              case measure => simp [intOf]; omega
        · have hjj : j = 201 := by omega
          subst hjj
          have HRR : Hid (meetOf W H X a Y (k : Int) = (-1, -1)) := by show _ = _; rw [HM.out]; rfl
          have HG6 := Lib.hid (grownN_trans HG.out HGR.out)
          go_wp2
          go_ret2
          exact ⟨ret_2i HRR.out, HG6.out⟩
    · have hbb : inb s 0 100 = false := decide_eq_false hs
      have HR : Hid (meetOf W H X a Y s = (-1, -1)) := by show _ = _; unfold meetOf; rw [if_neg (fun q => hs q.2)]
      obtain ⟨c0, c1, c2⟩ := HB.out.three
      clear hv hu hg0 hiw hw hs hP hY hX hvc hvb
      go_enter Try.func24, Try.ntmps24
      go_wp2_with fail
      generalize w.alloc (.cells #[.int .i64 W, .int .i64 H, .slice (some ⟨vb, vo, none⟩) vn vc] 27 (0, 0)) = w1 at *
      refine HIW.out.mono ?_
      rintro e w2 ⟨rfl, hg⟩
      have HG2 := Lib.hid (grownN_trans HG.out hg)
      clear hg
      go_wp2_with (go_at_call 44; refine (l1In_b _ _ _ _).mono ?_; rintro e w6 ⟨rfl, rfl⟩; try rw [hbb])
      go_ret2
      exact ⟨ret_2i HR.out, HG2.out⟩
end Go.Proofs.Ytbgbnbnfmlpemaa.Awy

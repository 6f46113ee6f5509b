/- Contracts of the model's Days, Farthest and Reach. -/
import Derived.Test.YtdeggdhcleanmaaDoorFromS
import Derived.Test.YtdeggdhcleanmaaDoorWayF
import Derived.Test.YtdeggdhcleanmaaDoorWayG
namespace Go.Proofs.YtdeggdhcleanmaaDoor.WayS
open Go.RowKit Kit Rw Ld Bfs Wf LandS FromS

set_option maxRecDepth 100000 in
set_option maxHeartbeats 1000000 in
theorem sDays_any (w : World) (W H a b : Int) (v : Value) (X : List Int) (hv : Sees .i64 w v X) :
    Calls Tryd.prog 59 #[.agg #[.int .i64 W, .int .i64 H, v], .int .i64 a, .int .i64 b] w fun e w' => e = .returned (.int .i64 (daysOf W H X a b)) ∧ w.grownBy w' none := by
  obtain ⟨hb0, hv0, hg0⟩ := wb_new (W := W) (H := H) hv
  obtain ⟨c0, c1, c2⟩ := hb0.three
  have HB0 := Lib.hid hb0
  have HV0 := Lib.hid hv0
  have HG0 := Lib.hid hg0
  obtain ⟨va, vn, vc, hvv, HVN⟩ := hv.shape
  subst hvv
  have hs := sIsOpen_any _ W H a _ X hv0
  clear hv hb0 hv0 hg0
  by_cases hA : isOpen W H X a = true
  · rw [hA] at hs
    have HS := Lib.hid hs
    have HA := Lib.hid hA
    clear hs hA
    go_enter Tryd.func59, Tryd.ntmps59
    go_wp2_with fail
    refine HS.out.mono ?_
    rintro e w2 ⟨rfl, hg⟩
    have HB2 := Lib.hid (HB0.out.grown hg)
    have HV2 := Lib.hid (HV0.out.grown hg)
    have HG2 := Lib.hid (grownN_trans HG0.out hg)
    clear hg c0 c1 c2
    obtain ⟨c0, c1, c2⟩ := HB2.out.three
    have hs := sIsOpen_any w2 W H b _ X HV2.out
    by_cases hB : isOpen W H X b = true
    · rw [hB] at hs
      have HS := Lib.hid hs
      have HBO := Lib.hid hB
      clear hs hB
      go_wp2_with fail
      refine HS.out.mono ?_
      rintro e w3 ⟨rfl, hg⟩
      have HB3 := Lib.hid (HB2.out.grown hg)
      have HV3 := Lib.hid (HV2.out.grown hg)
      have HG3 := Lib.hid (grownN_trans HG2.out hg)
      have HE : Hid (daysOf W H X a b = at' (distL W X a) b) := by show _ = _; unfold daysOf; rw [if_pos ⟨HA.out, HBO.out⟩]
      obtain ⟨p, h, n, rfl, rfl, rfl, hn, hL, h64, _⟩ := open_nat HA.out
      obtain ⟨p', h', m, hp', hh', rfl, hm, _, _, _⟩ := open_nat HBO.out
      have HL : Hid (isLand p h X = true ∧ n < X.length ∧ m < X.length ∧ X.length ≤ 64) := ⟨hL, hn, hm, h64⟩
      clear hg c0 c1 c2 hL hn hm h64 hp' hh'
      obtain ⟨c0, c1, c2⟩ := HB3.out.three
      go_wp2_with fail
      refine (from_any w3 p h n _ X HV3.out (isOpen_of HA.out).1).mono ?_
      rintro e w4 ⟨u, rfl, ho, hg⟩
      have HG4 := Lib.hid (grownN_trans HG3.out hg)
      have hdl := (dist_is HL.out.1 (a := (n : Int)) (by omega) (by have := HL.out.2.1; omega)).len
      have hml : m < (distL p X n).length := by rw [hdl]; exact HL.out.2.2.1
      obtain ⟨ua, un, uc, hu, HUN⟩ := ho.sees.shape
      subst hu
      obtain ⟨ub, uo, rfl, hc⟩ := ho.sees.at_row hml
      obtain ⟨y, hy⟩ : ∃ y, y = (distL p X n).getD m 0 := ⟨_, rfl⟩
      rw [← hy] at hc
      have HY : Hid (daysOf p h X n m = y) := by show _ = _; rw [HE.out, hy]; rfl
      have hmu : m < un := by rw [← HUN.out]; exact hml
      clear ho hg hdl hml hy c0 c1 c2
      go_wp2
      go_ret
      exact ⟨ret_i64 HY.out.symm, HG4.out⟩
    · have hB2 : isOpen W H X b = false := by simpa using hB
      rw [hB2] at hs
      have HS := Lib.hid hs
      have HE : Hid (daysOf W H X a b = -1) := by show _ = _; unfold daysOf; rw [if_neg (fun h => hB h.2)]
      clear hs hB hB2
      go_wp2_with fail
      refine HS.out.mono ?_
      rintro e w3 ⟨rfl, hg⟩
      have HG3 := Lib.hid (grownN_trans HG2.out hg)
      clear hg
      go_wp2
      go_ret
      exact ⟨ret_i64 HE.out.symm, HG3.out⟩
  · have hA2 : isOpen W H X a = false := by simpa using hA
    rw [hA2] at hs
    have HS := Lib.hid hs
    have HE : Hid (daysOf W H X a b = -1) := by show _ = _; unfold daysOf; rw [if_neg (fun h => hA h.1)]
    clear hs hA hA2
    go_enter Tryd.func59, Tryd.ntmps59
    go_wp2_with fail
    refine HS.out.mono ?_
    rintro e w2 ⟨rfl, hg⟩
    have HG2 := Lib.hid (grownN_trans HG0.out hg)
    clear hg
    go_wp2
    go_ret
    exact ⟨ret_i64 HE.out.symm, HG2.out⟩

end Go.Proofs.YtdeggdhcleanmaaDoor.WayS

/- Contract of the model's Near. -/
import Derived.Test.YtfccikhmcenanaaNearS
namespace Go.Proofs.Ytfccikhmcenanaa.LandS
open Go.RowKit Kit Rw Ld Md

set_option maxHeartbeats 400000 in
theorem sNear_any (w : World) (W H n : Int) (v : Value) (X : List Int) (hv : Sees .i64 w v X) :
    Calls Try.prog 44 #[.agg #[.int .i64 W, .int .i64 H, v], .int .i64 n] w fun e w' => ∃ u, e = .returned u ∧ Own .i64 3 w' w.heap.size u (nearOf W H X n) ∧ w.grownBy w' none := by
  have hl := hv.len
  have hgr := World.grownBy_alloc w (.cells #[.int .i64 W, .int .i64 H, v] 26 (0, 0)) none
  have HG := Lib.hid hgr
  have HV := Lib.hid (hv.grown hgr)
  have HB := Lib.hid (box_new w #[.int .i64 W, .int .i64 H, v] 26)
  obtain ⟨c0, c1, c2⟩ := HB.out.three
  obtain ⟨a, cap, rfl, _⟩ := hv
  clear hgr
  have hs := sIsCell_any _ W H n _ X HV.out
  by_cases hC : isCell W H X n = true
  · rw [hC] at hs
    have HS := Lib.hid hs
    have HC := Lib.hid hC
    have HE : Hid (nearOf W H X n = near W n X) := by show _ = _; unfold nearOf; rw [if_pos hC]
    clear hs hC
    go_enter Try.func44, Try.ntmps44
    go_wp2_with fail
    refine HS.out.mono ?_
    rintro e w2 ⟨rfl, hg⟩
    have HG2 := Lib.hid (grownN_trans HG.out hg)
    have HV2 := Lib.hid (HV.out.grown hg)
    obtain ⟨d0, d1, d2⟩ := (HB.out.grown hg).three
    clear hg
    go_wp2_with fail
    refine (l4Near_any w2 W H n _ X HV2.out HC.out).mono ?_
    rintro e w3 ⟨u, rfl, ho, hg⟩
    have HO := Lib.hid (ho.lower HG2.out.size)
    have HG3 := Lib.hid (grownN_trans HG2.out hg)
    clear ho hg
    go_wp2
    go_ret
    rw [HE.out]
    exact ⟨_, rfl, HO.out, HG3.out⟩
  · have hC2 : isCell W H X n = false := by simpa using hC
    rw [hC2] at hs
    have HS := Lib.hid hs
    have HE : Hid (nearOf W H X n = []) := by show _ = _; unfold nearOf; rw [if_neg hC]
    clear hs hC hC2
    go_enter Try.func44, Try.ntmps44
    go_wp2_with fail
    refine HS.out.mono ?_
    rintro e w2 ⟨rfl, hg⟩
    have HG2 := Lib.hid (grownN_trans HG.out hg)
    clear hg
    go_wp2
    go_ret
    rw [HE.out]
    exact ⟨_, rfl, (own_empty _).lower HG2.out.size, grownN_trans HG2.out (World.grownBy_alloc _ _ none)⟩

end Go.Proofs.Ytfccikhmcenanaa.LandS

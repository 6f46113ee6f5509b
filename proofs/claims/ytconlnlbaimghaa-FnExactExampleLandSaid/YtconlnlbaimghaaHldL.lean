/- heldLand, as the laws write it. -/
import Derived.Test.YtconlnlbaimghaaLandL
namespace Go.Proofs.Ytconlnlbaimghaa.LandL
open Go.RowKit Kit Rw LawsI

set_option maxHeartbeats 1000000 in
theorem heldLand_any (w : World) (W H : Int) (v : Value) (m n : Nat) (hv : Sees .i64 w v (marksI m n)) (hm : m + n ≤ 4000000000000000000) :
    Calls Try.prog 23 #[.agg #[.int .i64 W, .int .i64 H, v], .int .i64 m] w fun e w' => e = .returned (.int .i64 ((m + n : Nat) : Int)) ∧ w.grownBy w' none := by
  have HG := Lib.hid (World.grownBy_alloc w (.cells #[.int .i64 W, .int .i64 H, v] 38 (0, 0)) none)
  have HV := Lib.hid (hv.grown HG.out)
  obtain ⟨va, vn, vc, rfl, _⟩ := hv.shape
  clear hv
  go_enter Try.func23, Try.ntmps23
  go_wp2_with fail
  refine (LawsI.held_any _ _ m n HV.out hm).mono ?_
  rintro e w2 ⟨rfl, hg⟩
  have HG2 := Lib.hid (grownN_trans HG.out hg)
  clear hg
  go_wp2
  go_ret
  exact ⟨rfl, HG2.out⟩
end Go.Proofs.Ytconlnlbaimghaa.LandL

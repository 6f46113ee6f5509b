/- Contracts of search areas, of the program and of its model. -/
import Derived.Test.YtbgbnbnfmlpemaaWayS
import Derived.Test.YtbgbnbnfmlpemaaWayT
import Derived.Test.YtbgbnbnfmlpemaaWayJ
namespace Go.Proofs.Ytbgbnbnfmlpemaa.Area
open Go.RowKit Kit Rw Ld Wf

set_option maxRecDepth 20000 in
set_option maxHeartbeats 400000 in
theorem sArea_any (w : World) (W H a D : Int) (v : Value) (X : List Int) (hv : Sees .i64 w v X) :
    Calls Try.prog 11 #[.agg #[.int .i64 W, .int .i64 H, v], .int .i64 a, .int .i64 D] w fun e w' => ∃ u, e = .returned u ∧ Own .i64 3 w' w.heap.size u (reachOf W H X a D) ∧ w.grownBy w' none := by
  have hg0 := World.grownBy_alloc w (.cells #[.int .i64 W, .int .i64 H, v] 27 (0, 0)) (none : Option Nat)
  obtain ⟨c0, c1, c2⟩ := (box_new w #[.int .i64 W, .int .i64 H, v] 27).three
  have HR := Lib.hid (WayS.sReach_any _ W H a D v X (hv.grown hg0))
  have HG := Lib.hid hg0
  clear hv hg0
  go_enter Try.func11, Try.ntmps11
  go_wp2_with fail
  refine HR.out.mono ?_
  rintro e w2 ⟨u, rfl, ho, hg⟩
  have HO := Lib.hid (ho.lower HG.out.size)
  have HG2 := Lib.hid (grownN_trans HG.out hg)
  clear ho hg
  go_wp2
  go_ret
  exact ⟨_, rfl, HO.out, HG2.out⟩

set_option maxRecDepth 20000 in
set_option maxHeartbeats 400000 in
theorem iArea_any (w : World) (W H a D : Int) (v : Value) (X : List Int) (hv : Sees .i64 w v X) :
    Calls Try.prog 13 #[.agg #[.int .i64 W, .int .i64 H, v], .int .i64 a, .int .i64 D] w fun e w' => ∃ u, e = .returned u ∧ Own .i64 3 w' w.heap.size u (reachOf W H X a D) ∧ w.grownBy w' none := by
  have hg0 := World.grownBy_alloc w (.cells #[.int .i64 W, .int .i64 H, v] 27 (0, 0)) (none : Option Nat)
  obtain ⟨c0, c1, c2⟩ := (box_new w #[.int .i64 W, .int .i64 H, v] 27).three
  have HR := Lib.hid (WayI.reach_any _ W H a D v X (hv.grown hg0))
  have HG := Lib.hid hg0
  clear hv hg0
  go_enter Try.func13, Try.ntmps13
  go_wp2_with fail
  refine HR.out.mono ?_
  rintro e w2 ⟨u, rfl, ho, hg⟩
  have HO := Lib.hid (ho.lower HG.out.size)
  have HG2 := Lib.hid (grownN_trans HG.out hg)
  clear ho hg
  go_wp2
  go_ret
  exact ⟨_, rfl, HO.out, HG2.out⟩
end Go.Proofs.Ytbgbnbnfmlpemaa.Area

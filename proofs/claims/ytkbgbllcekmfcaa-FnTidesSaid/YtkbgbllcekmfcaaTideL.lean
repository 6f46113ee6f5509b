/- The laws' helper on tides. -/
import Derived.Test.YtkbgbllcekmfcaaTideS
import Derived.Test.YtkbgbllcekmfcaaTideJ
namespace Go.Proofs.Ytkbgbllcekmfcaa.TideL
open Go.RowKit Kit Rw Tid Tw

set_option maxHeartbeats 400000 in
theorem toTide_any (w : World) (m n : Int) :
    Calls Try.prog 13 #[.agg #[.int .i64 m, .int .i64 n]] w fun e w' => e = .returned (.agg #[.int .i64 m, .int .i64 n]) ∧ w.grownBy w' none := by
  have b1 := (box_new (w.alloc (.cells #[.int .i64 m, .int .i64 n] 23 (0, 0))) #[.int .i64 m, .int .i64 n] 25).grown (World.grownBy_alloc _ (.cells #[.int .i64 m, .int .i64 n] 25 (0, 0)) none)
  simp only [World.size_alloc] at b1
  have HG := Lib.hid (grownN_trans (grownN_trans (World.grownBy_alloc w (.cells #[.int .i64 m, .int .i64 n] 23 (0, 0)) none) (World.grownBy_alloc _ (.cells #[.int .i64 m, .int .i64 n] 25 (0, 0)) none)) (World.grownBy_alloc _ (.cells #[.int .i64 m, .int .i64 n] 25 (0, 0)) none))
  obtain ⟨c0, c1⟩ := two b1
  clear b1
  go_enter Try.func13, Try.ntmps13
  go_wp2
  refine bodyPost_ret (v := .agg #[.int .i64 m, .int .i64 n]) ?_ rfl ⟨rfl, HG.out⟩
  simp [results, Try.results13, go_sem, c0, c1]
end Go.Proofs.Ytkbgbllcekmfcaa.TideL

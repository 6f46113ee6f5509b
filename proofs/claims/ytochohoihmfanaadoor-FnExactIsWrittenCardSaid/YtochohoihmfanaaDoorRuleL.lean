/- Contracts of the laws' helper on rules, and of the counts, as frames. -/
import Derived.Test.YtochohoihmfanaaDoorStV
import Derived.Test.YtochohoihmfanaaDoorStU
namespace Go.Proofs.YtochohoihmfanaaDoor.RuleL
open Go.RowKit Kit Rw Rg Stm StormS StI

set_option maxHeartbeats 400000 in
theorem toRule_any (w : World) (m n : Int) :
    Calls Tryd.prog 15 #[.agg #[.int .i64 m, .int .i64 n]] w fun e w' => e = .returned (.agg #[.int .i64 m, .int .i64 n]) ∧ w.grownBy w' none := by
  have b1 := (box_new (w.alloc (.cells #[.int .i64 m, .int .i64 n] 26 (0, 0))) #[.int .i64 m, .int .i64 n] 38).grown (World.grownBy_alloc _ (.cells #[.int .i64 m, .int .i64 n] 38 (0, 0)) none)
  simp only [World.size_alloc] at b1
  have HG := Lib.hid (grownN_trans (grownN_trans (World.grownBy_alloc w (.cells #[.int .i64 m, .int .i64 n] 26 (0, 0)) none) (World.grownBy_alloc _ (.cells #[.int .i64 m, .int .i64 n] 38 (0, 0)) none)) (World.grownBy_alloc _ (.cells #[.int .i64 m, .int .i64 n] 38 (0, 0)) none))
  obtain ⟨c0, c1⟩ := two b1
  clear b1
  go_enter Tryd.func15, Tryd.ntmps15
  go_wp2
  refine bodyPost_ret (v := .agg #[.int .i64 m, .int .i64 n]) ?_ rfl ⟨rfl, HG.out⟩
  simp [results, Tryd.results15, go_sem, c0, c1]
end Go.Proofs.YtochohoihmfanaaDoor.RuleL

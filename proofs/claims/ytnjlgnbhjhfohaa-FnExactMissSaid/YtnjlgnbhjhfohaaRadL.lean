/- The laws' helpers on radios. -/
import Derived.Test.YtnjlgnbhjhfohaaRadJ
namespace Go.Proofs.Ytnjlgnbhjhfohaa.RadL
open Go.RowKit Kit Rw Rad Tw

set_option maxHeartbeats 400000 in
theorem toRadio_any (w : World) (m n : Int) :
    Calls Try.prog 13 #[.agg #[.int .i64 m, .int .i64 n]] w fun e w' => e = .returned (.agg #[.int .i64 m, .int .i64 n]) ∧ w.grownBy w' none := by
  have b1 := (box_new (w.alloc (.cells #[.int .i64 m, .int .i64 n] 25 (0, 0))) #[.int .i64 m, .int .i64 n] 27).grown (World.grownBy_alloc _ (.cells #[.int .i64 m, .int .i64 n] 27 (0, 0)) none)
  simp only [World.size_alloc] at b1
  have HG := Lib.hid (grownN_trans (grownN_trans (World.grownBy_alloc w (.cells #[.int .i64 m, .int .i64 n] 25 (0, 0)) none) (World.grownBy_alloc _ (.cells #[.int .i64 m, .int .i64 n] 27 (0, 0)) none)) (World.grownBy_alloc _ (.cells #[.int .i64 m, .int .i64 n] 27 (0, 0)) none))
  obtain ⟨c0, c1⟩ := two b1
  clear b1
  go_enter Try.func13, Try.ntmps13
  go_wp2
  refine bodyPost_ret (v := .agg #[.int .i64 m, .int .i64 n]) ?_ rfl ⟨rfl, HG.out⟩
  simp [results, Try.results13, go_sem, c0, c1]

set_option maxHeartbeats 400000 in
theorem eqRadio_same (w : World) (m n : Int) :
    Calls Try.prog 17 #[.agg #[.int .i64 m, .int .i64 n], .agg #[.int .i64 m, .int .i64 n]] w fun e w' => e = .returned (.bool true) ∧ w.grownBy w' none := by
  have g1 := World.grownBy_alloc w (.cells #[.int .i64 m, .int .i64 n] 27 (0, 0)) (none : Option Nat)
  have g2 := World.grownBy_alloc (w.alloc (.cells #[.int .i64 m, .int .i64 n] 27 (0, 0))) (.cells #[.int .i64 m, .int .i64 n] 27 (0, 0)) (none : Option Nat)
  have b0 := (box_new w #[.int .i64 m, .int .i64 n] 27).grown g2
  have b1 := box_new (w.alloc (.cells #[.int .i64 m, .int .i64 n] 27 (0, 0))) #[.int .i64 m, .int .i64 n] 27
  simp only [World.size_alloc] at b1
  obtain ⟨c0, c1⟩ := two b0
  obtain ⟨d0, d1⟩ := two b1
  have HG := Lib.hid (grownN_trans g1 g2)
  clear g1 g2 b0 b1
  go_enter Try.func17, Try.ntmps17
  go_wp2
  go_ret
  exact ⟨rfl, HG.out⟩
end Go.Proofs.Ytnjlgnbhjhfohaa.RadL

/- Contracts of the laws' helper on rules, and of the counts, as frames. -/
import Derived.Test.YtbpiojnehomljaaStV
import Derived.Test.YtbpiojnehomljaaStU
namespace Go.Proofs.Ytbpiojnehomljaa.RuleL
open Go.RowKit Kit Rw Rg Stm StormS StI

theorem sStormsG (w : World) (v : Value) (L : List Bool) (hv : SeesG encB w v L) :
    Calls Try.prog 101 #[v] w fun e w' => e = .returned (.int .i64 (storms L)) ∧ w.grownBy w' none :=
  (sStorms_any w v L hv).mono fun e w' h => ⟨h.1, by rw [← h.2]; exact World.grownBy.refl _ _⟩
theorem iStormsG (w : World) (v : Value) (L : List Bool) (hv : SeesG encB w v L) :
    Calls Try.prog 136 #[v] w fun e w' => e = .returned (.int .i64 (storms L)) ∧ w.grownBy w' none :=
  (iStorms_any w v L hv).mono fun e w' h => ⟨h.1, by rw [← h.2]; exact World.grownBy.refl _ _⟩

set_option maxHeartbeats 400000 in
theorem toRule_any (w : World) (m n : Int) :
    Calls Try.prog 27 #[.agg #[.int .i64 m, .int .i64 n]] w fun e w' => e = .returned (.agg #[.int .i64 m, .int .i64 n]) ∧ w.grownBy w' none := by
  have b1 := (box_new (w.alloc (.cells #[.int .i64 m, .int .i64 n] 42 (0, 0))) #[.int .i64 m, .int .i64 n] 49).grown (World.grownBy_alloc _ (.cells #[.int .i64 m, .int .i64 n] 49 (0, 0)) none)
  simp only [World.size_alloc] at b1
  have HG := Lib.hid (grownN_trans (grownN_trans (World.grownBy_alloc w (.cells #[.int .i64 m, .int .i64 n] 42 (0, 0)) none) (World.grownBy_alloc _ (.cells #[.int .i64 m, .int .i64 n] 49 (0, 0)) none)) (World.grownBy_alloc _ (.cells #[.int .i64 m, .int .i64 n] 49 (0, 0)) none))
  obtain ⟨c0, c1⟩ := two b1
  clear b1
  go_enter Try.func27, Try.ntmps27
  go_wp2
  refine bodyPost_ret (v := .agg #[.int .i64 m, .int .i64 n]) ?_ rfl ⟨rfl, HG.out⟩
  simp [results, Try.results27, go_sem, c0, c1]
end Go.Proofs.Ytbpiojnehomljaa.RuleL

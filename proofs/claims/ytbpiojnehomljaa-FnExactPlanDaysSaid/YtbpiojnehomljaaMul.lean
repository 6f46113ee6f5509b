/- bits.Mul of 1 and a small count. -/
import Derived.Test.YtbpiojnehomljaaPlcI
namespace Go.Proofs.Ytbpiojnehomljaa.Pln
open Go.RowKit Kit Rw Rg

theorem small {r : Nat} (h : r ≤ 30) : r = 0 ∨ r = 1 ∨ r = 2 ∨ r = 3 ∨ r = 4 ∨ r = 5 ∨ r = 6 ∨ r = 7 ∨ r = 8 ∨ r = 9 ∨ r = 10 ∨ r = 11 ∨ r = 12 ∨ r = 13 ∨ r = 14 ∨ r = 15 ∨ r = 16 ∨ r = 17 ∨ r = 18 ∨ r = 19 ∨ r = 20 ∨ r = 21 ∨ r = 22 ∨ r = 23 ∨ r = 24 ∨ r = 25 ∨ r = 26 ∨ r = 27 ∨ r = 28 ∨ r = 29 ∨ r = 30 := by omega
set_option maxRecDepth 20000 in
set_option maxHeartbeats 2000000 in
theorem mul64_any (w : World) (r : Nat) (h : r ≤ 30) :
    Calls Try.prog 135 #[.int .u64 1, .int .u64 (r : Int)] w fun e w' => e = .returned (.tuple #[.int .u64 0, .int .u64 (r : Int)]) ∧ w = w' := by
  rcases small h with rfl | rfl | rfl | rfl | rfl | rfl | rfl | rfl | rfl | rfl | rfl | rfl | rfl | rfl | rfl | rfl | rfl | rfl | rfl | rfl | rfl | rfl | rfl | rfl | rfl | rfl | rfl | rfl | rfl | rfl | rfl
  all_goals
    go_enter Try.func135, Try.ntmps135
    go_wp2
    go_ret2
    exact ⟨rfl, rfl⟩
set_option maxRecDepth 20000 in
theorem mul_any (w : World) (r : Nat) (h : r ≤ 30) :
    Calls Try.prog 120 #[.int .u64 1, .int .u64 (r : Int)] w fun e w' => e = .returned (.tuple #[.int .u64 0, .int .u64 (r : Int)]) ∧ w = w' := by
  have HM := Lib.hid (mul64_any w r h)
  go_enter Try.func120, Try.ntmps120
  go_wp2_with fail
  refine HM.out.mono ?_
  rintro e w2 ⟨rfl, rfl⟩
  go_wp2
  go_ret2
  exact ⟨rfl, rfl⟩
end Go.Proofs.Ytbpiojnehomljaa.Pln

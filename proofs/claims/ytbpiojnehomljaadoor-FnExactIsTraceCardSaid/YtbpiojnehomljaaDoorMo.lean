/- Contracts of Mod of the program and of its model, where the modulus is in its range. -/
import Derived.Test.YtbpiojnehomljaaDoorMBase
namespace Go.Proofs.YtbpiojnehomljaaDoor.Md
open Go.RowKit Kit Rw

theorem tmod_bd (a b : Int) (h : 1 ≤ b) : -b < a.tmod b ∧ a.tmod b < b := by
  have := Int.tmod_lt_of_pos a (show 0 < b by omega)
  have := Int.lt_tmod_of_pos a (show 0 < b by omega)
  omega
theorem tmod_step (a b : Int) : (a.tmod b + b) % b = a % b := by
  have h : a.tmod b + b = a + b * (1 - a.tdiv b) := by
    have := Int.tmod_add_mul_tdiv a b
    rw [Int.mul_sub]; omega
  rw [h, Int.add_mul_emod_self_left]

set_option maxHeartbeats 400000 in
theorem mod_any (a b : Int) (w : World) (h : 1 ≤ b) (h' : b ≤ 1000000000000) :
    Calls Tryd.prog 75 #[.int .i64 a, .int .i64 b] w fun e w' => e = .returned (.int .i64 (a % b)) ∧ w = w' := by
  have hd : decide (1 ≤ b ∧ b ≤ 1000000000000) = true := by simpa using And.intro h h'
  have hb := tmod_bd a b h
  go_enter Tryd.func75, Tryd.ntmps75
  go_wp2_with (go_at_call 47; refine (inRange_any _ _ _ _).mono ?_; rintro e w' ⟨rfl, rfl⟩)
  all_goals
    go_ret
    exact ⟨ret_i64 (by first | exact tmod_step a b | (rw [← tmod_step a b]; exact (Int.emod_eq_of_lt (by omega) (by omega)).symm) | (rw [← tmod_step a b, Int.add_emod_right]; exact (Int.emod_eq_of_lt (by omega) (by omega)).symm)), rfl⟩

set_option maxHeartbeats 400000 in
theorem sMod_any (a b : Int) (w : World) (h : 1 ≤ b) (h' : b ≤ 1000000000000) :
    Calls Tryd.prog 67 #[.int .i64 a, .int .i64 b] w fun e w' => e = .returned (.int .i64 (a % b)) ∧ w = w' := by
  have hd : decide (1 ≤ b ∧ b ≤ 1000000000000) = true := by simpa using And.intro h h'
  have hb := tmod_bd a b h
  go_enter Tryd.func67, Tryd.ntmps67
  go_wp2_with (go_at_call 43; refine (l1In_any _ _ _ _).mono ?_; rintro e w' ⟨rfl, rfl⟩)
  all_goals
    go_ret
    exact ⟨ret_i64 (by first | exact tmod_step a b | (rw [← tmod_step a b]; exact (Int.emod_eq_of_lt (by omega) (by omega)).symm)), rfl⟩
end Go.Proofs.YtbpiojnehomljaaDoor.Md

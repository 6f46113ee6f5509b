/- Contracts of the program's InRange, CeilDiv and Mod, for every argument. No condition. -/
import Derived.Test.YtfkaohgbjiphbaaDoorRows
import Derived.WalkKit
namespace Go.Proofs.YtfkaohgbjiphbaaDoor.Arith
open Go.RowKit

def inR (n l h : Int) : Bool := decide (l ≤ n ∧ n ≤ h)

theorem ret_bool {a b : Bool} (h : a = b) : Ending.returned (.bool a) = .returned (.bool b) := by rw [h]

theorem ret_i64 {a b : Int} (h : a = b) : Ending.returned (.int .i64 a) = .returned (.int .i64 b) := by rw [h]

theorem inRange_any (n l h : Int) (w : World) :
    Calls Tryd.prog 21 #[.int .i64 n, .int .i64 l, .int .i64 h] w fun e w' => e = .returned (.bool (inR n l h)) ∧ w = w' := by
  by_cases h1 : l ≤ n
  · go_enter Tryd.func21, Tryd.ntmps21
    go_wp2
    go_ret
    exact ⟨ret_bool (by unfold inR; rw [Bool.eq_iff_iff]; simp; omega), rfl⟩
  · go_enter Tryd.func21, Tryd.ntmps21
    go_wp2
    go_ret
    exact ⟨ret_bool (by unfold inR; rw [Bool.eq_iff_iff]; simp; omega), rfl⟩

theorem inR_iff {n l h : Int} (g : inR n l h = true) : l ≤ n ∧ n ≤ h := by simpa [inR] using g

def cdiv (a b : Int) : Int := if inR a 0 1000000000000 && inR b 1 1000000000000 then (a + b - 1) / b else 0

set_option maxHeartbeats 400000 in
theorem ceil_any (a b : Int) (w : World) :
    Calls Tryd.prog 12 #[.int .i64 a, .int .i64 b] w fun e w' => e = .returned (.int .i64 (cdiv a b)) ∧ w = w' := by
  by_cases h1 : inR a 0 1000000000000 = true
  · by_cases h2 : inR b 1 1000000000000 = true
    · have h1' := inR_iff h1
      have h2' := inR_iff h2
      go_enter Tryd.func12, Tryd.ntmps12
      go_wp2_with (go_at_call 21; refine (inRange_any _ _ _ _).mono ?_; rintro e w' ⟨rfl, rfl⟩)
      go_ret
      exact ⟨ret_i64 (by simp [cdiv, h1, h2]), rfl⟩
    · replace h2 := Bool.eq_false_iff.mpr h2
      go_enter Tryd.func12, Tryd.ntmps12
      go_wp2_with (go_at_call 21; refine (inRange_any _ _ _ _).mono ?_; rintro e w' ⟨rfl, rfl⟩)
      go_ret
      exact ⟨ret_i64 (by simp [cdiv, h2]), rfl⟩
  · replace h1 := Bool.eq_false_iff.mpr h1
    go_enter Tryd.func12, Tryd.ntmps12
    go_wp2_with (go_at_call 21; refine (inRange_any _ _ _ _).mono ?_; rintro e w' ⟨rfl, rfl⟩)
    go_ret
    exact ⟨ret_i64 (by simp [cdiv, h1]), rfl⟩

def modOf (a b : Int) : Int := if inR b 1 1000000000000 then a % b else 0

theorem tmod_bd (a b : Int) (h : 1 ≤ b) : -b < a.tmod b ∧ a.tmod b < b := by
  have := Int.tmod_lt_of_pos a (show 0 < b by omega)
  have := Int.lt_tmod_of_pos a (show 0 < b by omega)
  omega

theorem tmod_step (a b : Int) : (a.tmod b + b) % b = a % b := by
  have h : a.tmod b + b = a + b * (1 - a.tdiv b) := by
    have := Int.tmod_add_mul_tdiv a b
    rw [Int.mul_sub]; omega
  rw [h, Int.add_mul_emod_self_left]

set_option maxHeartbeats 400000 in
theorem mod_any (a b : Int) (w : World) :
    Calls Tryd.prog 13 #[.int .i64 a, .int .i64 b] w fun e w' => e = .returned (.int .i64 (modOf a b)) ∧ w = w' := by
  by_cases h2 : inR b 1 1000000000000 = true
  · have h2' := inR_iff h2
    have hb := tmod_bd a b (by omega)
    go_enter Tryd.func13, Tryd.ntmps13
    go_wp2_with (go_at_call 21; refine (inRange_any _ _ _ _).mono ?_; rintro e w' ⟨rfl, rfl⟩)
    all_goals
      go_ret
      exact ⟨ret_i64 (by simp only [modOf, h2, if_true]; first | exact tmod_step a b | (rw [← tmod_step a b]; exact (Int.emod_eq_of_lt (by omega) (by omega)).symm) | (rw [← tmod_step a b, Int.add_emod_right]; exact (Int.emod_eq_of_lt (by omega) (by omega)).symm)), rfl⟩
  · replace h2 := Bool.eq_false_iff.mpr h2
    go_enter Tryd.func13, Tryd.ntmps13
    go_wp2_with (go_at_call 21; refine (inRange_any _ _ _ _).mono ?_; rintro e w' ⟨rfl, rfl⟩)
    go_ret
    exact ⟨ret_i64 (by simp [modOf, h2]), rfl⟩
end Go.Proofs.YtfkaohgbjiphbaaDoor.Arith

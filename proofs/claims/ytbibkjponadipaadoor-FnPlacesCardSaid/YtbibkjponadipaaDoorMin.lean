/- Contracts of the program's Min and Max, for every two arguments. -/
import Derived.Test.YtbibkjponadipaaDoorMBase
import Derived.WalkKit
namespace Go.Proofs.YtbibkjponadipaaDoor.Mn
open Go.RowKit Kit Rw
def least (a b : Int) : Int := if b < a then b else a
theorem least_lt {a b : Int} (h : b < a) : least a b = b := by unfold least; rw [if_pos h]
theorem least_ge {a b : Int} (h : a ≤ b) : least a b = a := by unfold least; rw [if_neg (by omega)]

set_option maxHeartbeats 400000 in
theorem foremost_min (a b : Int) (w : World) (p : Addr) (hc : w.cell? p = some (.int .i64 b)) :
    Calls Tryd.prog 43 #[.func (.func 45) #[] #[], .int .i64 a, .slice (some p) 1 1] w fun e w' => e = .returned (.int .i64 (least a b)) ∧ w = w' := by
  go_enter Tryd.func43, Tryd.ntmps43
  go_wp2
  go_loop [7, 13] (fun v i => (i = .int .i64 0 ∧ v = .int .i64 a) ∨ (i = .int .i64 1 ∧ v = .int .i64 (least a b))) (fun _ i => 1 - (intOf i).toNat)
  case atStart => exact Or.inl ⟨rfl, rfl⟩
  case round =>
    rcases hrel with ⟨rfl, rfl⟩ | ⟨rfl, rfl⟩
    · by_cases h : b < a
      · go_wp2
        go_round
        case rel => exact Or.inr ⟨rfl, by rw [least_lt (by omega)]⟩
        case measure => simp [intOf]
      · go_wp2
        go_round
        case rel => exact Or.inr ⟨rfl, by rw [least_ge (by omega)]⟩
        case measure => simp [intOf]
    · go_wp2
      go_ret
      exact ⟨rfl, rfl⟩

theorem min_any (a b : Int) (w : World) :
    Calls Tryd.prog 36 #[.int .i64 a, .int .i64 b] w fun e w' => e = .returned (.int .i64 (least a b)) ∧ w.grownBy w' none := by
  have hc : (w.alloc (.cells #[.int .i64 b] 3)).cell? ⟨w.heap.size, 0, none⟩ = some (.int .i64 b) := by go_simp
  go_enter Tryd.func36, Tryd.ntmps36
  go_wp2_with (go_at_call 43; refine (foremost_min _ _ _ _ hc).mono ?_; rintro e w' ⟨rfl, rfl⟩)
  go_ret
  exact ⟨rfl, World.grownBy_alloc _ _ _⟩
def most (a b : Int) : Int := if a < b then b else a
theorem most_gt {a b : Int} (h : a < b) : most a b = b := by unfold most; rw [if_pos h]
theorem most_le {a b : Int} (h : b ≤ a) : most a b = a := by unfold most; rw [if_neg (by omega)]
set_option maxHeartbeats 400000 in
theorem foremost_max (a b : Int) (w : World) (p : Addr) (hc : w.cell? p = some (.int .i64 b)) :
    Calls Tryd.prog 43 #[.func (.func 44) #[] #[], .int .i64 a, .slice (some p) 1 1] w fun e w' => e = .returned (.int .i64 (most a b)) ∧ w = w' := by
  go_enter Tryd.func43, Tryd.ntmps43
  go_wp2
  go_loop [7, 13] (fun v i => (i = .int .i64 0 ∧ v = .int .i64 a) ∨ (i = .int .i64 1 ∧ v = .int .i64 (most a b))) (fun _ i => 1 - (intOf i).toNat)
  case atStart => exact Or.inl ⟨rfl, rfl⟩
  case round =>
    rcases hrel with ⟨rfl, rfl⟩ | ⟨rfl, rfl⟩
    · by_cases h : a < b
      · go_wp2
        go_round
        case rel => exact Or.inr ⟨rfl, by rw [most_gt (by omega)]⟩
        case measure => simp [intOf]
      · go_wp2
        go_round
        case rel => exact Or.inr ⟨rfl, by rw [most_le (by omega)]⟩
        case measure => simp [intOf]
    · go_wp2
      go_ret
      exact ⟨rfl, rfl⟩

theorem max_any (a b : Int) (w : World) :
    Calls Tryd.prog 35 #[.int .i64 a, .int .i64 b] w fun e w' => e = .returned (.int .i64 (most a b)) ∧ w.grownBy w' none := by
  have hc : (w.alloc (.cells #[.int .i64 b] 3)).cell? ⟨w.heap.size, 0, none⟩ = some (.int .i64 b) := by go_simp
  go_enter Tryd.func35, Tryd.ntmps35
  go_wp2_with (go_at_call 43; refine (foremost_max _ _ _ _ hc).mono ?_; rintro e w' ⟨rfl, rfl⟩)
  go_ret
  exact ⟨rfl, World.grownBy_alloc _ _ _⟩
end Go.Proofs.YtbibkjponadipaaDoor.Mn

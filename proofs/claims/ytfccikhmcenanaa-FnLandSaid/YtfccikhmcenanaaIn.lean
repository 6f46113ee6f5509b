/- Contracts of the range tests of the program and of the model. -/
import Derived.Test.YtfccikhmcenanaaRow
namespace Go.Proofs.Ytfccikhmcenanaa.Md
open Go.RowKit Kit Rw
theorem inRange_any (n l h : Int) (w : World) :
    Calls Try.prog 60 #[.int .i64 n, .int .i64 l, .int .i64 h] w fun e w' => e = .returned (.bool (decide (l ≤ n ∧ n ≤ h))) ∧ w = w' := by
  by_cases h1 : l ≤ n
  · go_enter Try.func60, Try.ntmps60
    go_wp2
    go_ret
    exact ⟨ret_bool (by rw [Bool.eq_iff_iff]; simp; omega), rfl⟩
  · go_enter Try.func60, Try.ntmps60
    go_wp2
    go_ret
    exact ⟨ret_bool (by rw [Bool.eq_iff_iff]; simp; omega), rfl⟩
theorem l1In_any (n l h : Int) (w : World) :
    Calls Try.prog 61 #[.int .i64 n, .int .i64 l, .int .i64 h] w fun e w' => e = .returned (.bool (decide (l ≤ n ∧ n ≤ h))) ∧ w = w' := by
  by_cases h1 : l ≤ n
  · go_enter Try.func61, Try.ntmps61
    go_wp2
    go_ret
    exact ⟨ret_bool (by rw [Bool.eq_iff_iff]; simp; omega), rfl⟩
  · go_enter Try.func61, Try.ntmps61
    go_wp2
    go_ret
    exact ⟨ret_bool (by rw [Bool.eq_iff_iff]; simp; omega), rfl⟩
/-- The same, the answer known. -/
theorem l1In_yes {n l h : Int} (w : World) (hd : l ≤ n ∧ n ≤ h) :
    Calls Try.prog 61 #[.int .i64 n, .int .i64 l, .int .i64 h] w fun e w' => e = .returned (.bool true) ∧ w = w' := by
  have := l1In_any n l h w; rwa [decide_eq_true hd] at this
theorem l1In_no {n l h : Int} (w : World) (hd : ¬ (l ≤ n ∧ n ≤ h)) :
    Calls Try.prog 61 #[.int .i64 n, .int .i64 l, .int .i64 h] w fun e w' => e = .returned (.bool false) ∧ w = w' := by
  have := l1In_any n l h w; rwa [decide_eq_false hd] at this
end Go.Proofs.Ytfccikhmcenanaa.Md

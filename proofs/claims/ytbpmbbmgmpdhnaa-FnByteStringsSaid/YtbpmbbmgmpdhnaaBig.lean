/- Contract of the laws' test of the input's length. -/
import Derived.Test.YtbpmbbmgmpdhnaaRow
namespace Go.Proofs.Ytbpmbbmgmpdhnaa.Same
open Go.RowKit Kit Rw

theorem big_any (w : World) (a : Option Addr) (len cap : Nat) (hl : len ≤ 9223372036854775807) :
    Calls Try.prog 16 #[.slice a len cap] w fun e w' => e = .returned (.bool (decide (1048576 < len))) ∧ w = w' := by
  by_cases h : (1048576 : Int) < (len : Int)
  · go_enter Try.func16, Try.ntmps16
    go_wp2
    go_ret
    exact ⟨ret_bool (by symm; rw [decide_eq_true_iff]; omega), rfl⟩
  · go_enter Try.func16, Try.ntmps16
    go_wp2
    go_ret
    exact ⟨ret_bool (by symm; rw [decide_eq_false_iff_not]; omega), rfl⟩
end Go.Proofs.Ytbpmbbmgmpdhnaa.Same

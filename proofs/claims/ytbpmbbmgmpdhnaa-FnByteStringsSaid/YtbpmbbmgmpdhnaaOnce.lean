/- The draw of a yes or no. -/
import Derived.Test.YtbpmbbmgmpdhnaaDraw
namespace Go.Proofs.Ytbpmbbmgmpdhnaa.Draw
open Go.RowKit Kit

/-- How a draw of a yes or no ends. -/
def DrawnB (c : Nat) (w : World) (e : Ending) (w' : World) : Prop := ∃ b : Bool, e = .returned (.bool b) ∧ Cur w' c ∧ w.grownBy w' (some c)
theorem once_any (n : Int) (hn : n ≤ 9223372036854775807) (w : World) (c : Nat) (hc : Cur w c) :
    Calls Try.prog 68 #[.pointer (some ⟨c, 0, none⟩), .int .i64 n] w (DrawnB c w) := by
  have HC := Lib.hid hc
  clear hc
  go_enter Try.func68, Try.ntmps68
  go_wp2_with (go_at_call 62; refine (below_any n hn _ _ HC.out).mono ?_; rintro e w1 ⟨x, HP, rfl, hc1, hg1⟩)
  go_ret
  exact ⟨_, rfl, hc1, hg1⟩

end Go.Proofs.Ytbpmbbmgmpdhnaa.Draw

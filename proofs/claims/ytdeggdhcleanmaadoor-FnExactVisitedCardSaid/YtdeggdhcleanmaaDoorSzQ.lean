/- Contracts of the laws' helper on the size of a row of depots: enough, or too much. -/
import Derived.Test.YtdeggdhcleanmaaDoorLawsQ
namespace Go.Proofs.YtdeggdhcleanmaaDoor.LawsQ
open Go.RowKit Kit Rw Rg
theorem szQ_yes (w : World) (v : Value) (X : List I4) (left : Int) (hv : SeesG enc4 w v X) (h : (X.length : Int) ≤ left) (hl : 0 ≤ left) (hl' : left ≤ 1048576) :
    Calls Tryd.prog 12 #[v, .int .i64 left] w fun e w' => e = .returned (.int .i64 (left - (X.length : Int))) ∧ w.grownBy w' none := by
  have := szQ_any w v X left hv hl hl'
  rw [if_pos h] at this
  exact this.mono fun e w' h => ⟨h.1, by rw [← h.2]; exact World.grownBy.refl _ _⟩
theorem szQ_no (w : World) (v : Value) (X : List I4) (left : Int) (hv : SeesG enc4 w v X) (h : ¬ (X.length : Int) ≤ left) (hl : 0 ≤ left) (hl' : left ≤ 1048576) :
    Calls Tryd.prog 12 #[v, .int .i64 left] w fun e w' => e = .returned (.int .i64 (-1)) ∧ w.grownBy w' none := by
  have := szQ_any w v X left hv hl hl'
  rw [if_neg h] at this
  exact this.mono fun e w' h => ⟨h.1, by rw [← h.2]; exact World.grownBy.refl _ _⟩
end Go.Proofs.YtdeggdhcleanmaaDoor.LawsQ

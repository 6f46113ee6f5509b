/- Contracts of the laws' helper on the size of a row of events: enough, or too much. -/
import Derived.Test.YtconlnlbaimghaaLawsE2
namespace Go.Proofs.Ytconlnlbaimghaa.LawsE
open Go.RowKit Kit Rw Rg
theorem szE_yes (w : World) (v : Value) (X : List Ev) (left : Int) (hv : SeesG encV w v X) (h : (X.length : Int) ≤ left) (hl : 0 ≤ left) (hl' : left ≤ 1048576) :
    Calls Try.prog 9 #[v, .int .i64 left] w fun e w' => e = .returned (.int .i64 (left - (X.length : Int))) ∧ w.grownBy w' none := by
  have := szE_any w v X left hv hl hl'
  rw [if_pos h] at this
  exact this.mono fun e w' h => ⟨h.1, by rw [← h.2]; exact World.grownBy.refl _ _⟩
theorem szE_no (w : World) (v : Value) (X : List Ev) (left : Int) (hv : SeesG encV w v X) (h : ¬ (X.length : Int) ≤ left) (hl : 0 ≤ left) (hl' : left ≤ 1048576) :
    Calls Try.prog 9 #[v, .int .i64 left] w fun e w' => e = .returned (.int .i64 (-1)) ∧ w.grownBy w' none := by
  have := szE_any w v X left hv hl hl'
  rw [if_neg h] at this
  exact this.mono fun e w' h => ⟨h.1, by rw [← h.2]; exact World.grownBy.refl _ _⟩
end Go.Proofs.Ytconlnlbaimghaa.LawsE

/- Contracts of the laws' helper on the size of a row of depots: enough, or too much. -/
import Derived.Test.YtbpiojnehomljaaLawsG
namespace Go.Proofs.Ytbpiojnehomljaa.LawsG
open Go.RowKit Kit Rw Rg
theorem szG_yes (w : World) (v : Value) (X : List (Int × Int)) (left : Int) (hv : SeesG encP w v X) (h : (X.length : Int) ≤ left) (hl : 0 ≤ left) (hl' : left ≤ 1048576) :
    Calls Try.prog 11 #[v, .int .i64 left] w fun e w' => e = .returned (.int .i64 (left - (X.length : Int))) ∧ w.grownBy w' none := by
  have := szG_any w v X left hv hl hl'
  rw [if_pos h] at this
  exact this.mono fun e w' h => ⟨h.1, by rw [← h.2]; exact World.grownBy.refl _ _⟩
theorem szG_no (w : World) (v : Value) (X : List (Int × Int)) (left : Int) (hv : SeesG encP w v X) (h : ¬ (X.length : Int) ≤ left) (hl : 0 ≤ left) (hl' : left ≤ 1048576) :
    Calls Try.prog 11 #[v, .int .i64 left] w fun e w' => e = .returned (.int .i64 (-1)) ∧ w.grownBy w' none := by
  have := szG_any w v X left hv hl hl'
  rw [if_neg h] at this
  exact this.mono fun e w' h => ⟨h.1, by rw [← h.2]; exact World.grownBy.refl _ _⟩
end Go.Proofs.Ytbpiojnehomljaa.LawsG

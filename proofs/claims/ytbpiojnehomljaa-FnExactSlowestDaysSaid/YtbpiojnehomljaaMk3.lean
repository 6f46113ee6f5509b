/- How the laws mark a bool. -/
import Derived.Test.YtbpiojnehomljaaRowE
namespace Go.Proofs.Ytbpiojnehomljaa.LawsBo
def mk3 (m : Nat) : Bool := (m : Int) % 3 == 0
theorem mk3_add (m j : Nat) : mk3 (m + j) = (((m : Int) + (j : Int)) % 3 == 0) := by unfold mk3; rw [Int.natCast_add]
end Go.Proofs.Ytbpiojnehomljaa.LawsBo

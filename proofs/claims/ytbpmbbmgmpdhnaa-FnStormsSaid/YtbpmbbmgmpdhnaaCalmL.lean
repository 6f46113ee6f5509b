/- The contracts of CalmDays, as frames. -/
import Derived.Test.YtbpmbbmgmpdhnaaStC
import Derived.Test.YtbpmbbmgmpdhnaaStormS
namespace Go.Proofs.Ytbpmbbmgmpdhnaa.RuleL
open Go.RowKit Kit Rw Rg Stm StormS
theorem sCalmG (w : World) (v : Value) (L : List Bool) (hv : SeesG encB w v L) :
    Calls Try.prog 59 #[v] w fun e w' => e = .returned (.int .i64 (calm L)) ∧ w.grownBy w' none :=
  (sCalm_any w v L hv).mono fun e w' h => ⟨h.1, by rw [← h.2]; exact World.grownBy.refl _ _⟩
theorem iCalmG (w : World) (v : Value) (L : List Bool) (hv : SeesG encB w v L) :
    Calls Try.prog 39 #[v] w fun e w' => e = .returned (.int .i64 (calm L)) ∧ w.grownBy w' none := StC.iCalm_any w v L hv
end Go.Proofs.Ytbpmbbmgmpdhnaa.RuleL

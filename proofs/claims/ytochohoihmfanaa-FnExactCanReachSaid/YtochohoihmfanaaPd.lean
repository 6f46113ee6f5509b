/- Contracts of the models of Eat and PickUp. -/
import Derived.Test.YtochohoihmfanaaPc
import Derived.Test.YtochohoihmfanaaPa
namespace Go.Proofs.Ytochohoihmfanaa.Pd
open Go.RowKit Kit Rw Rg Crw Four PartyL Pc Pa Mn

def eatB (L : List Mem) (f : Int) : Bool := areCrew L && decide (needOf L ≤ f)
def eatF (L : List Mem) (f : Int) : Int := if eatB L f = true then f - needOf L else f
theorem eatB_no {L : List Mem} {f : Int} (h : areCrew L = false) : eatB L f = false := by unfold eatB; rw [h]; rfl
theorem eatB_few {L : List Mem} {f : Int} (h : f < needOf L) : eatB L f = false := by unfold eatB; rw [decide_eq_false (by omega)]; simp
theorem eatB_yes {L : List Mem} {f : Int} (h : areCrew L = true) (h2 : needOf L ≤ f) : eatB L f = true := by unfold eatB; rw [h, decide_eq_true h2]; rfl
theorem eatF_no {L : List Mem} {f : Int} (h : eatB L f = false) : eatF L f = f := by unfold eatF; rw [h]; rfl
theorem eatF_yes {L : List Mem} {f : Int} (h : eatB L f = true) : eatF L f = f - needOf L := by unfold eatF; rw [h]; rfl

end Go.Proofs.Ytochohoihmfanaa.Pd

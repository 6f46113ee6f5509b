/- Contracts of the program's Keeps, MayStorm, copies with room and AddDay. -/
import Derived.Test.YtfcjbkagofccdaaStJ
import Derived.Test.YtfcjbkagofccdaaStormK
import Derived.Test.YtfcjbkagofccdaaStormA
namespace Go.Proofs.Ytfcjbkagofccdaa.StI
open Go.RowKit Kit Rw Rg Stm Md StormS

theorem sees_nil {α : Type} (e : Enc α) (w : World) : SeesG e w (.slice none 0 0) [] := ⟨none, 0, rfl, by simp, by unfold maxLen; omega, fun _ => rfl, by simp, .inl rfl⟩
end Go.Proofs.Ytfcjbkagofccdaa.StI

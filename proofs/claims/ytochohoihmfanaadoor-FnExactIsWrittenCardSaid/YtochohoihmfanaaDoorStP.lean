/- Contracts of the program's Keeps, MayStorm, copies with room and AddDay. -/
import Derived.Test.YtochohoihmfanaaDoorStJ
import Derived.Test.YtochohoihmfanaaDoorStormK
import Derived.Test.YtochohoihmfanaaDoorStormA
namespace Go.Proofs.YtochohoihmfanaaDoor.StI
open Go.RowKit Kit Rw Rg Stm Md StormS

theorem sees_nil {α : Type} (e : Enc α) (w : World) : SeesG e w (.slice none 0 0) [] := ⟨none, 0, rfl, by simp, by unfold maxLen; omega, fun _ => rfl, by simp, .inl rfl⟩
end Go.Proofs.YtochohoihmfanaaDoor.StI

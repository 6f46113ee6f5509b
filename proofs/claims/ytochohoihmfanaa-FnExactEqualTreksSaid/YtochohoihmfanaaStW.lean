/- Contracts of AddDay, of the worst weather's closure and of WorstDays. -/
import Derived.Test.YtochohoihmfanaaStP
namespace Go.Proofs.Ytochohoihmfanaa.StI
open Go.RowKit Kit Rw Rg Stm Md StormS

theorem worst_int {m n : Nat} {L : List Bool} {k : Nat} (hk : k ≤ 200) : (worst m n L k : Int) ≤ 4010 := by
  have := worst_le m n L k; omega

end Go.Proofs.Ytochohoihmfanaa.StI

/- Contract of the program's AddDay. -/
import Derived.Test.YtfcjbkagofccdaaStP
import Derived.Test.YtfcjbkagofccdaaMin
namespace Go.Proofs.Ytfcjbkagofccdaa.StI
open Go.RowKit Kit Rw Rg Stm Md StormS Mn

end Go.Proofs.Ytfcjbkagofccdaa.StI

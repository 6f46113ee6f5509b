/- Contract of the program's AddDay. -/
import Derived.Test.YtochohoihmfanaaDoorStP
import Derived.Test.YtochohoihmfanaaDoorMin
namespace Go.Proofs.YtochohoihmfanaaDoor.StI
open Go.RowKit Kit Rw Rg Stm Md StormS Mn

end Go.Proofs.YtochohoihmfanaaDoor.StI

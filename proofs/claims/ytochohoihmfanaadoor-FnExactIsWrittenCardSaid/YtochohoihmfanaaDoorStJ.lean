/- Contracts of the program's functions of chapter 6 over its ring: a ring behind a past; Keeps, MayStorm. -/
import Derived.Test.YtochohoihmfanaaDoorStI
import Derived.Test.YtochohoihmfanaaDoorRowT
namespace Go.Proofs.YtochohoihmfanaaDoor.StI
open Go.RowKit Kit Rw Rg Stm Md StormS

end Go.Proofs.YtochohoihmfanaaDoor.StI

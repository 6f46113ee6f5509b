/- Contracts of the model's IsLand, IsCell and IsOpen. -/
import Derived.Test.YtochohoihmfanaaMBase
import Derived.Test.YtochohoihmfanaaMBase
import Derived.Test.YtochohoihmfanaaMBase
import Derived.IntWalk
import Derived.Deep.RegionWith
namespace Go.Proofs.Ytochohoihmfanaa.LandS
open Go.RowKit Kit Rw Ld Md

end Go.Proofs.Ytochohoihmfanaa.LandS

/- Contracts of the program's Eat and PickUp. -/
import Derived.Test.YtochohoihmfanaaPe
import Derived.Test.YtochohoihmfanaaPd
namespace Go.Proofs.Ytochohoihmfanaa.Pf
open Go.RowKit Kit Rw Rg Crw Four PartyL Pc Pa Pd Pe Mn

end Go.Proofs.Ytochohoihmfanaa.Pf

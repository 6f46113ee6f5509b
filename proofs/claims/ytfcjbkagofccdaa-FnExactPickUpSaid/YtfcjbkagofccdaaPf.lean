/- Contracts of the program's Eat and PickUp. -/
import Derived.Test.YtfcjbkagofccdaaPe
import Derived.Test.YtfcjbkagofccdaaPd
namespace Go.Proofs.Ytfcjbkagofccdaa.Pf
open Go.RowKit Kit Rw Rg Crw Four PartyL Pc Pa Pd Pe Mn

end Go.Proofs.Ytfcjbkagofccdaa.Pf

/- Contract of the model's copy of a party. -/
import Derived.Test.YtochohoihmfanaaRowU
import Derived.Test.YtochohoihmfanaaRowM
import Derived.Test.YtochohoihmfanaaFour
import Derived.Test.YtochohoihmfanaaPartyL
import Derived.Test.YtochohoihmfanaaCloneB
import Derived.Test.YtochohoihmfanaaCloneM
import Derived.Deep.RegionHeld3
namespace Go.Proofs.Ytochohoihmfanaa.Pc
open Go.RowKit Kit Rw Rg Four PartyL Cln

/-- How a call ends that hands out a party of its own. -/
def PartyOut (w w' : World) (u t : Value) (L : List Mem) (P : List Bool) : Prop := OwnG encM 75 w' w.heap.size u L ∧ OwnG encB 4 w' w.heap.size t P ∧ ApartU u t ∧ w.grownBy w' none

end Go.Proofs.Ytochohoihmfanaa.Pc

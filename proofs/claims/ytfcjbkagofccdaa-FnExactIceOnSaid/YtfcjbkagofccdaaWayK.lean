/- Contract of the program's WayTo. -/
import Derived.Test.YtfcjbkagofccdaaWayJ
namespace Go.Proofs.Ytfcjbkagofccdaa.WayI
open Go.RowKit Kit Rw Ld Gr GrI Bfs Wf Sr LandI

end Go.Proofs.Ytfcjbkagofccdaa.WayI

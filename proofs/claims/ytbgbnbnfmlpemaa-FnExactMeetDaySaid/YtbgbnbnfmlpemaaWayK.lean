/- Contract of the program's WayTo. -/
import Derived.Test.YtbgbnbnfmlpemaaWayJ
namespace Go.Proofs.Ytbgbnbnfmlpemaa.WayI
open Go.RowKit Kit Rw Ld Gr GrI Bfs Wf Sr LandI

end Go.Proofs.Ytbgbnbnfmlpemaa.WayI

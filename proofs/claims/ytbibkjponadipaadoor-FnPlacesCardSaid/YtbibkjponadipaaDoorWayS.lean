/- Contracts of the model's Days, Farthest and Reach. -/
import Derived.Test.YtbibkjponadipaaDoorFromS
import Derived.Test.YtbibkjponadipaaDoorWayF
import Derived.Test.YtbibkjponadipaaDoorWayG
namespace Go.Proofs.YtbibkjponadipaaDoor.WayS
open Go.RowKit Kit Rw Ld Bfs Wf LandS FromS

end Go.Proofs.YtbibkjponadipaaDoor.WayS

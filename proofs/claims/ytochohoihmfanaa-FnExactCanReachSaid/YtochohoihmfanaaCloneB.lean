/- Contracts of the library's slices.Clone at bools and at depots. -/
import Derived.Test.YtochohoihmfanaaRowM
import Derived.Test.YtochohoihmfanaaRowE
import Derived.Lib.SliceRun
namespace Go.Proofs.Ytochohoihmfanaa.Cln
open Go.RowKit Kit Rw Rg

theorem info_boolC : (Try.prog.info? 4).map (fun i => (i.zero, i.size, i.bytes)) = some (some (.bool false), 1, 1) := by kernel_rfl
end Go.Proofs.Ytochohoihmfanaa.Cln

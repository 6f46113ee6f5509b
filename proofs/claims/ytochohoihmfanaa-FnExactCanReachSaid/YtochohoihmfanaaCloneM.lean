/- Contract of the library's slices.Clone at members. -/
import Derived.Test.YtochohoihmfanaaRowM
import Derived.Test.YtochohoihmfanaaRowE
import Derived.Lib.SliceRun
namespace Go.Proofs.Ytochohoihmfanaa.Cln
open Go.RowKit Kit Rw Rg

theorem info_mem : (Try.prog.info? 75).map (fun i => (i.zero, i.size, i.bytes)) = some (some (.agg #[.int .i64 0, .int .i64 0, .int .i64 0, .bool false]), 4, 32) := by kernel_rfl
end Go.Proofs.Ytochohoihmfanaa.Cln

/- The element types' rows of the table; two lists that agree at every place. -/
import Derived.Test.YtbpmbbmgmpdhnaaRow
namespace Go.Proofs.Ytbpmbbmgmpdhnaa.Inf
open Go.RowKit Kit Rw
theorem info_u8 : (Try.prog.info? 5).map (fun i => (i.zero, i.size, i.bytes)) = some (some (.int .u8 0), 1, 1) := by kernel_rfl
theorem info_i64 : (Try.prog.info? 3).map (fun i => (i.zero, i.size, i.bytes)) = some (some (.int .i64 0), 1, 8) := by kernel_rfl
theorem list_same {X Y : List Int} (h : X.length = Y.length) (he : ∀ m, m < Y.length → X.getD m 0 = Y.getD m 0) : X = Y := by
  apply List.ext_getElem h
  intro i h1 h2
  have := he i h2
  simpa [h1, h2] using this
end Go.Proofs.Ytbpmbbmgmpdhnaa.Inf

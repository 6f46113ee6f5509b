/- Contracts of the laws' helpers on rows of ints: copies, comparisons, marks. -/
import Derived.Test.YtbibkjponadipaaDoorMBase
import Derived.Deep.QuietTactic
import Derived.BigQuiet
namespace Go.Proofs.YtbibkjponadipaaDoor.LawsI
open Go.RowKit Kit Rw

theorem info_i64 : (Tryd.prog.info? 3).map (fun i => (i.zero, i.size, i.bytes)) = some (some (.int .i64 0), 1, 8) := by kernel_rfl

/-- The marks from 'm' on. -/
def marksI (m n : Nat) : List Int := (List.range n).map (fun j => ((m + j : Nat) : Int))
theorem marksI_len (m n : Nat) : (marksI m n).length = n := by simp [marksI]
theorem marksI_get {m n j : Nat} (hj : j < n) : (marksI m n).getD j 0 = ((m + j : Nat) : Int) := by simp [marksI, hj]

theorem list_same {X Y : List Int} (h : X.length = Y.length) (he : ∀ m, m < Y.length → X.getD m 0 = Y.getD m 0) : X = Y := by
  apply List.ext_getElem h
  intro i h1 h2
  have := he i h2
  simpa [h1, h2] using this

end Go.Proofs.YtbibkjponadipaaDoor.LawsI

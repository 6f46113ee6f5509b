/- Contract of the program's nearer: the least of the cells near one that are a day nearer. -/
import Derived.Test.YtbpiojnehomljaaDoorSrB
import Derived.Test.YtbpiojnehomljaaDoorWayF
namespace Go.Proofs.YtbpiojnehomljaaDoor.Sr
open Go.RowKit Kit Rw Ld Gr GrI Bfs Wf


theorem find_first {L : List Int} {P : Int → Bool} {k : Nat} (hk : k < L.length) (h : ∀ j, j < k → P (L.getD j 0) = false) (hP : P (L.getD k 0) = true) : L.find? P = some (L.getD k 0) := by
  rw [List.find?_eq_some_iff_getElem]
  have e : L.getD k 0 = L[k] := by simp [hk]
  refine ⟨hP, k, hk, e.symm, fun j hj => ?_⟩
  have := h j hj
  have e2 : L.getD j 0 = L[j] := by simp [show j < L.length by omega]
  rw [e2] at this
  simp [this]
theorem find_none {L : List Int} {P : Int → Bool} (h : ∀ j, j < L.length → P (L.getD j 0) = false) : L.find? P = none := by
  rw [List.find?_eq_none]
  intro x hx
  obtain ⟨j, hj, rfl⟩ := List.getElem_of_mem hx
  have := h j hj
  have e2 : L.getD j 0 = L[j] := by simp [hj]
  rw [e2] at this
  simp [this]

/-- Where nearer stands. -/
structure SF (w wr : World) (b p : Nat) (g : List Int) (qv : Value) (Q M : List Int) (u : Value) (N : List Nat) : Prop where
  sb : SB wr b p g qv Q M
  row : Sees .i64 wr u (ints N)
  grown : w.grownBy wr none
theorem SF.on {w wr wy : World} {b p : Nat} {g Q M : List Int} {qv u : Value} {N : List Nat} (h : SF w wr b p g qv Q M u N) (hg : wr.grownBy wy none) : SF w wy b p g qv Q M u N :=
  ⟨h.sb.on hg, h.row.grown hg, grownN_trans h.grown hg⟩

end Go.Proofs.YtbpiojnehomljaaDoor.Sr

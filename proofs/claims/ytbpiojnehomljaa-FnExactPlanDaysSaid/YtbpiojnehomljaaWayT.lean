/- Contracts of the model's Reach and WayTo. -/
import Derived.Test.YtbpiojnehomljaaWayS
namespace Go.Proofs.Ytbpiojnehomljaa.WayS
open Go.RowKit Kit Rw Ld Bfs Wf LandS FromS

/-- The days of the search, and a list that grows beside them. -/
structure DL (w wr : World) (c : Nat) (u : Value) (d : List Int) (v : Value) (L : List Int) : Prop where
  d : Own .i64 3 wr c u d
  own : Own .i64 3 wr (w.heap.size + 1) v L
  apart : u.ownBlock = none ∨ u.ownBlock ≠ v.ownBlock
  grown : w.grownBy wr none
section
variable {w wr wy : World} {c : Nat} {d L L' : List Int} {u v v' : Value}
theorem DL.on (h : DL w wr c u d v L) (hg : wr.grownBy wy none) : DL w wy c u d v L := ⟨h.d.grown hg, h.own.grown hg, h.apart, grownN_trans h.grown hg⟩
theorem DL.more (h : DL w wr c u d v L) (ho : Own .i64 3 wy (w.heap.size + 1) v' L') (hg : wr.grownBy wy v.ownBlock) (hl : v'.ownBlock = v.ownBlock ∨ ∃ c, v'.ownBlock = some c ∧ wr.heap.size ≤ c) : DL w wy c u d v' L' := by
  refine ⟨h.d.kept hg h.apart, ho, ?_, grown_new h.grown hg (fun c hc => by have := h.own.lt c hc; omega)⟩
  rcases hl with hl | ⟨e, hl, hle⟩
  · rw [hl]; exact h.apart
  · rw [hl]
    cases hq : u.ownBlock with
    | none => exact .inl rfl
    | some f => have := h.d.lt f hq; exact .inr (fun e' => by injection e' with e'; omega)
end

end Go.Proofs.Ytbpiojnehomljaa.WayS

/- Rows of slice values; when a crew can be roped: plain facts. -/
import Derived.Test.YtedijkkbphbnoaaRowE
import Derived.Test.YtedijkkbphbnoaaCrewF
namespace Go.Proofs.Ytedijkkbphbnoaa.Rop
open Go.RowKit Kit Rw Rg Crw

/-- A slice value as an element of a row. -/
structure SV where
  a : Option Addr
  n : Nat
  c : Nat
def encV : Enc SV := ⟨1, fun x => [.slice x.a x.n x.c], ⟨none, 0, 0⟩, fun _ => True, by decide, fun _ => rfl, fun _ v hv => by simp at hv; subst hv; rfl⟩
def canRope (L : List Mem) : Bool := areCrew L && decide (2 ≤ (healthy L).length)
theorem can_yes {L : List Mem} (hc : areCrew L = true) (h : 2 ≤ (healthy L).length) : canRope L = true := by unfold canRope; rw [hc, decide_eq_true h]; rfl
theorem can_no {L : List Mem} (hc : areCrew L = false) : canRope L = false := by unfold canRope; rw [hc]; rfl
theorem can_few {L : List Mem} (h : ¬ 2 ≤ (healthy L).length) : canRope L = false := by unfold canRope; rw [decide_eq_false h, Bool.and_false]
/-- A row of ints reads as the generic one. -/
theorem seesI {w : World} {v : Value} {L : List Int} (h : Sees .i64 w v L) : SeesG encI w v L := by
  obtain ⟨a, c, e, h1, h2, h3, h4, h5⟩ := h
  refine ⟨a, c, e, h1, h2, h3, h4, ?_⟩
  rcases h5 with h5 | ⟨b, o, rfl, h6⟩
  · exact .inl h5
  · refine .inr ⟨b, o, rfl, fun j hj => ?_⟩
    have hj' : j < L.length := by simpa [encI] using hj
    rw [h6 j hj']
    have := flat_at (e := encI) (L := L) (j := j) (i := 0) hj' (by decide)
    simp only [encI, Nat.mul_one, Nat.add_zero] at this
    exact this.symm
end Go.Proofs.Ytedijkkbphbnoaa.Rop

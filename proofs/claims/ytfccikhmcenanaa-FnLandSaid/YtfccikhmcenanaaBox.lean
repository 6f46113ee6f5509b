/- Boxes: blocks of one, two or three cells that a call makes for a struct, and a variable of its own; how they stay. No condition. -/
import Derived.Test.YtfccikhmcenanaaRow
import Derived.OneCell
namespace Go.Proofs.Ytfccikhmcenanaa.Rw
open Go.RowKit Kit

/-- A row's value is a slice; its length stays a variable. -/
theorem Sees.shape {k : IntKind} {w : World} {v : Value} {L : List Int} (h : Sees k w v L) : ∃ a n cap, v = .slice a n cap ∧ Hid (L.length = n) := by
  obtain ⟨a, cap, h, _⟩ := h
  exact ⟨a, _, cap, h, rfl⟩
/-- Where there is an element, the row lies at a plain address; one cell of it. -/
theorem Sees.at_row {k : IntKind} {w : World} {a : Option Addr} {n cap : Nat} {L : List Int} (h : Sees k w (.slice a n cap) L) {j : Nat} (hj : j < L.length) : ∃ b o, a = some ⟨b, o, none⟩ ∧ w.cell? ⟨b, o + j, none⟩ = some (.int k (L.getD j 0)) := by
  obtain ⟨a', cap', e, _, _, _, _, hc⟩ := h
  injection e with e1 e2 e3
  subst e1
  rcases hc with rfl | ⟨b, o, rfl, hc⟩
  · simp at hj
  · exact ⟨b, o, rfl, hc j hj⟩
/-- One cell of a row at a plain address. -/
theorem Sees.at' {k : IntKind} {w : World} {b o n cap : Nat} {L : List Int} (h : Sees k w (.slice (some ⟨b, o, none⟩) n cap) L) {j : Nat} (hj : j < L.length) : w.cell? ⟨b, o + j, none⟩ = some (.int k (L.getD j 0)) := by
  obtain ⟨b', o', e, hc⟩ := h.at_row hj
  injection e with e
  injection e with e1 e2
  subst e1; subst e2
  exact hc
/-- Block b holds these cells. -/
def Box (w : World) (b : Nat) (cs : Array Value) (T : TypeId) : Prop := w.heap[b]? = some (.cells cs T (0, 0))
theorem Box.lt {w : World} {b : Nat} {cs : Array Value} {T : TypeId} (h : Box w b cs T) : b < w.heap.size := lt_of_block h
theorem Box.grown {w w' : World} {b : Nat} {cs : Array Value} {T : TypeId} (h : Box w b cs T) (hg : w.grownBy w' none) : Box w' b cs T := (hg.block b h.lt (fun e => by cases e)).trans h
theorem Box.kept {w w' : World} {b : Nat} {cs : Array Value} {T : TypeId} {r : Option Nat} (h : Box w b cs T) (hg : w.grownBy w' r) (hr : r ≠ some b) : Box w' b cs T := (hg.block b h.lt (fun e => hr e.symm)).trans h
theorem Box.below {w w' : World} {b : Nat} {cs : Array Value} {T : TypeId} (h : Box w b cs T) (hb : Below w.heap.size w w') : Box w' b cs T := (hb.block b h.lt).trans h
theorem box_new (w : World) (cs : Array Value) (T : TypeId) : Box (w.alloc (.cells cs T (0, 0))) w.heap.size cs T := heap_alloc_new _ _
theorem Box.three {w : World} {b : Nat} {x y z : Value} {T : TypeId} (h : Box w b #[x, y, z] T) : w.cell? ⟨b, 0, none⟩ = some x ∧ w.cell? ⟨b, 1, none⟩ = some y ∧ w.cell? ⟨b, 2, none⟩ = some z := three_cell h
theorem Box.cell {w : World} {b : Nat} {cs : Array Value} {T : TypeId} (h : Box w b cs T) (j : Nat) : w.cell? ⟨b, j, none⟩ = cs[j]? := by
  unfold World.cell?
  rw [show w.heap[b]? = some (.cells cs T (0, 0)) from h]
  rfl
/-- A row of the call's own lies in another block than a box that was there before it. -/
theorem Own.off {k : IntKind} {E : TypeId} {w : World} {base b : Nat} {v : Value} {L : List Int} (h : Own k E w base v L) (hb : b < base) : v.ownBlock ≠ some b := by
  intro e; have := h.lt b e; omega
/-- .. and than a box that is made after it. -/
theorem Own.off' {k : IntKind} {E : TypeId} {w : World} {base b : Nat} {v : Value} {L : List Int} (h : Own k E w base v L) (hb : w.heap.size ≤ b) : v.ownBlock ≠ some b := by
  intro e; have := h.lt b e; omega
/-- .. and stays where such a box is written. -/
theorem Own.set {k : IntKind} {E : TypeId} {w : World} {base b : Nat} {v : Value} {L : List Int} (h : Own k E w base v L) (hb : b < base) (j : Nat) (x : Value) : Own k E (w.setCell ⟨b, j, none⟩ x) base v L :=
  h.kept (grown_set w b j x) (.inr (h.off hb))
theorem grown_old' {w w1 w2 : World} {r : Option Nat} (h : w.grownBy w1 none) (k : w1.grownBy w2 r) : w.grownBy w2 r :=
  ⟨k.os.trans h.os, k.tape.trans h.tape, k.output.trans h.output, Nat.le_trans h.size k.size, fun i hi hn => (k.block i (Nat.lt_of_lt_of_le hi h.size) hn).trans (h.block i hi (fun e => by cases e))⟩
theorem Box.free {w : World} {b : Nat} {cs : Array Value} {T : TypeId} (h : Box w b cs T) (j : Nat) : w.frozen? ⟨b, j, none⟩ = false := by
  unfold World.frozen?
  rw [show w.heap[b]? = some (.cells cs T (0, 0)) from h]
  simp
end Go.Proofs.Ytfccikhmcenanaa.Rw

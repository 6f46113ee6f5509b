/- Boxes of four cells: read, stored into, stored whole. No condition. -/
import Derived.Test.YtbpiojnehomljaaDoorRowE
import Derived.Test.YtbpiojnehomljaaDoorRes
namespace Go.Proofs.YtbpiojnehomljaaDoor.Four
open Go.RowKit Kit Rw Rg

section
variable {w : World} {b : Nat} {x y z u v : Value} {t : TypeId}
theorem four (h : Box w b #[x, y, z, u] t) : w.cell? ⟨b, 0, none⟩ = some x ∧ w.cell? ⟨b, 1, none⟩ = some y ∧ w.cell? ⟨b, 2, none⟩ = some z ∧ w.cell? ⟨b, 3, none⟩ = some u := ⟨h.cell 0, h.cell 1, h.cell 2, h.cell 3⟩
theorem heap4 (h : Box w b #[x, y, z, u] t) : w.heap[b]? = some (.cells #[x, y, z, u] t (0, 0)) := h
theorem four_set0 (h : Box w b #[x, y, z, u] t) : Box (w.setCell ⟨b, 0, none⟩ v) b #[v, y, z, u] t := by
  have hlt := h.lt
  have h' : w.heap[b] = .cells #[x, y, z, u] t (0, 0) := by simpa [Array.getElem?_eq_getElem hlt] using heap4 h
  show (w.heap.modify b _)[b]? = _
  rw [Array.getElem?_eq_getElem (by simpa using hlt), Array.getElem_modify_self, h']
  rfl
theorem four_set1 (h : Box w b #[x, y, z, u] t) : Box (w.setCell ⟨b, 1, none⟩ v) b #[x, v, z, u] t := by
  have hlt := h.lt
  have h' : w.heap[b] = .cells #[x, y, z, u] t (0, 0) := by simpa [Array.getElem?_eq_getElem hlt] using heap4 h
  show (w.heap.modify b _)[b]? = _
  rw [Array.getElem?_eq_getElem (by simpa using hlt), Array.getElem_modify_self, h']
  rfl
theorem four_set2 (h : Box w b #[x, y, z, u] t) : Box (w.setCell ⟨b, 2, none⟩ v) b #[x, y, v, u] t := by
  have hlt := h.lt
  have h' : w.heap[b] = .cells #[x, y, z, u] t (0, 0) := by simpa [Array.getElem?_eq_getElem hlt] using heap4 h
  show (w.heap.modify b _)[b]? = _
  rw [Array.getElem?_eq_getElem (by simpa using hlt), Array.getElem_modify_self, h']
  rfl
theorem four_set3 (h : Box w b #[x, y, z, u] t) : Box (w.setCell ⟨b, 3, none⟩ v) b #[x, y, z, v] t := by
  have hlt := h.lt
  have h' : w.heap[b] = .cells #[x, y, z, u] t (0, 0) := by simpa [Array.getElem?_eq_getElem hlt] using heap4 h
  show (w.heap.modify b _)[b]? = _
  rw [Array.getElem?_eq_getElem (by simpa using hlt), Array.getElem_modify_self, h']
  rfl
end
/-- A struct of four cells that is stored whole. -/
def put4 (w : World) (b : Nat) (x y z u : Value) : World := (((w.setCell ⟨b, 0, none⟩ x).setCell ⟨b, 1, none⟩ y).setCell ⟨b, 2, none⟩ z).setCell ⟨b, 3, none⟩ u
theorem put4_grown (w : World) (b : Nat) (x y z u : Value) : w.grownBy (put4 w b x y z u) (some b) :=
  grown_trans (grown_trans (grown_trans (grown_set w b 0 x) (grown_set _ b 1 y)) (grown_set _ b 2 z)) (grown_set _ b 3 u)
section
variable {w : World} {b : Nat} {x y z u : Value} {T : TypeId}
theorem put4_box {x' y' z' u' : Value} (h : Box w b #[x, y, z, u] T) : Box (put4 w b x' y' z' u') b #[x', y', z', u'] T := four_set3 (four_set2 (four_set1 (four_set0 h)))
/-- What is asked at each of its four stores, and what its cells then hold. -/
theorem put4_on (h : Box w b #[x, y, z, u] T) (x' y' z' u' : Value) :
    (w.cell? ⟨b, 0, none⟩ = some x ∧ w.frozen? ⟨b, 0, none⟩ = false) ∧
    ((w.setCell ⟨b, 0, none⟩ x').cell? ⟨b, 1, none⟩ = some y ∧ (w.setCell ⟨b, 0, none⟩ x').frozen? ⟨b, 1, none⟩ = false) ∧
    (((w.setCell ⟨b, 0, none⟩ x').setCell ⟨b, 1, none⟩ y').cell? ⟨b, 2, none⟩ = some z ∧ ((w.setCell ⟨b, 0, none⟩ x').setCell ⟨b, 1, none⟩ y').frozen? ⟨b, 2, none⟩ = false) ∧
    ((((w.setCell ⟨b, 0, none⟩ x').setCell ⟨b, 1, none⟩ y').setCell ⟨b, 2, none⟩ z').cell? ⟨b, 3, none⟩ = some u ∧ (((w.setCell ⟨b, 0, none⟩ x').setCell ⟨b, 1, none⟩ y').setCell ⟨b, 2, none⟩ z').frozen? ⟨b, 3, none⟩ = false) := by
  have b1 := four_set0 (v := x') h
  have b2 := four_set1 (v := y') b1
  have b3 := four_set2 (v := z') b2
  exact ⟨⟨h.cell 0, h.free 0⟩, ⟨b1.cell 1, b1.free 1⟩, ⟨b2.cell 2, b2.free 2⟩, ⟨b3.cell 3, b3.free 3⟩⟩
end
end Go.Proofs.YtbpiojnehomljaaDoor.Four

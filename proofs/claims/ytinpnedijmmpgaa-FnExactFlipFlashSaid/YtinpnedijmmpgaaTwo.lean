/- Boxes of two cells: read, stored into, stored whole. No condition. -/
import Derived.Test.YtinpnedijmmpgaaMDr
namespace Go.Proofs.Ytinpnedijmmpgaa.Tw
open Go.RowKit Kit Rw

theorem two {w : World} {b : Nat} {x y : Value} {T : TypeId} (h : Box w b #[x, y] T) : w.cell? ⟨b, 0, none⟩ = some x ∧ w.cell? ⟨b, 1, none⟩ = some y := ⟨h.cell 0, h.cell 1⟩
theorem two_set0 {w : World} {b : Nat} {x y u : Value} {t : TypeId} (h : Box w b #[x, y] t) : Box (w.setCell ⟨b, 0, none⟩ u) b #[u, y] t := by
  have hlt := h.lt
  have h' : w.heap[b] = .cells #[x, y] t (0, 0) := by have h := h; unfold Box at h; simpa [Array.getElem?_eq_getElem hlt] using h
  show (w.heap.modify b _)[b]? = _
  rw [Array.getElem?_eq_getElem (by simpa using hlt), Array.getElem_modify_self, h']
  rfl
theorem two_set1 {w : World} {b : Nat} {x y u : Value} {t : TypeId} (h : Box w b #[x, y] t) : Box (w.setCell ⟨b, 1, none⟩ u) b #[x, u] t := by
  have hlt := h.lt
  have h' : w.heap[b] = .cells #[x, y] t (0, 0) := by have h := h; unfold Box at h; simpa [Array.getElem?_eq_getElem hlt] using h
  show (w.heap.modify b _)[b]? = _
  rw [Array.getElem?_eq_getElem (by simpa using hlt), Array.getElem_modify_self, h']
  rfl
/-- A struct of two cells that is stored whole. -/
def put2 (w : World) (b : Nat) (x y : Value) : World := (w.setCell ⟨b, 0, none⟩ x).setCell ⟨b, 1, none⟩ y
theorem put2_grown (w : World) (b : Nat) (x y : Value) : w.grownBy (put2 w b x y) (some b) := grown_trans (grown_set w b 0 x) (grown_set _ b 1 y)
theorem put2_box {w : World} {b : Nat} {x y x' y' : Value} {T : TypeId} (h : Box w b #[x, y] T) : Box (put2 w b x' y') b #[x', y'] T := two_set1 (two_set0 h)
theorem put2_on {w : World} {b : Nat} {x y : Value} {T : TypeId} (h : Box w b #[x, y] T) (x' y' : Value) :
    (w.cell? ⟨b, 0, none⟩ = some x ∧ w.frozen? ⟨b, 0, none⟩ = false) ∧
    ((w.setCell ⟨b, 0, none⟩ x').cell? ⟨b, 1, none⟩ = some y ∧ (w.setCell ⟨b, 0, none⟩ x').frozen? ⟨b, 1, none⟩ = false) ∧
    (((w.setCell ⟨b, 0, none⟩ x').setCell ⟨b, 1, none⟩ y').cell? ⟨b, 0, none⟩ = some x' ∧ ((w.setCell ⟨b, 0, none⟩ x').setCell ⟨b, 1, none⟩ y').cell? ⟨b, 1, none⟩ = some y') := by
  have b1 := two_set0 (u := x') h
  have b2 := two_set1 (u := y') b1
  exact ⟨⟨h.cell 0, h.free 0⟩, ⟨b1.cell 1, b1.free 1⟩, two b2⟩
end Go.Proofs.Ytinpnedijmmpgaa.Tw

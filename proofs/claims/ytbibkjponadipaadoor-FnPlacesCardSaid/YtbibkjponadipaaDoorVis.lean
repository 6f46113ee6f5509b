/- Contracts of the cells that a journal visits, of the program and of its model. -/
import Derived.Test.YtbibkjponadipaaDoorPct
import Derived.Test.YtbibkjponadipaaDoorRow4
import Derived.Test.YtbibkjponadipaaDoorLandI
import Derived.Test.YtbibkjponadipaaDoorLawsI
import Derived.Lib.LaidTab
namespace Go.Proofs.YtbibkjponadipaaDoor.Pc
open Go.RowKit Kit Rw Rg

/-- The word of the first so many pages' cells. -/
def visW (L : List I4) : Nat → Nat
  | 0 => 0
  | j + 1 => if 0 ≤ (L.getD j zI4).x1 ∧ (L.getD j zI4).x1 ≤ 63 then visW L j ||| 2 ^ (L.getD j zI4).x1.toNat else visW L j
def has (L : List I4) (n : Nat) : Bool := (List.range L.length).any (fun j => decide ((L.getD j zI4).x1 = n))
def vis (L : List I4) : List Int := ((List.range 64).filter (has L)).map (fun n : Nat => (n : Int))
def visTo (L : List I4) (k : Nat) : List Int := ((List.range k).filter (has L)).map (fun n : Nat => (n : Int))
theorem visTo_next (L : List I4) (k : Nat) : visTo L (k + 1) = visTo L k ++ (if has L k = true then [(k : Int)] else []) := by
  unfold visTo
  rw [List.range_succ, List.filter_append, List.map_append]
  congr 1
  by_cases h : has L k = true
  · rw [if_pos h]; simp [h]
  · rw [if_neg h]; simp [h]
theorem visTo_len (L : List I4) (k : Nat) : (visTo L k).length ≤ k := by
  unfold visTo; rw [List.length_map]; exact Nat.le_trans (List.length_filter_le _ _) (by simp)
theorem vis_len (L : List I4) : (vis L).length ≤ 64 := visTo_len L 64
theorem has_yes {L : List I4} {n j : Nat} (hj : j < L.length) (h : (L.getD j zI4).x1 = n) : has L n = true := by
  unfold has
  rw [List.any_eq_true]
  exact ⟨j, List.mem_range.2 hj, decide_eq_true h⟩
theorem has_no {L : List I4} {n : Nat} (h : ∀ j, j < L.length → (L.getD j zI4).x1 ≠ n) : has L n = false := by
  unfold has
  rw [List.any_eq_false]
  intro j hj
  have := h j (List.mem_range.1 hj)
  simpa using this
theorem visW_lt (L : List I4) : ∀ j, visW L j < 2 ^ 64
  | 0 => by unfold visW; decide
  | j + 1 => by
    have ih := visW_lt L j
    unfold visW
    split
    · exact with_lt ih (by omega)
    · exact ih
theorem visW_bit (L : List I4) : ∀ j n, (visW L j).testBit n = true ↔ n < 64 ∧ ∃ i, i < j ∧ (L.getD i zI4).x1 = n
  | 0, n => by unfold visW; simp
  | j + 1, n => by
    have ih := visW_bit L j n
    unfold visW
    split
    · rename_i h
      rw [with_bit, Bool.or_eq_true, ih, decide_eq_true_eq]
      constructor
      · rintro (⟨h1, i, h2, h3⟩ | h1)
        · exact ⟨h1, i, by omega, h3⟩
        · exact ⟨by omega, j, by omega, by omega⟩
      · rintro ⟨h1, i, h2, h3⟩
        by_cases hij : i = j
        · subst hij; exact .inr (by omega)
        · exact .inl ⟨h1, i, by omega, h3⟩
    · rename_i h
      rw [ih]
      constructor
      · rintro ⟨h1, i, h2, h3⟩; exact ⟨h1, i, by omega, h3⟩
      · rintro ⟨h1, i, h2, h3⟩
        refine ⟨h1, i, ?_, h3⟩
        by_cases hij : i = j
        · subst hij; omega
        · omega
theorem vis_els (L : List I4) : els (visW L L.length) = vis L := by
  refine els_by fun n hn => ?_
  have h := visW_bit L L.length n
  cases hh : has L n with
  | true =>
    unfold has at hh
    rw [List.any_eq_true] at hh
    obtain ⟨j, hj, hd⟩ := hh
    rw [h]
    exact ⟨hn, j, List.mem_range.1 hj, of_decide_eq_true hd⟩
  | false =>
    rw [← Bool.not_eq_true, h]
    rintro ⟨_, i, h2, h3⟩
    rw [has_yes h2 h3] at hh
    cases hh

def TabD (w : World) : Prop := Lib.TabIs Tryd.prog w "math/bits.deBruijn64tab" .u8 (Lib.deBruijn64tab.map fun n : Nat => (n : Int))
theorem gD : Tryd.prog.globalNamed "math/bits.deBruijn64tab" = some 0 := by kernel_rfl
theorem TabD.below {w w' : World} {B : Nat} (h : TabD w) (hb : Below B w w') (hB : w.heap.size ≤ B) : TabD w' := by
  unfold TabD Lib.TabIs World.var? at h ⊢
  rw [gD] at h ⊢
  simp only [Option.bind_some] at h ⊢
  by_cases hlt : 0 < w.heap.size
  · rw [hb.block _ (by omega)]; exact h
  · rw [Array.getElem?_eq_none (by omega)] at h; simp at h
theorem tab_of {w : World} (h : TabD w) : Tab w := fun j hj => by
  have hl : Lib.deBruijn64tab.length = 64 := rfl
  rw [h.cell gD j (by simp; omega)]
  rw [List.getD_eq_getElem?_getD, List.getElem?_map, List.getD_eq_getElem?_getD, List.getElem?_eq_getElem (by omega)]
  rfl
end Go.Proofs.YtbibkjponadipaaDoor.Pc

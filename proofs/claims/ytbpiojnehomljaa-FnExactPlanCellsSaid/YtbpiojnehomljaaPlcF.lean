/- The cells of a plan, day by day: plain facts. -/
import Derived.Test.YtbpiojnehomljaaWayX
import Derived.Test.YtbpiojnehomljaaPlan
namespace Go.Proofs.Ytbpiojnehomljaa.Pln
open Go.RowKit Kit Rw Rg Ld Wf

/-- The cells of one leg, without the one where it begins. -/
noncomputable def legCells (W H : Int) (X : List Int) (a : Int) (y : G2) : List Int := (wayOf W H X a y.1).drop 1 ++ List.replicate y.2.toNat y.1
noncomputable def cellsTo (W H : Int) (X : List Int) (frm : Int) (L : List G2) : Nat → List Int
  | 0 => [frm]
  | k + 1 => cellsTo W H X frm L k ++ legCells W H X (legAt frm L k) (L.getD k (0, 0))
noncomputable def planCells (W H : Int) (X : List Int) (frm : Int) (L : List G2) : List Int := if isPlan W H X frm L = true then cellsTo W H X frm L L.length else []
/-- Within a leg: j of its days of rest have been. -/
noncomputable def midCells (W H : Int) (X : List Int) (frm : Int) (L : List G2) (k j : Nat) : List Int := cellsTo W H X frm L k ++ ((wayOf W H X (legAt frm L k) (L.getD k (0, 0)).1).drop 1 ++ List.replicate j (L.getD k (0, 0)).1)
section
variable {W H : Int} {X : List Int} {frm : Int} {L : List G2} {k j : Nat}
theorem mid_zero : midCells W H X frm L k 0 = cellsTo W H X frm L k ++ (wayOf W H X (legAt frm L k) (L.getD k (0, 0)).1).drop 1 := by
  unfold midCells; rw [List.replicate_zero, List.append_nil]
theorem mid_next : midCells W H X frm L k (j + 1) = midCells W H X frm L k j ++ [(L.getD k (0, 0)).1] := by
  unfold midCells; rw [List.replicate_succ', List.append_assoc, List.append_assoc]
theorem mid_all : midCells W H X frm L k (L.getD k (0, 0)).2.toNat = cellsTo W H X frm L (k + 1) := by
  unfold midCells; rw [cellsTo]; rfl
theorem getLast_app {A B : List Int} {z : Int} (hb : B.getLast? = some z) : (A ++ B).getLast? = some z := by
  rw [List.getLast?_append, hb]; rfl
/-- The last cell so far is where the next leg begins. -/
theorem cells_last (hu : upL W H X frm L k) : (cellsTo W H X frm L k).getLast? = some (legAt frm L k) := by
  induction k with
  | zero => rfl
  | succ k ih =>
    have ih := ih (fun i hi => hu i (by omega))
    obtain ⟨h1, h2⟩ := hu k (by omega)
    obtain ⟨y, hy⟩ : ∃ y, y = L.getD k (0, 0) := ⟨_, rfl⟩
    rw [cellsTo]
    show _ = some (L.getD k (0, 0)).1
    rw [← hy] at h1 h2 ⊢
    unfold legCells
    obtain ⟨d, hd⟩ : ∃ d : Nat, daysOf W H X (legAt frm L k) y.1 = d := ⟨(daysOf W H X (legAt frm L k) y.1).toNat, by omega⟩
    have hw := wayP hd
    by_cases hr : y.2.toNat = 0
    · rw [hr, List.replicate_zero, List.append_nil]
      by_cases hd0 : d = 0
      · subst hd0
        have e : (wayOf W H X (legAt frm L k) y.1).drop 1 = [] := List.drop_eq_nil_of_le (by rw [hw.len]; omega)
        rw [e, List.append_nil, ih]
        have h1 := hw.first
        have h2 := hw.last
        rw [← h1, h2]
      · refine getLast_app ?_
        rw [List.getLast?_eq_getElem?, List.length_drop, List.getElem?_drop, hw.len]
        have hl := hw.last
        have e : 1 + (d + 1 - 1 - 1) = d := by omega
        rw [e, List.getElem?_eq_getElem (by rw [hw.len]; omega)]
        rw [List.getD_eq_getElem?_getD, List.getElem?_eq_getElem (by rw [hw.len]; omega), Option.getD_some] at hl
        rw [hl]
    · obtain ⟨r, hr'⟩ : ∃ r, y.2.toNat = r + 1 := ⟨y.2.toNat - 1, by omega⟩
      rw [hr', List.replicate_succ', ← List.append_assoc]
      rw [← List.append_assoc]
      exact List.getLast?_concat ..
theorem cells_pos : 0 < (cellsTo W H X frm L k).length := by
  induction k with
  | zero => exact Nat.zero_lt_one
  | succ k ih => rw [cellsTo, List.length_append]; omega
theorem cells_at (hu : upL W H X frm L k) : (cellsTo W H X frm L k).getD ((cellsTo W H X frm L k).length - 1) 0 = legAt frm L k := by
  have h := cells_last hu
  rw [List.getLast?_eq_getElem?] at h
  rw [List.getD_eq_getElem?_getD, h]; rfl
theorem cells_len (hu : upL W H X frm L k) : (cellsTo W H X frm L k).length ≤ 1 + 94 * k := by
  induction k with
  | zero => exact Nat.le_refl _
  | succ k ih =>
    have ih := ih (fun i hi => hu i (by omega))
    obtain ⟨h1, h2⟩ := hu k (by omega)
    have hl := wayOf_len W H X (legAt frm L k) (L.getD k (0, 0)).1
    rw [cellsTo, List.length_append]
    unfold legCells
    rw [List.length_append, List.length_drop, List.length_replicate]
    omega
theorem mid_len (hu : upL W H X frm L k) (hj : j ≤ 30) : (midCells W H X frm L k j).length ≤ 1 + 94 * (k + 1) := by
  have h := cells_len hu
  have hl := wayOf_len W H X (legAt frm L k) (L.getD k (0, 0)).1
  unfold midCells
  rw [List.length_append, List.length_append, List.length_drop, List.length_replicate]
  omega
theorem plan_up (h : isPlan W H X frm L = true) : upL W H X frm L L.length ∧ L.length ≤ 10 ∧ isOpen W H X frm = true := by
  unfold isPlan at h
  rw [Bool.and_eq_true, Bool.and_eq_true, decide_eq_true_eq, decide_eq_true_eq] at h
  exact ⟨h.2.2, h.2.1, h.1⟩
theorem planCells_len (W H : Int) (X : List Int) (frm : Int) (L : List G2) : (planCells W H X frm L).length ≤ 941 := by
  unfold planCells
  split
  · rename_i h
    obtain ⟨hu, hl, _⟩ := plan_up h
    have := cells_len hu
    omega
  · exact Nat.zero_le _
end
end Go.Proofs.Ytbpiojnehomljaa.Pln

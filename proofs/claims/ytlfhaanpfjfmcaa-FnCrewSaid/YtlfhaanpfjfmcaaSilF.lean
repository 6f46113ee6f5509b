/- Plain facts on who falls ill, and on the places of members: no program. -/
import Derived.Test.YtlfhaanpfjfmcaaCrewF
import Derived.Test.YtlfhaanpfjfmcaaMapI
import Derived.Test.YtlfhaanpfjfmcaaRowM
namespace Go.Proofs.Ytlfhaanpfjfmcaa.Crw
open Rg Mp

theorem spliceG_keep {α : Type} {A B : List α} {d : α} {i : Nat} (h : A.length = B.length) (hi : i < A.length) (he : A.getD i d = B.getD i d) : A.take i ++ B.drop i = A.take (i + 1) ++ B.drop (i + 1) := by
  rw [List.take_add_one, List.append_assoc]
  congr 1
  have hB : B.drop i = B.getD i d :: B.drop (i + 1) := by
    rw [List.drop_eq_getElem_cons (by omega)]
    congr 1
    simp [show i < B.length by omega]
  rw [hB, ← he]
  simp [hi]
theorem ill_at {L : List Mem} {id : Int} {b : Bool} {j : Nat} (hj : j < L.length) : (L.map (setOne id b)).getD j dM = setOne id b (L.getD j dM) := by
  simp [hj]
def anyTo (L : List Mem) (id : Int) (j : Nat) : Bool := (L.take j).any (fun m => decide (m.id = id))
theorem anyTo_zero (L : List Mem) (id : Int) : anyTo L id 0 = false := by simp [anyTo]
theorem anyTo_next {L : List Mem} {id : Int} {j : Nat} (hj : j < L.length) : anyTo L id (j + 1) = (anyTo L id j || decide ((L.getD j dM).id = id)) := by
  unfold anyTo
  rw [List.take_add_one, List.any_append]
  simp [hj]
theorem anyTo_all (L : List Mem) (id : Int) : anyTo L id L.length = hasId L id := by simp [anyTo, hasId]
/-- The places of the first j members, by Id. -/
def placeTo (L : List Mem) : Nat → Int → Option Int
  | 0 => non
  | j + 1 => upd (placeTo L j) (L.getD j dM).id j
theorem place_in {L : List Mem} {n : Nat} (h : upTo L n) : ∀ {j i : Nat}, i < j → j ≤ n → placeTo L j (L.getD i dM).id = some (i : Int)
  | 0, i, hi, _ => by omega
  | j + 1, i, hi, hj => by
    show upd (placeTo L j) (L.getD j dM).id j (L.getD i dM).id = _
    unfold upd
    by_cases e : i = j
    · subst e; rw [if_pos rfl]
    · have := up_lt h (i := i) (j := j) (by omega) (by omega)
      rw [if_neg (by omega)]
      exact place_in h (by omega) (by omega)
theorem place_out {L : List Mem} {id : Int} : ∀ {j : Nat}, j ≤ L.length → anyTo L id j = false → placeTo L j id = none
  | 0, _, _ => rfl
  | j + 1, hj, h => by
    rw [anyTo_next (by omega), Bool.or_eq_false_iff] at h
    show upd (placeTo L j) (L.getD j dM).id j id = _
    unfold upd
    rw [if_neg (fun e => by have := h.2; simp at this; exact this e.symm)]
    exact place_out (by omega) h.1
theorem has_at {L : List Mem} {id : Int} (h : hasId L id = true) : ∃ p, p < L.length ∧ (L.getD p dM).id = id := by
  unfold hasId at h
  simp only [List.any_eq_true, decide_eq_true_eq] at h
  obtain ⟨m, hm, he⟩ := h
  obtain ⟨p, hp, e⟩ := List.getElem_of_mem hm
  exact ⟨p, hp, by simp [hp, e, he]⟩
theorem has_of {L : List Mem} {id : Int} {p : Nat} (hp : p < L.length) (h : (L.getD p dM).id = id) : hasId L id = true := by
  unfold hasId
  simp only [List.any_eq_true, decide_eq_true_eq]
  exact ⟨L[p], List.getElem_mem hp, by simpa [hp] using h⟩
/-- One member falls ill, or gets well: the others stay as they are. -/
theorem ill_set {L : List Mem} {id : Int} {b : Bool} (h : areCrew L = true) {p : Nat} (hp : p < L.length) (he : (L.getD p dM).id = id) : L.map (setOne id b) = L.set p { L.getD p dM with ill := b } := by
  refine listG_same dM (by simp) (fun m hm => ?_)
  rw [List.length_set] at hm
  rw [ill_at hm]
  by_cases e : m = p
  · subst e
    rw [set_getD hm]
    unfold setOne
    rw [if_pos he]
  · have h1 : (L.set p { L.getD p dM with ill := b }).getD m dM = L.getD m dM := by
      rw [List.getD_eq_getElem?_getD, List.getElem?_set, if_neg (fun x => e x.symm), ← List.getD_eq_getElem?_getD]
    rw [h1]
    unfold setOne
    rw [if_neg]
    intro hx
    have hu := crew_up h
    rcases Nat.lt_or_gt_of_ne e with h2 | h2
    · have := up_lt hu h2 hp; omega
    · have := up_lt hu h2 hm; omega
theorem ill_none {L : List Mem} {id : Int} {b : Bool} (h : hasId L id = false) : L.map (setOne id b) = L := by
  refine listG_same dM (by simp) (fun m hm => ?_)
  rw [ill_at hm]
  unfold setOne
  rw [if_neg]
  intro hx
  rw [has_of hm hx] at h
  cases h
theorem setIll_len (L : List Mem) (id : Int) (b : Bool) : (setIll L id b).length = L.length := by
  unfold setIll; split <;> simp
end Go.Proofs.Ytlfhaanpfjfmcaa.Crw

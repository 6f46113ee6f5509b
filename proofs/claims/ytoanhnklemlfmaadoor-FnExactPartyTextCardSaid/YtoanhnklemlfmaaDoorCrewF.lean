/- Plain facts on crews: no program. -/
import Derived.Test.YtoanhnklemlfmaaDoorRowS
namespace Go.Proofs.YtoanhnklemlfmaaDoor.Crw
open Rg

def okMem (m : Mem) : Bool := decide (1 ≤ m.id ∧ m.id ≤ 99) && (decide (0 ≤ m.str ∧ m.str ≤ 100) && decide (1 ≤ m.need ∧ m.need ≤ 10))
def dM : Mem := ⟨0, 0, 0, false⟩
/-- The first j members are valid, and ascend. -/
def upTo (L : List Mem) (j : Nat) : Prop := ∀ i, i < j → okMem (L.getD i dM) = true ∧ (0 < i → (L.getD (i - 1) dM).id < (L.getD i dM).id)
instance (L : List Mem) (j : Nat) : Decidable (upTo L j) := by unfold upTo; infer_instance
def areCrew (L : List Mem) : Bool := decide (1 ≤ L.length ∧ L.length ≤ 8) && decide (upTo L L.length)
theorem upTo_zero (L : List Mem) : upTo L 0 := fun i h => absurd h (Nat.not_lt_zero _)
theorem upTo_next {L : List Mem} {j : Nat} (h : upTo L j) (h1 : okMem (L.getD j dM) = true) (h2 : 0 < j → (L.getD (j - 1) dM).id < (L.getD j dM).id) : upTo L (j + 1) := fun i hi => by
  by_cases h' : i < j
  · exact h i h'
  · obtain rfl : i = j := by omega
    exact ⟨h1, h2⟩
theorem upTo_down {L : List Mem} {j k : Nat} (h : upTo L k) (hj : j ≤ k) : upTo L j := fun i hi => h i (by omega)
theorem crew_yes {L : List Mem} (h1 : 1 ≤ L.length ∧ L.length ≤ 8) (h2 : upTo L L.length) : areCrew L = true := by
  unfold areCrew; rw [decide_eq_true h1, decide_eq_true h2]; rfl
theorem crew_long {L : List Mem} (h1 : ¬ (1 ≤ L.length ∧ L.length ≤ 8)) : areCrew L = false := by
  unfold areCrew; rw [decide_eq_false h1]; rfl
theorem crew_bad {L : List Mem} {j : Nat} (hj : j < L.length) (h : okMem (L.getD j dM) = false ∨ (0 < j ∧ ¬ (L.getD (j - 1) dM).id < (L.getD j dM).id)) : areCrew L = false := by
  unfold areCrew
  have : ¬ upTo L L.length := fun hu => by
    have := hu j hj
    rcases h with h | ⟨h0, h⟩
    · rw [this.1] at h; cases h
    · exact h (this.2 h0)
  rw [decide_eq_false this, Bool.and_false]
theorem crew_len {L : List Mem} (h : areCrew L = true) : 1 ≤ L.length ∧ L.length ≤ 8 := by
  unfold areCrew at h; simp only [Bool.and_eq_true, decide_eq_true_eq] at h; exact h.1
theorem crew_up {L : List Mem} (h : areCrew L = true) : upTo L L.length := by
  unfold areCrew at h; simp only [Bool.and_eq_true, decide_eq_true_eq] at h; exact h.2
theorem ok_of {m : Mem} (h : okMem m = true) : (1 ≤ m.id ∧ m.id ≤ 99) ∧ (0 ≤ m.str ∧ m.str ≤ 100) ∧ (1 ≤ m.need ∧ m.need ≤ 10) := by
  unfold okMem at h; simp only [Bool.and_eq_true, decide_eq_true_eq] at h; exact ⟨h.1, h.2.1, h.2.2⟩
theorem crew_at {L : List Mem} (h : areCrew L = true) {j : Nat} (hj : j < L.length) : (1 ≤ (L.getD j dM).id ∧ (L.getD j dM).id ≤ 99) ∧ (0 ≤ (L.getD j dM).str ∧ (L.getD j dM).str ≤ 100) ∧ (1 ≤ (L.getD j dM).need ∧ (L.getD j dM).need ≤ 10) := ok_of ((crew_up h) j hj).1
theorem up_lt {L : List Mem} {n : Nat} (h : upTo L n) : ∀ {j i : Nat}, i < j → j < n → (L.getD i dM).id < (L.getD j dM).id
  | 0, i, hi, _ => by omega
  | j + 1, i, hi, hj => by
    have h1 := (h (j + 1) hj).2 (by omega)
    rw [Nat.add_sub_cancel] at h1
    by_cases e : i = j
    · subst e; exact h1
    · exact Int.lt_trans (up_lt h (by omega) (by omega)) h1

/-- Sums over the first members. -/
def sumTo (f : Mem → Int) (L : List Mem) (j : Nat) : Int := ((L.take j).map f).sum
theorem sumTo_zero (f : Mem → Int) (L : List Mem) : sumTo f L 0 = 0 := by simp [sumTo]
theorem sumTo_next {f : Mem → Int} {L : List Mem} {j : Nat} (hj : j < L.length) : sumTo f L (j + 1) = sumTo f L j + f (L.getD j dM) := by
  unfold sumTo
  rw [List.take_add_one, List.map_append, List.sum_append]
  congr 1
  simp [hj]
def eats (m : Mem) : Int := m.need
def carries (m : Mem) : Int := if m.ill = true then 0 else m.str
def needOf (L : List Mem) : Int := if areCrew L = true then sumTo eats L L.length else 0
def capOf (L : List Mem) : Int := if areCrew L = true then sumTo carries L L.length else 0
theorem sumTo_bound {f : Mem → Int} {L : List Mem} (b : Int) (hb : 0 ≤ b) (h : ∀ j, j < L.length → 0 ≤ f (L.getD j dM) ∧ f (L.getD j dM) ≤ b) : ∀ j, j ≤ L.length → 0 ≤ sumTo f L j ∧ sumTo f L j ≤ j * b
  | 0, _ => by rw [sumTo_zero]; simp
  | j + 1, hj => by
    have h1 := sumTo_bound b hb h j (by omega)
    have h2 := h j (by omega)
    rw [sumTo_next (by omega), show ((j + 1 : Nat) : Int) * b = j * b + b by rw [Int.natCast_add, Int.add_mul]; simp]
    omega
theorem eats_at {L : List Mem} (h : areCrew L = true) {j : Nat} (hj : j < L.length) : 0 ≤ eats (L.getD j dM) ∧ eats (L.getD j dM) ≤ 100 := by
  have := crew_at h hj; unfold eats; omega
theorem carries_at {L : List Mem} (h : areCrew L = true) {j : Nat} (hj : j < L.length) : 0 ≤ carries (L.getD j dM) ∧ carries (L.getD j dM) ≤ 100 := by
  have := crew_at h hj; unfold carries; split <;> omega
theorem sum_small {f : Mem → Int} {L : List Mem} (h : areCrew L = true) (hf : ∀ j, j < L.length → 0 ≤ f (L.getD j dM) ∧ f (L.getD j dM) ≤ 100) {j : Nat} (hj : j ≤ L.length) : 0 ≤ sumTo f L j ∧ sumTo f L j ≤ 800 := by
  have h1 := sumTo_bound 100 (by omega) hf j hj
  have h2 := crew_len h
  omega
theorem needOf_bound (L : List Mem) : 0 ≤ needOf L ∧ needOf L ≤ 800 := by
  unfold needOf
  split
  · rename_i h; exact sum_small h (fun j hj => eats_at h hj) (Nat.le_refl _)
  · omega
theorem capOf_bound (L : List Mem) : 0 ≤ capOf L ∧ capOf L ≤ 800 := by
  unfold capOf
  split
  · rename_i h; exact sum_small h (fun j hj => carries_at h hj) (Nat.le_refl _)
  · omega
theorem needOf_pos {L : List Mem} (h : areCrew L = true) : 0 < needOf L := by
  have hl := crew_len h
  unfold needOf
  rw [if_pos h]
  have h1 := sumTo_next (f := eats) (L := L) (j := 0) (by omega)
  have h2 := crew_at h (j := 0) (by omega)
  have : ∀ k, 1 ≤ k → k ≤ L.length → 0 < sumTo eats L k := by
    intro k hk
    induction k with
    | zero => omega
    | succ k ih =>
      intro hle
      rw [sumTo_next (by omega)]
      have h3 := eats_at h (j := k) (by omega)
      by_cases e : k = 0
      · subst e; rw [sumTo_zero]; unfold eats; omega
      · have := ih (by omega) (by omega); omega
  exact this _ hl.1 (Nat.le_refl _)
theorem needOf_zero {L : List Mem} (h : areCrew L = false) : needOf L = 0 := by unfold needOf; rw [h]; rfl
theorem capOf_zero {L : List Mem} (h : areCrew L = false) : capOf L = 0 := by unfold capOf; rw [h]; rfl

def setOne (id : Int) (ill : Bool) (m : Mem) : Mem := if m.id = id then { m with ill := ill } else m
def hasId (L : List Mem) (id : Int) : Bool := L.any (fun m => decide (m.id = id))
/-- What becomes of the first j members. -/
def setTo (L : List Mem) (id : Int) (ill : Bool) (j : Nat) : List Mem := (L.map (setOne id ill)).take j ++ L.drop j
def setIll (L : List Mem) (id : Int) (ill : Bool) : List Mem := if areCrew L = true then L.map (setOne id ill) else L
def setOk (L : List Mem) (id : Int) : Bool := areCrew L && hasId L id

def healthy (L : List Mem) : List Int := (L.filter (fun m => !m.ill)).map (·.id)
theorem healthy_next {L : List Mem} {j : Nat} (hj : j < L.length) : healthy (L.take (j + 1)) = healthy (L.take j) ++ (if (L.getD j dM).ill = true then [] else [(L.getD j dM).id]) := by
  unfold healthy
  rw [List.take_add_one, List.filter_append, List.map_append]
  congr 1
  have : L[j]? = some (L.getD j dM) := by simp [hj]
  rw [this, Option.toList_some]
  generalize L.getD j dM = x
  cases h : x.ill <;> simp [h]
theorem healthy_len (L : List Mem) : (healthy L).length ≤ L.length := by
  unfold healthy; rw [List.length_map]; exact List.length_filter_le _ _

/-- The place of the strongest of the first j who are well; -1: none. -/
def best (L : List Mem) : Nat → Int
  | 0 => -1
  | j + 1 => if (L.getD j dM).ill = false ∧ (best L j < 0 ∨ (L.getD (best L j).toNat dM).str < (L.getD j dM).str) then (j : Int) else best L j
theorem best_lt (L : List Mem) : ∀ j, -1 ≤ best L j ∧ best L j < j
  | 0 => by simp [best]
  | j + 1 => by
    have := best_lt L j
    unfold best; split <;> omega
def strongest (L : List Mem) : Int := if best L L.length < 0 then 0 else (L.getD (best L L.length).toNat dM).id
end Go.Proofs.YtoanhnklemlfmaaDoor.Crw

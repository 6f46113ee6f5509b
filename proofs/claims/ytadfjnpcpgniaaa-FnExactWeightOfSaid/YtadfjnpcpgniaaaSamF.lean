/- Plain facts on samples: no program. -/
import Derived.Test.YtadfjnpcpgniaaaRow3
namespace Go.Proofs.Ytadfjnpcpgniaaa.Sam
open Go.RowKit Kit Rw Rg

def okSam (m : I3) : Bool := decide (1 ≤ m.x0 ∧ m.x0 ≤ 99) && (decide (1 ≤ m.x1 ∧ m.x1 ≤ 50) && decide (0 ≤ m.x2 ∧ m.x2 ≤ 1000))
/-- The first j members are valid, and ascend. -/
def upTo (L : List I3) (j : Nat) : Prop := ∀ i, i < j → okSam (L.getD i zI3) = true ∧ (0 < i → (L.getD (i - 1) zI3).x0 < (L.getD i zI3).x0)
instance (L : List I3) (j : Nat) : Decidable (upTo L j) := by unfold upTo; infer_instance
def areSam (L : List I3) : Bool := decide (L.length ≤ 12) && decide (upTo L L.length)
theorem upTo_zero (L : List I3) : upTo L 0 := fun i h => absurd h (Nat.not_lt_zero _)
theorem upTo_next {L : List I3} {j : Nat} (h : upTo L j) (h1 : okSam (L.getD j zI3) = true) (h2 : 0 < j → (L.getD (j - 1) zI3).x0 < (L.getD j zI3).x0) : upTo L (j + 1) := fun i hi => by
  by_cases h' : i < j
  · exact h i h'
  · obtain rfl : i = j := by omega
    exact ⟨h1, h2⟩
theorem upTo_down {L : List I3} {j k : Nat} (h : upTo L k) (hj : j ≤ k) : upTo L j := fun i hi => h i (by omega)
theorem sam_yes {L : List I3} (h1 : L.length ≤ 12) (h2 : upTo L L.length) : areSam L = true := by
  unfold areSam; rw [decide_eq_true h1, decide_eq_true h2]; rfl
theorem sam_long {L : List I3} (h1 : ¬ (L.length ≤ 12)) : areSam L = false := by
  unfold areSam; rw [decide_eq_false h1]; rfl
theorem sam_bad {L : List I3} {j : Nat} (hj : j < L.length) (h : okSam (L.getD j zI3) = false ∨ (0 < j ∧ ¬ (L.getD (j - 1) zI3).x0 < (L.getD j zI3).x0)) : areSam L = false := by
  unfold areSam
  have : ¬ upTo L L.length := fun hu => by
    have := hu j hj
    rcases h with h | ⟨h0, h⟩
    · rw [this.1] at h; cases h
    · exact h (this.2 h0)
  rw [decide_eq_false this, Bool.and_false]
theorem sam_len {L : List I3} (h : areSam L = true) : L.length ≤ 12 := by
  unfold areSam at h; simp only [Bool.and_eq_true, decide_eq_true_eq] at h; exact h.1
theorem sam_up {L : List I3} (h : areSam L = true) : upTo L L.length := by
  unfold areSam at h; simp only [Bool.and_eq_true, decide_eq_true_eq] at h; exact h.2
theorem ok_of {m : I3} (h : okSam m = true) : (1 ≤ m.x0 ∧ m.x0 ≤ 99) ∧ (1 ≤ m.x1 ∧ m.x1 ≤ 50) ∧ (0 ≤ m.x2 ∧ m.x2 ≤ 1000) := by
  unfold okSam at h; simp only [Bool.and_eq_true, decide_eq_true_eq] at h; exact ⟨h.1, h.2.1, h.2.2⟩
theorem sam_at {L : List I3} (h : areSam L = true) {j : Nat} (hj : j < L.length) : (1 ≤ (L.getD j zI3).x0 ∧ (L.getD j zI3).x0 ≤ 99) ∧ (1 ≤ (L.getD j zI3).x1 ∧ (L.getD j zI3).x1 ≤ 50) ∧ (0 ≤ (L.getD j zI3).x2 ∧ (L.getD j zI3).x2 ≤ 1000) := ok_of ((sam_up h) j hj).1
theorem up_lt {L : List I3} {n : Nat} (h : upTo L n) : ∀ {j i : Nat}, i < j → j < n → (L.getD i zI3).x0 < (L.getD j zI3).x0
  | 0, i, hi, _ => by omega
  | j + 1, i, hi, hj => by
    have h1 := (h (j + 1) hj).2 (by omega)
    rw [Nat.add_sub_cancel] at h1
    by_cases e : i = j
    · subst e; exact h1
    · exact Int.lt_trans (up_lt h (by omega) (by omega)) h1


/-- The sum of what the chosen ones of the first j have. -/
def pickTo (f : I3 → Int) (L : List I3) (ids : List Int) : Nat → Int
  | 0 => 0
  | j + 1 => if decide ((L.getD j zI3).x0 ∈ ids) = true then wrap64 (pickTo f L ids j + f (L.getD j zI3)) else pickTo f L ids j
/-- What a load of the first j holds, and what it weighs. -/
def greedy (L : List I3) (most : Int) : Nat → List Int × Int
  | 0 => ([], 0)
  | j + 1 => let g := greedy L most j; if g.2 + (L.getD j zI3).x1 ≤ most then (g.1 ++ [(L.getD j zI3).x0], g.2 + (L.getD j zI3).x1) else g
def canLoad (L : List I3) (most : Int) : Bool := areSam L && decide (0 ≤ most ∧ most ≤ 1000)
def greedyOf (L : List I3) (most : Int) : List Int := if canLoad L most = true then (greedy L most L.length).1 else []
theorem greedy_len (L : List I3) (most : Int) : ∀ j, (greedy L most j).1.length ≤ j
  | 0 => Nat.le_refl _
  | j + 1 => by
    have := greedy_len L most j
    simp only [greedy]
    split
    · simp; exact this
    · omega
theorem greedy_bd {L : List I3} {most : Int} (h : canLoad L most = true) : ∀ j, j ≤ L.length → 0 ≤ (greedy L most j).2 ∧ (greedy L most j).2 ≤ most
  | 0, _ => by
    unfold canLoad at h; simp only [Bool.and_eq_true, decide_eq_true_eq] at h
    simp only [greedy]; omega
  | j + 1, hj => by
    have h1 := greedy_bd h j (by omega)
    unfold canLoad at h; simp only [Bool.and_eq_true, decide_eq_true_eq] at h
    have h2 := sam_at h.1 (j := j) (by omega)
    simp only [greedy]
    split
    · dsimp only; omega
    · exact h1
theorem greedyOf_len (L : List I3) (most : Int) : (greedyOf L most).length ≤ L.length := by
  unfold greedyOf
  split
  · exact greedy_len _ _ _
  · simp
theorem canLoad_of {L : List I3} {most : Int} (h : canLoad L most = true) : areSam L = true ∧ 0 ≤ most ∧ most ≤ 1000 := by
  unfold canLoad at h; simp only [Bool.and_eq_true, decide_eq_true_eq] at h; exact h
end Go.Proofs.Ytadfjnpcpgniaaa.Sam

/- Plain facts on valid depots: no program. -/
import Derived.Test.YtfonboleaekndaaDepF
import Derived.Test.YtfonboleaekndaaMBase
namespace Go.Proofs.Ytfonboleaekndaa.Dep
open Ld

def okDep (W H : Int) (X : List Int) (d : Int × Int) : Bool := isOpen W H X d.1 && decide (1 ≤ d.2 ∧ d.2 ≤ 10000)
/-- The first j depots are valid, and ascend. -/
def upD (W H : Int) (X : List Int) (L : List (Int × Int)) (j : Nat) : Prop := ∀ i, i < j → okDep W H X (L.getD i dP) = true ∧ (0 < i → (L.getD (i - 1) dP).1 < (L.getD i dP).1)
instance (W H : Int) (X : List Int) (L : List (Int × Int)) (j : Nat) : Decidable (upD W H X L j) := by unfold upD; infer_instance
def areDep (W H : Int) (X : List Int) (L : List (Int × Int)) : Bool := isLand W H X && (decide (L.length ≤ 20) && decide (upD W H X L L.length))
section
variable {W H : Int} {X : List Int} {L : List (Int × Int)}
theorem upD_zero : upD W H X L 0 := fun i h => absurd h (Nat.not_lt_zero _)
theorem upD_next {j : Nat} (h : upD W H X L j) (h1 : okDep W H X (L.getD j dP) = true) (h2 : 0 < j → (L.getD (j - 1) dP).1 < (L.getD j dP).1) : upD W H X L (j + 1) := fun i hi => by
  by_cases h' : i < j
  · exact h i h'
  · obtain rfl : i = j := by omega
    exact ⟨h1, h2⟩
theorem dep_yes (h0 : isLand W H X = true) (h1 : L.length ≤ 20) (h2 : upD W H X L L.length) : areDep W H X L = true := by
  unfold areDep; rw [h0, decide_eq_true h1, decide_eq_true h2]; rfl
theorem dep_land (h0 : isLand W H X = false) : areDep W H X L = false := by unfold areDep; rw [h0]; rfl
theorem dep_long (h1 : ¬ L.length ≤ 20) : areDep W H X L = false := by unfold areDep; rw [decide_eq_false h1]; simp
theorem dep_bad {j : Nat} (hj : j < L.length) (h : okDep W H X (L.getD j dP) = false ∨ (0 < j ∧ ¬ (L.getD (j - 1) dP).1 < (L.getD j dP).1)) : areDep W H X L = false := by
  unfold areDep
  have : ¬ upD W H X L L.length := fun hu => by
    have := hu j hj
    rcases h with h | ⟨h0, h⟩
    · rw [this.1] at h; cases h
    · exact h (this.2 h0)
  rw [decide_eq_false this, Bool.and_false, Bool.and_false]
theorem dep_of (h : areDep W H X L = true) : isLand W H X = true ∧ L.length ≤ 20 ∧ upD W H X L L.length := by
  unfold areDep at h; simp only [Bool.and_eq_true, decide_eq_true_eq] at h; exact h
theorem dep_at (h : areDep W H X L = true) {j : Nat} (hj : j < L.length) : isOpen W H X (L.getD j dP).1 = true ∧ 1 ≤ (L.getD j dP).2 ∧ (L.getD j dP).2 ≤ 10000 := by
  have := (dep_of h).2.2 j hj
  have h1 := this.1
  unfold okDep at h1; simp only [Bool.and_eq_true, decide_eq_true_eq] at h1; exact h1
theorem open_pos {n : Int} (h : isOpen W H X n = true) : 0 ≤ n := (isCell_of (isOpen_of h).1).2.1
/-- The cell before the jth depot; -1: none. -/
def beforeD (L : List (Int × Int)) : Nat → Int
  | 0 => -1
  | j + 1 => (L.getD j dP).1
end
end Go.Proofs.Ytfonboleaekndaa.Dep

/- What a land is, its cells, and which of them are near one another: plain definitions and facts. -/
import Derived.Test.YtfccikhmcenanaaRow
namespace Go.Proofs.Ytfccikhmcenanaa.Ld
open Go.RowKit Kit Rw

def side (n : Int) : Bool := decide (1 ≤ n ∧ n ≤ 8)
def kind (k : Int) : Bool := decide (0 ≤ k ∧ k ≤ 2)
def isLand (W H : Int) (X : List Int) : Bool := side W && (side H && (decide ((X.length : Int) = W * H) && X.all kind))
def isCell (W H : Int) (X : List Int) (n : Int) : Bool := isLand W H X && decide (0 ≤ n ∧ n ≤ (X.length : Int) - 1)
def isOpen (W H : Int) (X : List Int) (n : Int) : Bool := isCell W H X n && !(decide (X.getD n.toNat 0 = 2))
theorem isLand_of {W H : Int} {X : List Int} (h : isLand W H X = true) : (1 ≤ W ∧ W ≤ 8) ∧ (1 ≤ H ∧ H ≤ 8) ∧ (X.length : Int) = W * H ∧ ∀ k ∈ X, 0 ≤ k ∧ k ≤ 2 := by
  simpa [isLand, side, kind, and_assoc] using h
theorem isLand_mk {W H : Int} {X : List Int} (h : (1 ≤ W ∧ W ≤ 8) ∧ (1 ≤ H ∧ H ≤ 8) ∧ (X.length : Int) = W * H ∧ ∀ k ∈ X, 0 ≤ k ∧ k ≤ 2) : isLand W H X = true := by
  simpa [isLand, side, kind, and_assoc] using h
theorem isLand_no {W H : Int} {X : List Int} (h : ¬ ((1 ≤ W ∧ W ≤ 8) ∧ (1 ≤ H ∧ H ≤ 8) ∧ (X.length : Int) = W * H ∧ ∀ k ∈ X, 0 ≤ k ∧ k ≤ 2)) : isLand W H X = false := by
  rw [Bool.eq_false_iff]; exact fun hl => h (isLand_of hl)
theorem area {W H : Int} (hW : 1 ≤ W ∧ W ≤ 8) (hH : 1 ≤ H ∧ H ≤ 8) : 1 ≤ W * H ∧ W * H ≤ 64 := by
  constructor
  · have := Int.mul_le_mul hW.1 hH.1 (by omega) (by omega); omega
  · have := Int.mul_le_mul hW.2 hH.2 (by omega) (by omega); omega
theorem isCell_of {W H : Int} {X : List Int} {n : Int} (h : isCell W H X n = true) : isLand W H X = true ∧ 0 ≤ n ∧ n < (X.length : Int) := by
  simp only [isCell, Bool.and_eq_true, decide_eq_true_eq] at h
  exact ⟨h.1, h.2.1, by omega⟩
theorem isCell_mk {W H : Int} {X : List Int} {n : Int} (h : isLand W H X = true) (h0 : 0 ≤ n) (h1 : n < (X.length : Int)) : isCell W H X n = true := by
  simp only [isCell, Bool.and_eq_true, decide_eq_true_eq]
  exact ⟨h, h0, by omega⟩
theorem isOpen_of {W H : Int} {X : List Int} {n : Int} (h : isOpen W H X n = true) : isCell W H X n = true ∧ X.getD n.toNat 0 ≠ 2 := by
  simpa [isOpen] using h
theorem isOpen_mk {W H : Int} {X : List Int} {n : Int} (h : isCell W H X n = true) (h2 : X.getD n.toNat 0 ≠ 2) : isOpen W H X n = true := by
  simp only [isOpen, h, Bool.true_and, Bool.not_eq_true', decide_eq_false_iff_not]; exact h2

/-- The four neighbours, in ascending order; rocks are left out. -/
def n1 (W n : Int) (X : List Int) : List Int := if W ≤ n ∧ X.getD (n - W).toNat 0 ≠ 2 then [n - W] else []
def n2 (W n : Int) (X : List Int) : List Int := if 0 < n % W ∧ X.getD (n - 1).toNat 0 ≠ 2 then [n - 1] else []
def n3 (W n : Int) (X : List Int) : List Int := if n % W < W - 1 ∧ X.getD (n + 1).toNat 0 ≠ 2 then [n + 1] else []
def n4 (W n : Int) (X : List Int) : List Int := if n + W < (X.length : Int) ∧ X.getD (n + W).toNat 0 ≠ 2 then [n + W] else []
def near (W n : Int) (X : List Int) : List Int := n1 W n X ++ n2 W n X ++ n3 W n X ++ n4 W n X
/-- What Near answers. -/
def nearOf (W H : Int) (X : List Int) (n : Int) : List Int := if isCell W H X n = true then near W n X else []
theorem n1_len (W n : Int) (X : List Int) : (n1 W n X).length ≤ 1 := by unfold n1; split <;> simp
theorem n2_len (W n : Int) (X : List Int) : (n2 W n X).length ≤ 1 := by unfold n2; split <;> simp
theorem n3_len (W n : Int) (X : List Int) : (n3 W n X).length ≤ 1 := by unfold n3; split <;> simp
theorem n4_len (W n : Int) (X : List Int) : (n4 W n X).length ≤ 1 := by unfold n4; split <;> simp
theorem near_len (W n : Int) (X : List Int) : (near W n X).length ≤ 4 := by
  have := n1_len W n X; have := n2_len W n X; have := n3_len W n X; have := n4_len W n X
  simp only [near, List.length_append]; omega
theorem nearOf_len (W H : Int) (X : List Int) (n : Int) : (nearOf W H X n).length ≤ 4 := by
  unfold nearOf; split
  · exact near_len _ _ _
  · simp
theorem n1_nat (p q : Nat) (X : List Int) : n1 p q X = if decide ((p : Int) ≤ (q : Int) ∧ X.getD (q - p) 0 ≠ 2) = true then [(q : Int) - (p : Int)] else [] := by
  unfold n1; rw [show ((q : Int) - (p : Int)).toNat = q - p by omega]; simp only [decide_eq_true_eq]
theorem n2_nat (p q : Nat) (X : List Int) : n2 p q X = if decide ((0 : Int) < (q : Int) % (p : Int) ∧ X.getD (q - 1) 0 ≠ 2) = true then [(q : Int) - 1] else [] := by
  unfold n2; rw [show ((q : Int) - 1).toNat = q - 1 by omega]; simp only [decide_eq_true_eq]
theorem n3_nat (p q : Nat) (X : List Int) : n3 p q X = if decide ((q : Int) % (p : Int) < (p : Int) - 1 ∧ X.getD (q + 1) 0 ≠ 2) = true then [(q : Int) + 1] else [] := by
  unfold n3; rw [show ((q : Int) + 1).toNat = q + 1 by omega]; simp only [decide_eq_true_eq]
theorem n4_nat (p q : Nat) (X : List Int) : n4 p q X = if decide ((q : Int) + (p : Int) < (X.length : Int) ∧ X.getD (q + p) 0 ≠ 2) = true then [(q : Int) + (p : Int)] else [] := by
  unfold n4; rw [show ((q : Int) + (p : Int)).toNat = q + p by omega]; simp only [decide_eq_true_eq]
/-- The cell to the right lies in the same row. -/
theorem right_in {p q h : Nat} (hq : q < p * h) (hm : q % p + 1 < p) : q + 1 < p * h := by
  have h1 := Nat.div_add_mod q p
  have h2 : q / p < h := Nat.div_lt_of_lt_mul hq
  have h3 : p * (q / p + 1) ≤ p * h := Nat.mul_le_mul_left p h2
  rw [Nat.mul_add] at h3
  omega
/-- The distance between two cells. -/
def mx (a b : Int) : Int := if a < b then b else a
def apart (W H : Int) (X : List Int) (a b : Int) : Int :=
  if isCell W H X a = true ∧ isCell W H X b = true then mx (a % W - b % W) (b % W - a % W) + mx (a / W - b / W) (b / W - a / W) else -1
def count (W H : Int) (X : List Int) (k : Int) : Int := if isLand W H X = true then ((X.filter fun x => x == k).length : Int) else 0
end Go.Proofs.Ytfccikhmcenanaa.Ld

/- Plain facts on pasts and rules: no program. -/
import Derived.Test.YtbpiojnehomljaaRowG
namespace Go.Proofs.Ytbpiojnehomljaa.Stm

def storms (L : List Bool) : Nat := L.countP id
def calm (L : List Bool) : Nat := (L.reverse.takeWhile (fun b => !b)).length
def isRule (m w : Int) : Bool := decide (1 ≤ w ∧ w ≤ 10) && decide (0 ≤ m ∧ m ≤ w - 1)
/-- The storms among the last w of L. -/
def late (w : Int) (L : List Bool) : Nat := storms (L.drop (L.length - w.toNat))
def keeps (m w : Int) (L : List Bool) : Bool := isRule m w && (List.range L.length).all fun i => decide ((late w (L.take (i + 1)) : Int) ≤ m)
def mayStorm (m w : Int) (L : List Bool) : Bool := isRule m w && decide ((late (w - 1) L : Int) < m)
def addDay (L : List Bool) (b : Bool) : List Bool := (L ++ [b]).drop (L.length + 1 - 10)
theorem storms_nil : storms [] = 0 := rfl
theorem storms_app (L M : List Bool) : storms (L ++ M) = storms L + storms M := by simp [storms]
theorem storms_le (L : List Bool) : storms L ≤ L.length := List.countP_le_length
theorem storms_next {L : List Bool} {j : Nat} (hj : j < L.length) : storms (L.take (j + 1)) = storms (L.take j) + (if L.getD j false = true then 1 else 0) := by
  rw [List.take_add_one, storms_app]
  congr 1
  cases h : L[j] <;> simp [hj, h, storms]
theorem calm_step {L : List Bool} {n : Nat} (h : ∀ m, m < n → L.getD (L.length - 1 - m) false = false) (hn : n ≤ L.length) : n ≤ calm L := by
  have : ∀ (n : Nat) (R : List Bool), n ≤ R.length → (∀ m, m < n → R.getD m false = false) → n ≤ (R.takeWhile (fun b => !b)).length := by
    intro n
    induction n with
    | zero => intro R _ _; omega
    | succ n ih =>
      intro R hl hm
      match R, hl with
      | x :: R, hl =>
        have hx : x = false := by simpa using hm 0 (by omega)
        subst hx
        have := ih R (by simpa using hl) (fun m h => by simpa using hm (m + 1) (by omega))
        simpa using this
  refine this n L.reverse (by simpa using hn) (fun m hm => ?_)
  have := h m hm
  rw [List.getD_eq_getElem?_getD] at this ⊢
  rw [List.getElem?_reverse (by omega)]
  exact this
theorem calm_stop {L : List Bool} {n : Nat} (h : n < L.length) (hs : L.getD (L.length - 1 - n) false = true) : calm L ≤ n := by
  have : ∀ (n : Nat) (R : List Bool), R.getD n false = true → (R.takeWhile (fun b => !b)).length ≤ n := by
    intro n
    induction n with
    | zero => intro R hm; match R with | [] => simp | x :: R => simp at hm; subst hm; simp
    | succ n ih =>
      intro R hm
      match R with
      | [] => simp
      | x :: R =>
        have := ih R (by simpa using hm)
        cases x <;> simp <;> omega
  refine this n L.reverse ?_
  rw [List.getD_eq_getElem?_getD] at hs ⊢
  rw [List.getElem?_reverse h]
  exact hs
theorem calm_le (L : List Bool) : calm L ≤ L.length := by
  have := (List.takeWhile_sublist (fun b => !b) (l := L.reverse)).length_le
  simpa [calm] using this
end Go.Proofs.Ytbpiojnehomljaa.Stm

/- The most days of a weather with so many days without storm: plain facts. -/
import Derived.Test.YtbpiojnehomljaaHomF
import Derived.Test.YtbpiojnehomljaaMin
namespace Go.Proofs.Ytbpiojnehomljaa.Sld
open Stm Hom Mn

def slF (m n : Nat) : Nat → Nat → List Bool → Nat
  | 0, _, _ => 0
  | f + 1, q, L => if q = 0 then 0 else max (1 + slF m n f (q - 1) (L ++ [false])) (if may m n L = true then 1 + slF m n f q (L ++ [true]) else 0)
theorem mu_zero {L : List Bool} {q : Nat} (h : mu L q ≤ 0) : q = 0 := by unfold mu at h; omega
theorem mu_calm {L : List Bool} {q : Nat} (hq : q ≠ 0) : mu (L ++ [false]) (q - 1) < mu L q := by
  unfold mu; rw [run_false]; omega
theorem mu_storm {m n : Nat} {L : List Bool} {q : Nat} (hm : m < n) (hn : n ≤ 10) (hq : q ≠ 0) (h : may m n L = true) : mu (L ++ [true]) q < mu L q := by
  have h1 := mu_next (L := L) hm hn hq
  rwa [h, if_pos rfl] at h1
theorem mu_top (L : List Bool) (q : Nat) : mu L q ≤ q * 20 + 10 := by unfold mu; omega
theorem sl_same {m n : Nat} (hm : m < n) (hn : n ≤ 10) : ∀ (f g : Nat) (L : List Bool) (q : Nat), mu L q ≤ f → mu L q ≤ g → slF m n f q L = slF m n g q L
  | 0, g, L, q, hf, _ => by
    have := mu_zero hf
    subst this
    cases g <;> simp [slF]
  | f + 1, 0, L, q, _, hg => by
    have := mu_zero hg
    subst this
    simp [slF]
  | f + 1, g + 1, L, q, hf, hg => by
    unfold slF
    by_cases hq : q = 0
    · rw [if_pos hq, if_pos hq]
    · rw [if_neg hq, if_neg hq]
      have h1 := mu_calm (L := L) hq
      rw [sl_same hm hn f g (L ++ [false]) (q - 1) (by omega) (by omega)]
      by_cases h : may m n L = true
      · have h2 := mu_storm (L := L) hm hn hq h
        rw [if_pos h, if_pos h, sl_same hm hn f g (L ++ [true]) q (by omega) (by omega)]
      · rw [if_neg h, if_neg h]
def slow (m n q : Nat) (L : List Bool) : Nat := slF m n (mu L q) q L
theorem slow_zero (m n : Nat) (L : List Bool) : slow m n 0 L = 0 := by
  unfold slow
  cases mu L 0 <;> simp [slF]
theorem slow_next {m n q : Nat} {L : List Bool} (hm : m < n) (hn : n ≤ 10) : slow m n (q + 1) L = max (1 + slow m n q (L ++ [false])) (if may m n L = true then 1 + slow m n (q + 1) (L ++ [true]) else 0) := by
  have h1 := mu_calm (L := L) (q := q + 1) (by omega)
  have e : mu L (q + 1) = (mu L (q + 1) - 1) + 1 := by omega
  show slF m n (mu L (q + 1)) (q + 1) L = _
  rw [e, slF, if_neg (by omega)]
  rw [sl_same hm hn (mu L (q + 1) - 1) (mu (L ++ [false]) (q + 1 - 1)) (L ++ [false]) (q + 1 - 1) (by omega) (Nat.le_refl _)]
  by_cases h : may m n L = true
  · have h2 := mu_storm (L := L) hm hn (q := q + 1) (by omega) h
    rw [if_pos h, if_pos h, sl_same hm hn (mu L (q + 1) - 1) (mu (L ++ [true]) (q + 1)) (L ++ [true]) (q + 1) (by omega) (Nat.le_refl _)]
    rfl
  · rw [if_neg h, if_neg h]
    rfl
theorem slow_storm {m n q : Nat} {L : List Bool} (hm : m < n) (hn : n ≤ 10) (h : may m n L = true) : slow m n (q + 1) L = max (1 + slow m n q (L ++ [false])) (1 + slow m n (q + 1) (L ++ [true])) := by
  rw [slow_next hm hn, if_pos h]
theorem slow_calm {m n q : Nat} {L : List Bool} (hm : m < n) (hn : n ≤ 10) (h : may m n L = false) : slow m n (q + 1) L = 1 + slow m n q (L ++ [false]) := by
  rw [slow_next hm hn, if_neg (by rw [h]; decide)]; omega
theorem slF_le (m n : Nat) : ∀ (f q : Nat) (L : List Bool), slF m n f q L ≤ f
  | 0, _, _ => Nat.le_refl _
  | f + 1, q, L => by
    have h1 := slF_le m n f (q - 1) (L ++ [false])
    have h2 := slF_le m n f q (L ++ [true])
    unfold slF
    split
    · omega
    · split <;> omega
theorem slow_le (m n q : Nat) (L : List Bool) : slow m n q L ≤ q * 20 + 10 := Nat.le_trans (slF_le _ _ _ _ _) (mu_top L q)
theorem most_nat (a b : Nat) : most (a : Int) (b : Int) = ((max a b : Nat) : Int) := by unfold most; split <;> omega
def slOf (m n : Int) (L : List Bool) (k : Int) : Int := if (isRule m n && decide (0 ≤ k ∧ k ≤ 3)) = true then (slow m.toNat n.toNat k.toNat L : Int) else -1
theorem slOf_no1 {m n : Int} {L : List Bool} {k : Int} (h : isRule m n = false) : slOf m n L k = -1 := if_neg (by rw [h]; simp)
theorem slOf_no2 {m n : Int} {L : List Bool} {k : Int} (h : ¬ (0 ≤ k ∧ k ≤ 3)) : slOf m n L k = -1 := if_neg (by rw [decide_eq_false h]; simp)
theorem slOf_yes {m n : Int} {L : List Bool} {k : Int} (h : isRule m n = true) (hk : 0 ≤ k ∧ k ≤ 3) : slOf m n L k = slow m.toNat n.toNat k.toNat L := if_pos (by rw [h, decide_eq_true hk]; rfl)
end Go.Proofs.Ytbpiojnehomljaa.Sld

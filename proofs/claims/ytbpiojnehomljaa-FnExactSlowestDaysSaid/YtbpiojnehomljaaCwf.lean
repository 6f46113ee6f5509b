/- How many weathers there are of so many days: plain facts. -/
import Derived.Test.YtbpiojnehomljaaHomF
namespace Go.Proofs.Ytbpiojnehomljaa.Cwx
open Stm Hom

def cw (m n : Nat) : Nat → List Bool → Nat
  | 0, _ => 1
  | k + 1, L => cw m n k (L ++ [false]) + (if may m n L = true then cw m n k (L ++ [true]) else 0)
theorem cw_zero (m n : Nat) (L : List Bool) : cw m n 0 L = 1 := rfl
theorem cw_yes {m n k : Nat} {L : List Bool} (h : may m n L = true) : cw m n (k + 1) L = cw m n k (L ++ [false]) + cw m n k (L ++ [true]) := by
  rw [cw, if_pos h]
theorem cw_no {m n k : Nat} {L : List Bool} (h : may m n L = false) : cw m n (k + 1) L = cw m n k (L ++ [false]) := by
  rw [cw, if_neg (by rw [h]; decide), Nat.add_zero]
theorem cw_alike {m n : Nat} : ∀ (k : Nat) {L M : List Bool}, (∀ j, j ≤ n - 1 → lastN j L = lastN j M) → cw m n k L = cw m n k M
  | 0, _, _, _ => rfl
  | k + 1, L, M, h => by
    rw [cw, cw, may_alike (m := m) h, cw_alike k (alike_next false h), cw_alike k (alike_next true h)]
theorem cw_add {m n : Nat} (hn : n ≤ 10) (k : Nat) (L : List Bool) (s : Bool) : cw m n k (addDay L s) = cw m n k (L ++ [s]) := cw_alike k (addDay_alike hn L s)
theorem cw_bd (m n : Nat) : ∀ (k : Nat) (L : List Bool), cw m n k L ≤ 2 ^ k
  | 0, _ => Nat.le_refl _
  | k + 1, L => by
    have h1 := cw_bd m n k (L ++ [false])
    have h2 := cw_bd m n k (L ++ [true])
    rw [cw, Nat.pow_succ]
    split <;> omega
theorem cw_top {m n k : Nat} (h : k ≤ 10) (L : List Bool) : cw m n k L ≤ 1024 :=
  Nat.le_trans (cw_bd m n k L) (Nat.le_trans (Nat.pow_le_pow_right (by decide) h) (by decide))
def cwOf (m n : Int) (L : List Bool) (k : Int) : Int := if (isRule m n && decide (0 ≤ k ∧ k ≤ 10)) = true then (cw m.toNat n.toNat k.toNat L : Int) else 0
theorem cwOf_no1 {m n : Int} {L : List Bool} {k : Int} (h : isRule m n = false) : cwOf m n L k = 0 := if_neg (by rw [h]; simp)
theorem cwOf_no2 {m n : Int} {L : List Bool} {k : Int} (h : ¬ (0 ≤ k ∧ k ≤ 10)) : cwOf m n L k = 0 := if_neg (by rw [decide_eq_false h]; simp)
theorem cwOf_yes {m n : Int} {L : List Bool} {k : Int} (h : isRule m n = true) (hk : 0 ≤ k ∧ k ≤ 10) : cwOf m n L k = cw m.toNat n.toNat k.toNat L := if_pos (by rw [h, decide_eq_true hk]; rfl)
end Go.Proofs.Ytbpiojnehomljaa.Cwx

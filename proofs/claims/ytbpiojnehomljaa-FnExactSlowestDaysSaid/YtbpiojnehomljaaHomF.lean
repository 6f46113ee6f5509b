/- Plain facts on the worst return: its weather, and the food on the way. No program. -/
import Derived.Test.YtbpiojnehomljaaRuleL
import Derived.Test.YtbpiojnehomljaaRing
namespace Go.Proofs.Ytbpiojnehomljaa.Hom
open Stm

/-- The days till k of them have been without storm, storms as early as can be: true is a storm. So many at most are looked at. -/
def sg (m n : Nat) : Nat → List Bool → Nat → List Bool
  | 0, _, _ => []
  | f + 1, L, k => if k = 0 then [] else may m n L :: sg m n f (L ++ [may m n L]) (if may m n L = true then k else k - 1)
theorem sg_same {m n : Nat} (hm : m < n) (hn : n ≤ 10) : ∀ (f g : Nat) (L : List Bool) (k : Nat), mu L k ≤ f → mu L k ≤ g → sg m n f L k = sg m n g L k
  | 0, g, L, k, hf, _ => by
    have : k = 0 := by unfold mu at hf; omega
    subst this
    cases g <;> simp [sg]
  | f + 1, 0, L, k, _, hg => by
    have : k = 0 := by unfold mu at hg; omega
    subst this
    simp [sg]
  | f + 1, g + 1, L, k, hf, hg => by
    unfold sg
    by_cases hk : k = 0
    · rw [if_pos hk, if_pos hk]
    · rw [if_neg hk, if_neg hk]
      have := mu_next (L := L) hm hn hk
      rw [sg_same hm hn f g _ _ (by omega) (by omega)]
/-- The weather of the worst return. -/
def signs (m n : Nat) (L : List Bool) (k : Nat) : List Bool := sg m n (mu L k) L k
theorem signs_zero (m n : Nat) (L : List Bool) : signs m n L 0 = [] := by
  unfold signs
  cases mu L 0 <;> simp [sg]
theorem signs_next {m n : Nat} {L : List Bool} {k : Nat} (hm : m < n) (hn : n ≤ 10) (hk : k ≠ 0) : signs m n L k = may m n L :: signs m n (L ++ [may m n L]) (if may m n L = true then k else k - 1) := by
  have h := mu_next (L := L) hm hn hk
  have e : mu L k = (mu L k - 1) + 1 := by omega
  unfold signs
  rw [e, sg, if_neg hk, sg_same hm hn _ (mu (L ++ [may m n L]) (if may m n L = true then k else k - 1)) _ _ (by omega) (Nat.le_refl _)]
theorem signs_storm {m n : Nat} {L : List Bool} {k : Nat} (hm : m < n) (hn : n ≤ 10) (hk : k ≠ 0) (h : may m n L = true) : signs m n L k = true :: signs m n (L ++ [true]) k := by
  have := signs_next (L := L) hm hn hk
  rwa [h, if_pos rfl] at this
theorem signs_calm {m n : Nat} {L : List Bool} {k : Nat} (hm : m < n) (hn : n ≤ 10) (hk : k ≠ 0) (h : may m n L = false) : signs m n L k = false :: signs m n (L ++ [false]) (k - 1) := by
  have := signs_next (L := L) hm hn hk
  rwa [h, if_neg (by simp)] at this
theorem sg_len {m n : Nat} : ∀ (f : Nat) (L : List Bool) (k : Nat), (sg m n f L k).length ≤ f
  | 0, _, _ => by simp [sg]
  | f + 1, L, k => by
    unfold sg
    split
    · simp
    · have := sg_len (m := m) (n := n) f (L ++ [may m n L]) (if may m n L = true then k else k - 1)
      simp; omega
theorem signs_len (m n : Nat) (L : List Bool) (k : Nat) : (signs m n L k).length ≤ k * 20 + 10 := by
  have := sg_len (m := m) (n := n) (mu L k) L k
  unfold signs
  unfold mu at this ⊢
  omega
theorem may_alike {m n : Nat} {L M : List Bool} (h : ∀ j, j ≤ n - 1 → lastN j L = lastN j M) : may m n L = may m n M := by
  unfold may; rw [h (n - 1) (Nat.le_refl _)]
theorem alike_next {n : Nat} {L M : List Bool} (s : Bool) (h : ∀ j, j ≤ n - 1 → lastN j L = lastN j M) : ∀ j, j ≤ n - 1 → lastN j (L ++ [s]) = lastN j (M ++ [s]) := fun j hj => by
  match j with
  | 0 => rw [lastN_zero, lastN_zero]
  | j + 1 => rw [lastN_next, lastN_next, h j (by omega)]
/-- The number of calm days in a weather. -/
def calms (S : List Bool) : Nat := S.countP (fun b => !b)
theorem run_alike {m n : Nat} (hm : m < n) (hn : n ≤ 10) : ∀ (f : Nat) (L M : List Bool) (k : Nat), mu L k + mu M k ≤ f → (∀ j, j ≤ n - 1 → lastN j L = lastN j M) → signs m n L k = signs m n M k
  | 0, L, M, k, hf, _ => by
    have : k = 0 := by unfold mu at hf; omega
    subst this
    rw [signs_zero, signs_zero]
  | f + 1, L, M, k, hf, h => by
    by_cases hk : k = 0
    · subst hk; rw [signs_zero, signs_zero]
    · have e := may_alike (m := m) h
      have h1 := mu_next (L := L) hm hn hk
      have h2 := mu_next (L := M) hm hn hk
      rw [signs_next (L := L) hm hn hk, signs_next (L := M) hm hn hk]
      rw [e] at h1 ⊢
      rw [run_alike hm hn f (L ++ [may m n M]) (M ++ [may m n M]) _ (by omega) (alike_next _ h)]
theorem signs_alike {m n : Nat} {L M : List Bool} {k : Nat} (hm : m < n) (hn : n ≤ 10) (h : ∀ j, j ≤ n - 1 → lastN j L = lastN j M) : signs m n L k = signs m n M k := run_alike hm hn _ L M k (Nat.le_refl _) h
theorem addDay_alike {n : Nat} (hn : n ≤ 10) (L : List Bool) (s : Bool) : ∀ j, j ≤ n - 1 → lastN j (addDay L s) = lastN j (L ++ [s]) := fun j hj => lastN_addDay L s (by omega)

/-- The food at the end of a weather's days, each of which takes need; cells that are come to give some. -1: there is not enough. -/
def walk (need : Int) (pick : Int → Int → Int) : List Bool → List Int → Int → Int
  | [], _, f => f
  | true :: S, W, f => if f < need then -1 else walk need pick S W (f - need)
  | false :: S, W, f => if f < need then -1 else
    match W with
    | [] => walk need pick S [] (f - need)
    | c :: W => walk need pick S W (pick c (f - need))
theorem walk_no {need : Int} {pick : Int → Int → Int} {s : Bool} {S : List Bool} {W : List Int} {f : Int} (h : f < need) : walk need pick (s :: S) W f = -1 := by
  cases s <;> simp [walk, h]
theorem walk_storm {need : Int} {pick : Int → Int → Int} {S : List Bool} {W : List Int} {f : Int} (h : ¬ f < need) : walk need pick (true :: S) W f = walk need pick S W (f - need) := by
  simp [walk, h]
theorem walk_calm {need : Int} {pick : Int → Int → Int} {S : List Bool} {c : Int} {W : List Int} {f : Int} (h : ¬ f < need) : walk need pick (false :: S) (c :: W) f = walk need pick S W (pick c (f - need)) := by
  simp [walk, h]
end Go.Proofs.Ytbpiojnehomljaa.Hom

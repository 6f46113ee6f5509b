/- How food is shared: plain facts, and the model's contract. -/
import Derived.Test.YtochohoihmfanaaCrI
import Derived.Test.YtochohoihmfanaaCrS
import Derived.Test.YtochohoihmfanaaLandI
import Derived.OwnWalk
import Derived.Deep.RegionHeldLaw
namespace Go.Proofs.Ytochohoihmfanaa.Shf
open Go.RowKit Kit Rw Rg Crw

theorem info_int : (Try.prog.info? 3).map (fun i => (i.zero, i.size, i.bytes)) = some (some (.int .i64 0), 1, 8) := by kernel_rfl
def shJ (L : List Mem) (n : Int) (j : Nat) : Int := n * (L.getD j dM).need / needOf L
def rmJ (L : List Mem) (n : Int) (j : Nat) : Int := n * (L.getD j dM).need % needOf L
def lefT (L : List Mem) (n : Int) : Nat → Int
  | 0 => n
  | j + 1 => lefT L n j - shJ L n j
def rmT (L : List Mem) (n : Int) : Nat → Int
  | 0 => 0
  | j + 1 => rmT L n j + rmJ L n j
theorem lefT_next (L : List Mem) (n : Int) (j : Nat) : lefT L n (j + 1) = lefT L n j - shJ L n j := rfl
theorem rmT_next (L : List Mem) (n : Int) (j : Nat) : rmT L n (j + 1) = rmT L n j + rmJ L n j := rfl
theorem inv {L : List Mem} {n : Int} : ∀ j, j ≤ L.length → needOf L * (n - lefT L n j) + rmT L n j = n * sumTo eats L j
  | 0, _ => by rw [sumTo_zero]; simp [lefT, rmT]
  | j + 1, hj => by
    have h1 := inv (L := L) (n := n) j (by omega)
    have h2 := Int.mul_ediv_add_emod (n * (L.getD j dM).need) (needOf L)
    rw [sumTo_next (show j < L.length by omega), lefT_next, rmT_next, Int.mul_add, ← h1]
    show _ = _ + n * (L.getD j dM).need
    rw [← h2]
    show _ + (_ + rmJ L n j) = _
    unfold shJ rmJ
    rw [show n - (lefT L n j - n * (L.getD j dM).need / needOf L) = (n - lefT L n j) + n * (L.getD j dM).need / needOf L by omega, Int.mul_add]
    omega
theorem need_at {L : List Mem} (hc : areCrew L = true) {j : Nat} (hj : j < L.length) : 1 ≤ (L.getD j dM).need ∧ (L.getD j dM).need ≤ 10 := (crew_at hc hj).2.2
theorem sh_bd {L : List Mem} {n : Int} (hc : areCrew L = true) (hn : 0 ≤ n ∧ n ≤ 10000) {j : Nat} (hj : j < L.length) : 0 ≤ n * (L.getD j dM).need ∧ n * (L.getD j dM).need ≤ 100000 ∧ 0 ≤ shJ L n j ∧ shJ L n j ≤ 100000 ∧ 0 ≤ rmJ L n j ∧ rmJ L n j < needOf L := by
  have h1 := need_at hc hj
  have h2 := needOf_pos hc
  have h3 : 0 ≤ n * (L.getD j dM).need := Int.mul_nonneg hn.1 (by omega)
  have h4 : n * (L.getD j dM).need ≤ 10000 * 10 := Int.mul_le_mul hn.2 h1.2 (by omega) (by omega)
  have h5 := Int.ediv_le_self (needOf L) h3
  have h6 := Int.ediv_nonneg h3 (show 0 ≤ needOf L by omega)
  have h7 := Int.emod_nonneg (n * (L.getD j dM).need) (show needOf L ≠ 0 by omega)
  have h8 := Int.emod_lt_of_pos (n * (L.getD j dM).need) h2
  exact ⟨h3, by omega, h6, by unfold shJ; omega, h7, h8⟩
theorem rm_bd {L : List Mem} {n : Int} (hc : areCrew L = true) (hn : 0 ≤ n ∧ n ≤ 10000) : ∀ j, j ≤ L.length → 0 ≤ rmT L n j ∧ rmT L n j ≤ needOf L * j ∧ (0 < j → rmT L n j < needOf L * j)
  | 0, _ => by simp [rmT]
  | j + 1, hj => by
    have h1 := rm_bd hc hn j (by omega)
    have h2 := sh_bd hc hn (show j < L.length by omega)
    have e : needOf L * ((j + 1 : Nat) : Int) = needOf L * j + needOf L := by rw [show ((j + 1 : Nat) : Int) = (j : Int) + 1 by omega, Int.mul_add, Int.mul_one]
    rw [rmT_next, e]
    omega
/-- What is left over, as the program reckons it, and as the model does. -/
theorem left_eq {L : List Mem} {n : Int} (hc : areCrew L = true) : rmT L n L.length = needOf L * lefT L n L.length := by
  have h1 := inv (L := L) (n := n) L.length (Nat.le_refl _)
  have h2 : sumTo eats L L.length = needOf L := by unfold needOf; rw [if_pos hc]
  rw [h2, Int.mul_sub, Int.mul_comm n] at h1
  omega
theorem left_div {L : List Mem} {n : Int} (hc : areCrew L = true) : rmT L n L.length / needOf L = lefT L n L.length := by
  have := needOf_pos hc
  rw [left_eq hc, Int.mul_ediv_cancel_left _ (by omega)]
theorem left_bd {L : List Mem} {n : Int} (hc : areCrew L = true) (hn : 0 ≤ n ∧ n ≤ 10000) : 0 ≤ lefT L n L.length ∧ lefT L n L.length < L.length := by
  have h0 := needOf_pos hc
  have h1 := rm_bd hc hn L.length (Nat.le_refl _)
  have h2 := h1.2.2 (by have := crew_len hc; omega)
  rw [left_eq hc] at h1 h2
  exact ⟨Int.nonneg_of_mul_nonneg_right h1.1 h0, Int.lt_of_mul_lt_mul_left h2 (by omega)⟩
theorem lef_small {L : List Mem} {n : Int} (hc : areCrew L = true) (hn : 0 ≤ n ∧ n ≤ 10000) : ∀ j, j ≤ L.length → n - 100000 * j ≤ lefT L n j ∧ lefT L n j ≤ n
  | 0, _ => by simp [lefT]
  | j + 1, hj => by
    have h1 := lef_small hc hn j (by omega)
    have h2 := sh_bd hc hn (show j < L.length by omega)
    rw [lefT_next]
    omega
/-- The first m shares, the first k of them with one more. -/
def lst (L : List Mem) (n : Int) (k m : Nat) : List Int := (List.range m).map fun i => if i < k then shJ L n i + 1 else shJ L n i
theorem lst_len (L : List Mem) (n : Int) (k m : Nat) : (lst L n k m).length = m := by simp [lst]
theorem lst_next (L : List Mem) (n : Int) (k m : Nat) : lst L n k (m + 1) = lst L n k m ++ [if m < k then shJ L n m + 1 else shJ L n m] := by simp [lst, List.range_succ]
theorem lst_zero (L : List Mem) (n : Int) (k : Nat) : lst L n k 0 = [] := rfl
theorem lst_at (L : List Mem) (n : Int) {k m : Nat} {j : Nat} (hj : j < m) : (lst L n k m).getD j 0 = if j < k then shJ L n j + 1 else shJ L n j := by simp [lst, hj]
theorem lst_put (L : List Mem) (n : Int) {k m : Nat} (hk : k < m) : (lst L n k m).set k (shJ L n k + 1) = lst L n (k + 1) m := by
  apply List.ext_getElem (by simp [lst])
  intro i h1 h2
  simp only [lst, List.getElem_set, List.getElem_map, List.getElem_range]
  split
  · subst_vars; rw [if_pos (by omega)]
  · by_cases h : i < k
    · rw [if_pos h, if_pos (by omega)]
    · rw [if_neg h, if_neg (by omega)]
def can (L : List Mem) (n : Int) : Prop := areCrew L = true ∧ 0 ≤ n ∧ n ≤ 10000
instance (L : List Mem) (n : Int) : Decidable (can L n) := by unfold can; infer_instance
def food (L : List Mem) (n : Int) : List Int := if can L n then lst L n (lefT L n L.length).toNat L.length else []
theorem food_len (L : List Mem) (n : Int) : (food L n).length ≤ L.length := by
  unfold food; split
  · rw [lst_len]; exact Nat.le_refl _
  · simp
theorem food_yes {L : List Mem} {n : Int} (h : can L n) : food L n = lst L n (lefT L n L.length).toNat L.length := if_pos h
theorem food_no {L : List Mem} {n : Int} (h : ¬ can L n) : food L n = [] := if_neg h
end Go.Proofs.Ytochohoihmfanaa.Shf

/- Plain facts on the outcome of a vote: no program. -/
import Derived.Test.YtfdadeiemfmgkaaVotF
namespace Go.Proofs.Ytfdadeiemfmgkaa.Out
open Go.RowKit Kit Rw Rg Crw Vot

def arr (V : List V2) (j : Nat) : Array Value := ((List.range 10).map fun (c : Nat) => Value.int .i64 (cnt V c j)).toArray
theorem arr_size (V : List V2) (j : Nat) : (arr V j).size = 10 := by simp [arr]
theorem arr_get (V : List V2) (j : Nat) {c : Nat} (h : c < 10) : (arr V j)[c]? = some (.int .i64 (cnt V c j)) := by simp [arr, h]
theorem arr_one (V : List V2) (j : Nat) : (arr V j).all (·.oneCell') = true := by
  rw [Array.all_eq_true_iff_forall_mem]
  intro x hx
  simp only [arr, List.mem_toArray, List.mem_map] at hx
  obtain ⟨c, _, rfl⟩ := hx
  rfl
theorem arr_next {V : List V2} {j c : Nat} (hc : c < 10) (hv : (V.getD j (0, 0)).2 = c) : (arr V j).setIfInBounds c (.int .i64 (cnt V c j + 1)) = arr V (j + 1) := by
  unfold arr
  rw [List.setIfInBounds_toArray]
  congr 1
  apply List.ext_getElem?
  intro i
  rw [List.getElem?_set]
  by_cases e : c = i
  · subst e
    have e1 : cnt V (c : Int) (j + 1) = cnt V c j + 1 := by show (if _ then _ else _) = _; rw [if_pos hv]
    rw [if_pos rfl, if_pos (by simpa using hc)]
    simp [hc, e1]
  · rw [if_neg e]
    by_cases hi : i < 10
    · have e2 : cnt V (i : Int) (j + 1) = cnt V i j := by show (if _ then _ else _) = _; rw [if_neg (by rw [hv]; omega)]
      simp [hi, e2]
    · simp [hi]
def bestTo (V : List V2) (n : Nat) : Nat → Nat
  | 0 => 0
  | k + 1 => if cnt V (bestTo V n k : Nat) n < cnt V ((k + 1 : Nat) : Int) n then k + 1 else bestTo V n k
theorem bestTo_le (V : List V2) (n : Nat) : ∀ k, bestTo V n k ≤ k
  | 0 => Nat.le_refl _
  | k + 1 => by have := bestTo_le V n k; simp only [bestTo]; split <;> omega
abbrev whos (V : List V2) : List Int := V.map (·.1)
/-- What is chosen. -/
def choice (V : List V2) (leader : Int) : Int :=
  if 0 ≤ Wat.place (whos V) leader 0 ∧ cnt V (V.getD (Wat.place (whos V) leader 0).toNat (0, 0)).2 V.length = cnt V (bestTo V V.length 9 : Nat) V.length then (V.getD (Wat.place (whos V) leader 0).toNat (0, 0)).2 else (bestTo V V.length 9 : Nat)
def outcome (L : List Mem) (V : List V2) (leader : Int) : Int := if V = [] ∨ areVotes L V = false then -1 else choice V leader
theorem who_once {L : List Mem} {V : List V2} (h : upV L V V.length) {i k : Nat} (hi : i < V.length) (hk : k < i) : (whos V).getD i 0 ≠ (whos V).getD k 0 := by
  have h1 := (h i hi).2.2 k hk
  have e1 : (whos V).getD i 0 = (V.getD i (0, 0)).1 := by simp [hi]
  have e2 : (whos V).getD k 0 = (V.getD k (0, 0)).1 := by simp [show k < V.length by omega]
  rw [e1, e2]
  exact fun e => h1 e.symm
theorem choice_hit {V : List V2} {leader : Int} {k : Nat} (hp : Wat.place (whos V) leader 0 = k) (h : cnt V (V.getD k (0, 0)).2 V.length = cnt V (bestTo V V.length 9 : Nat) V.length) : choice V leader = (V.getD k (0, 0)).2 := by
  unfold choice
  rw [hp, Int.toNat_natCast, if_pos ⟨by omega, h⟩]
theorem choice_miss {V : List V2} {leader : Int} (h : Wat.place (whos V) leader 0 = -1 ∨ ∃ k : Nat, Wat.place (whos V) leader 0 = k ∧ cnt V (V.getD k (0, 0)).2 V.length ≠ cnt V (bestTo V V.length 9 : Nat) V.length) : choice V leader = (bestTo V V.length 9 : Nat) := by
  unfold choice
  rcases h with h | ⟨k, h, hne⟩
  · rw [if_neg (by rw [h]; omega)]
  · rw [h, Int.toNat_natCast, if_neg (fun h' => hne h'.2)]

end Go.Proofs.Ytfdadeiemfmgkaa.Out

/- The law's helpers for ropes. -/
import Derived.Test.YtedijkkbphbnoaaRopeTS
import Derived.Test.YtedijkkbphbnoaaLawsM
import Derived.Test.YtedijkkbphbnoaaSzM
namespace Go.Proofs.Ytedijkkbphbnoaa.Rop
open Go.RowKit Kit Rw Rg Crw Mn CrH Cln

theorem tot_teamsN : ∀ (k : Nat) (M : List Int), tot (teamsN k M) ≤ M.length
  | 0, M => by show tot [] ≤ _; exact Nat.zero_le _
  | k + 1, M => by
    show tot (if M.length < 2 then [] else _) ≤ _
    by_cases h : M.length < 2
    · rw [if_pos h]; exact Nat.zero_le _
    · rw [if_neg h, tot_cons, List.length_take]
      have h1 := tot_teamsN k (M.drop (nx M.length))
      rw [List.length_drop] at h1
      have h2 := nx_bd (show 2 ≤ M.length by omega)
      omega
theorem tot_teamsOf (L : List Mem) : tot (teamsOf L) ≤ 8 := by
  unfold teamsOf
  by_cases h : areCrew L = true
  · rw [if_pos h]
    exact Nat.le_trans (tot_teamsN _ _) (Nat.le_trans (healthy_len L) (crew_len h).2)
  · rw [if_neg h]; exact Nat.zero_le _
theorem below_trans {B B' : Nat} {a b c : World} (h : Below B a b) (h2 : Below B' b c) (hB : B ≤ B') : Below B a c :=
  h.trans (h2.mono hB)
end Go.Proofs.Ytedijkkbphbnoaa.Rop

/- Plain facts on depots: no program. -/
import Derived.Test.YtoanhnklemlfmaaDoorRowS
namespace Go.Proofs.YtoanhnklemlfmaaDoor.Dep
def dP : Int × Int := (0, 0)
def foodAt : List (Int × Int) → Int → Int
  | [], _ => 0
  | d :: L, c => if d.1 = c then d.2 else foodAt L c
theorem foodAt_at : ∀ {L : List (Int × Int)} {c : Int} {j : Nat}, j < L.length → (∀ k, k < j → (L.getD k dP).1 ≠ c) → (L.getD j dP).1 = c → foodAt L c = (L.getD j dP).2
  | [], _, _, h, _, _ => by simp at h
  | d :: L, c, 0, _, _, h => by
    have h : d.1 = c := h
    show (if d.1 = c then d.2 else foodAt L c) = d.2
    rw [if_pos h]
  | d :: L, c, j + 1, hj, hn, h => by
    have h0 : d.1 ≠ c := hn 0 (by omega)
    show (if d.1 = c then d.2 else foodAt L c) = _
    rw [if_neg h0]
    exact foodAt_at (L := L) (by simpa using hj) (fun k hk => hn (k + 1) (by omega)) h
theorem foodAt_none : ∀ {L : List (Int × Int)} {c : Int}, (∀ k, k < L.length → (L.getD k dP).1 ≠ c) → foodAt L c = 0
  | [], _, _ => rfl
  | d :: L, c, hn => by
    have h0 : d.1 ≠ c := hn 0 (by simp)
    show (if d.1 = c then d.2 else foodAt L c) = 0
    rw [if_neg h0]
    exact foodAt_none (L := L) (fun k hk => hn (k + 1) (by simpa using hk))
/-- What a depot counts for. -/
def cl (x : Int) : Int := if x < 0 then 0 else if 10000 < x then 10000 else x
theorem cl_b (x : Int) : 0 ≤ cl x ∧ cl x ≤ 10000 := by unfold cl; split <;> (try split) <;> omega
def tot (L : List (Int × Int)) (j : Nat) : Int := ((L.take j).map (fun d => cl d.2)).sum
theorem tot_zero (L : List (Int × Int)) : tot L 0 = 0 := by simp [tot]
theorem tot_next {L : List (Int × Int)} {j : Nat} (hj : j < L.length) : tot L (j + 1) = tot L j + cl (L.getD j dP).2 := by
  unfold tot
  rw [List.take_add_one, List.map_append, List.sum_append]
  congr 1
  simp [hj]
theorem tot_b {L : List (Int × Int)} : ∀ j, j ≤ L.length → 0 ≤ tot L j ∧ tot L j ≤ j * 10000
  | 0, _ => by rw [tot_zero]; simp
  | j + 1, hj => by
    have h1 := tot_b (L := L) j (by omega)
    have h2 := cl_b (L.getD j dP).2
    rw [tot_next (by omega)]
    omega
end Go.Proofs.YtoanhnklemlfmaaDoor.Dep

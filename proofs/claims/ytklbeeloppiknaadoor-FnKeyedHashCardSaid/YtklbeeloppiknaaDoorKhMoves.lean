/- A keyed hash depends on each of its values: plain facts. -/
import Derived.Test.YtklbeeloppiknaaDoorHs
namespace Go.Proofs.YtklbeeloppiknaaDoor.Hs
open Go.RowKit Kit Rw

theorem hs1_inj {d d' v : Int} (h : InM d) (h' : InM d') (he : hs1 d v = hs1 d' v) : d = d' := by
  obtain ⟨h0, h1⟩ := h
  obtain ⟨h0', h1'⟩ := h'
  unfold hs1 at he
  -- 1000003 * 1523789695 = 1 + 2147483647 * 709572
  have hm : (2147483647 : Int) ∣ (d - d') * 1000003 := by
    refine Int.dvd_of_emod_eq_zero ?_
    have h := Int.emod_eq_emod_iff_emod_sub_eq_zero.1 he
    have e : (d - d') * 1000003 = d * 1000003 + v % 2147483647 + 13 - (d' * 1000003 + v % 2147483647 + 13) := by
      rw [Int.sub_mul]
      generalize d * 1000003 = x
      generalize d' * 1000003 = y
      generalize v % 2147483647 = t
      omega
    rw [e]; exact h
  clear he
  obtain ⟨s, hs⟩ := hm
  have hr : d - d' = 2147483647 * (s * 1523789695 - (d - d') * 709572) := by
    have h2 : (d - d') * 1000003 * 1523789695 = 2147483647 * s * 1523789695 := by rw [hs]
    have h3 : (d - d') * 1000003 * 1523789695 = (d - d') + 2147483647 * ((d - d') * 709572) := by
      rw [Int.mul_assoc, show (1000003 : Int) * 1523789695 = 1 + 2147483647 * 709572 by decide, Int.mul_add, Int.mul_one, ← Int.mul_assoc, Int.mul_comm (d - d') 2147483647, Int.mul_assoc]
    rw [Int.mul_sub, ← Int.mul_assoc]
    clear hs
    generalize (d - d') * 1000003 * 1523789695 = A at h2 h3
    generalize 2147483647 * s * 1523789695 = B at h2 ⊢
    generalize 2147483647 * ((d - d') * 709572) = C at h3 ⊢
    omega
  clear hs
  generalize s * 1523789695 - (d - d') * 709572 = r at hr
  omega
theorem hs_inj {d d' : Int} (L : List Int) (h : InM d) (h' : InM d') (he : hs d L = hs d' L) : d = d' := by
  induction L generalizing d d' with
  | nil => exact he
  | cons v L ih => exact hs1_inj h h' (ih (hs1_in d v) (hs1_in d' v) he)
theorem hs1_val {d v v' : Int} (he : hs1 d v = hs1 d v') : v % 2147483647 = v' % 2147483647 := by
  unfold hs1 at he
  generalize d * 1000003 = t at he
  omega
theorem split_at {L : List Int} {i : Nat} (hi : i < L.length) : L = L.take i ++ L.getD i 0 :: L.drop (i + 1) := by
  have h : L.getD i 0 = L[i] := by simp [hi]
  rw [h, List.getElem_cons_drop, List.take_append_drop]
theorem set_at {L : List Int} {i : Nat} (hi : i < L.length) (x : Int) : L.set i x = L.take i ++ x :: L.drop (i + 1) := by
  rw [List.set_eq_take_append_cons_drop, if_pos hi]
theorem kh_moves {k : Int} {L : List Int} {i : Nat} {x : Int} (hi : i < L.length) (hx : x % 2147483647 ≠ L.getD i 0 % 2147483647) : kh k (L.set i x) ≠ kh k L := by
  intro he
  apply hx
  rw [kh_parts, kh_parts, set_at hi] at he
  rw [congrArg (fun M => hs (hs (hs 11 [k]) M) [k]) (split_at hi)] at he
  rw [hs_append, hs_append] at he
  have hb : InM (hs 11 [k]) := hs_in _ (by unfold InM; omega)
  have hc := hs_in (L.take i) hb
  generalize hs (hs 11 [k]) (L.take i) = c at he hc
  have e1 := hs_inj [k] (hs_in _ hc) (hs_in _ hc) he
  have e2 := hs_inj (L.drop (i + 1)) (hs1_in c x) (hs1_in c (L.getD i 0)) e1
  exact hs1_val e2
end Go.Proofs.YtklbeeloppiknaaDoor.Hs

/- Contract of the model's Keeps. -/
import Derived.Test.YtbpiojnehomljaaStormS
namespace Go.Proofs.Ytbpiojnehomljaa.StormS
open Go.RowKit Kit Rw Rg Stm Md

/-- 'v[:m]'. -/
theorem seesG_to {α : Type} {e : Enc α} {w : World} {a : Option Addr} {n cap m : Nat} {L : List α} (h : SeesG e w (.slice a n cap) L) (hm : m ≤ L.length) : SeesG e w (.slice a m cap) (L.take m) := by
  obtain ⟨a', c, e', h1, h2, h3, h4, h5⟩ := h
  injection e' with e1 e2 e3
  subst e1; subst e2; subst e3
  have hl : (L.take m).length = m := by rw [List.length_take, Nat.min_eq_left hm]
  refine ⟨_, _, by rw [hl], by omega, h2, h3, fun x hx => h4 x (List.mem_of_mem_take hx), ?_⟩
  rcases h5 with h5 | ⟨b, o, rfl, hc⟩
  · exact .inl (by rw [h5]; simp)
  · refine .inr ⟨b, o, rfl, fun j hj => ?_⟩
    rw [hl] at hj
    have hm2 : m * e.size ≤ L.length * e.size := Nat.mul_le_mul_right _ hm
    rw [hc j (by omega)]
    have h0 : flat e L = flat e (L.take m) ++ flat e (L.drop m) := by rw [← flat_app, List.take_append_drop]
    rw [h0, List.getElem?_append_left (by rw [flat_len, hl]; exact hj)]
theorem keeps_yes {m n : Int} {L : List Bool} (hr : isRule m n = true) (h : ∀ k, k < L.length → (late n (L.take (k + 1)) : Int) ≤ m) : keeps m n L = true := by
  unfold keeps
  rw [hr, Bool.true_and, List.all_eq_true]
  intro k hk
  exact decide_eq_true (h k (List.mem_range.1 hk))
theorem keeps_no {m n : Int} {L : List Bool} {k : Nat} (hk : k < L.length) (h : ¬ (late n (L.take (k + 1)) : Int) ≤ m) : keeps m n L = false := by
  cases hq : keeps m n L with
  | false => rfl
  | true =>
    unfold keeps at hq
    rw [Bool.and_eq_true, List.all_eq_true] at hq
    exact absurd (of_decide_eq_true (hq.2 k (List.mem_range.2 hk))) h
end Go.Proofs.Ytbpiojnehomljaa.StormS

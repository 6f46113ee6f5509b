/- A part of a row, from an element on. No condition. -/
import Derived.Test.YtbpiojnehomljaaRowG
namespace Go.Proofs.Ytbpiojnehomljaa.Rg
open Go.RowKit Kit Rw
theorem flat_drop {α : Type} {e : Enc α} {L : List α} {i : Nat} (hi : i ≤ L.length) : flat e (L.drop i) = (flat e L).drop (i * e.size) := by
  have h0 : (flat e (L.take i)).length = i * e.size := by rw [flat_len, List.length_take, Nat.min_eq_left hi]
  have h1 : flat e L = flat e (L.take i) ++ flat e (L.drop i) := by rw [← flat_app, List.take_append_drop]
  rw [h1, ← h0, List.drop_left]
/-- 'v[i:]', as the walk writes it. -/
theorem seesG_from {α : Type} {e : Enc α} {w : World} {a : Option Addr} {n cap i k : Nat} {L : List α} (h : SeesG e w (.slice a n cap) L) (hi : i ≤ L.length) (hk : k = i * e.size) :
    SeesG e w (.slice (if cap = i then a else a.map (fun x => x.add k)) (n - i) (cap - i)) (L.drop i) := by
  obtain ⟨a', c, e', h1, h2, h3, h4, h5⟩ := h
  injection e' with e1 e2 e3
  subst e1; subst e2; subst e3; subst hk
  refine ⟨_, _, by rw [List.length_drop], by rw [List.length_drop]; omega, by omega, fun h => ?_, fun x hx => h4 x (List.mem_of_mem_drop hx), ?_⟩
  · have ha : a = none := by
      split at h
      · exact h
      · simpa using h
    have := h3 ha; omega
  · by_cases hlt : i < L.length
    · rcases h5 with h5 | ⟨b, o, rfl, hc⟩
      · rw [h5] at hlt; simp at hlt
      · rw [if_neg (by omega)]
        refine .inr ⟨b, o + i * e.size, by simp [Kit.add_plain], fun j hj => ?_⟩
        rw [List.length_drop] at hj
        have hm : i * e.size + j < L.length * e.size := by
          have : i * e.size + (L.length - i) * e.size = L.length * e.size := by rw [← Nat.add_mul]; congr 1; omega
          omega
        have := hc _ hm
        rw [Nat.add_assoc, this, flat_drop hi, List.getElem?_drop]
    · exact .inl (List.drop_of_length_le (by omega))
end Go.Proofs.Ytbpiojnehomljaa.Rg

/- Plain facts that the law FnCrew turns on: no program. -/
import Derived.Test.YtlfhaanpfjfmcaaSilF
namespace Go.Proofs.Ytlfhaanpfjfmcaa.Crw
open Rg Mp

theorem one_id (id : Int) (b : Bool) (m : Mem) : (setOne id b m).id = m.id := by unfold setOne; split <;> rfl
theorem one_ok (id : Int) (b : Bool) (m : Mem) : okMem (setOne id b m) = okMem m := by unfold setOne; split <;> rfl
theorem one_eats (id : Int) (b : Bool) (m : Mem) : eats (setOne id b m) = eats m := by unfold setOne; split <;> rfl
theorem ill_up {L : List Mem} {id : Int} {b : Bool} {j : Nat} (hj : j ≤ L.length) (h : upTo L j) : upTo (L.map (setOne id b)) j := fun i hi => by
  rw [ill_at (by omega), one_ok, one_id]
  refine ⟨(h i hi).1, fun h0 => ?_⟩
  rw [ill_at (by omega), one_id]
  exact (h i hi).2 h0
theorem ill_crew {L : List Mem} {id : Int} {b : Bool} (h : areCrew L = true) : areCrew (L.map (setOne id b)) = true := by
  have h1 := crew_len h
  exact crew_yes (by simpa using h1) (by rw [List.length_map]; exact ill_up (Nat.le_refl _) (crew_up h))
theorem ill_sum {L : List Mem} {id : Int} {b : Bool} : ∀ j, j ≤ L.length → sumTo eats (L.map (setOne id b)) j = sumTo eats L j
  | 0, _ => by rw [sumTo_zero, sumTo_zero]
  | j + 1, hj => by rw [sumTo_next (by simp; omega), sumTo_next (by omega), ill_sum j (by omega), ill_at (by omega), one_eats]
theorem ill_need {L : List Mem} {id : Int} {b : Bool} (h : areCrew L = true) : needOf (L.map (setOne id b)) = needOf L := by
  unfold needOf
  rw [if_pos h, if_pos (ill_crew h), List.length_map, ill_sum _ (Nat.le_refl _)]
theorem carry_le {L : List Mem} {id : Int} (h : areCrew L = true) : ∀ j, j ≤ L.length → sumTo carries (L.map (setOne id true)) j ≤ sumTo carries L j
  | 0, _ => by rw [sumTo_zero, sumTo_zero]; exact Int.le_refl _
  | j + 1, hj => by
    have h1 := carry_le (id := id) h j (by omega)
    have h2 := carries_at h (j := j) (by omega)
    rw [sumTo_next (by simp; omega), sumTo_next (by omega), ill_at (by omega)]
    have : carries (setOne id true (L.getD j dM)) ≤ carries (L.getD j dM) := by
      unfold setOne
      split
      · show carries { L.getD j dM with ill := true } ≤ _
        have : carries { L.getD j dM with ill := true } = 0 := by simp [carries]
        omega
      · exact Int.le_refl _
    omega
theorem carry_ge {L : List Mem} {id : Int} (h : areCrew L = true) : ∀ j, j ≤ L.length → sumTo carries L j ≤ sumTo carries (L.map (setOne id false)) j
  | 0, _ => by rw [sumTo_zero, sumTo_zero]; exact Int.le_refl _
  | j + 1, hj => by
    have h1 := carry_ge (id := id) h j (by omega)
    have h2 := crew_at h (j := j) (by omega)
    rw [sumTo_next (by omega), sumTo_next (by simp; omega), ill_at (by omega)]
    have : carries (L.getD j dM) ≤ carries (setOne id false (L.getD j dM)) := by
      unfold setOne
      split
      · have e : carries { L.getD j dM with ill := false } = (L.getD j dM).str := by simp [carries]
        rw [e]
        unfold carries
        split <;> omega
      · exact Int.le_refl _
    omega
theorem cap_ill {L : List Mem} {id : Int} (h : areCrew L = true) : capOf (L.map (setOne id true)) ≤ capOf L := by
  unfold capOf
  rw [if_pos h, if_pos (ill_crew h), List.length_map]
  exact carry_le h _ (Nat.le_refl _)
theorem cap_well {L : List Mem} {id : Int} (h : areCrew L = true) : capOf L ≤ capOf (L.map (setOne id false)) := by
  unfold capOf
  rw [if_pos h, if_pos (ill_crew h), List.length_map]
  exact carry_ge h _ (Nat.le_refl _)
theorem mem_healthy {L : List Mem} {x : Int} : x ∈ healthy L ↔ ∃ m ∈ L, m.ill = false ∧ m.id = x := by
  unfold healthy
  simp only [List.mem_map, List.mem_filter, Bool.not_eq_true']
  constructor
  · rintro ⟨m, ⟨h1, h2⟩, h3⟩; exact ⟨m, h1, h2, h3⟩
  · rintro ⟨m, h1, h2, h3⟩; exact ⟨m, ⟨h1, h2⟩, h3⟩
theorem healthy_ill {L : List Mem} {id : Int} {b : Bool} (h : hasId L id = true) : decide (id ∈ healthy (L.map (setOne id b))) = !b := by
  rw [Bool.eq_iff_iff, decide_eq_true_iff, mem_healthy]
  constructor
  · rintro ⟨m, hm, h1, h2⟩
    obtain ⟨m0, h0, rfl⟩ := List.mem_map.1 hm
    rw [one_id] at h2
    unfold setOne at h1
    rw [if_pos h2] at h1
    simpa using h1
  · intro hb
    obtain ⟨p, hp, he⟩ := has_at h
    have hg : L.getD p dM = L[p] := by simp [hp]
    refine ⟨setOne id b L[p], List.mem_map.2 ⟨_, List.getElem_mem hp, rfl⟩, ?_, ?_⟩
    · unfold setOne
      rw [if_pos (by rw [← hg]; exact he)]
      simpa using hb
    · rw [one_id, ← hg]; exact he
theorem best_ill (L : List Mem) : ∀ j, 0 ≤ best L j → (L.getD (best L j).toNat dM).ill = false
  | 0, h => by simp [best] at h
  | j + 1, h => by
    unfold best at h ⊢
    split
    · rename_i hc; simpa using hc.1
    · rename_i hc; rw [if_neg hc] at h; exact best_ill L j h
theorem best_none (L : List Mem) : ∀ j, best L j < 0 → ∀ i, i < j → (L.getD i dM).ill = true
  | 0, _, i, hi => by omega
  | j + 1, h, i, hi => by
    unfold best at h
    split at h
    · omega
    · rename_i hc
      have h0 := best_none L j h
      by_cases e : i = j
      · subst e
        cases hx : (L.getD i dM).ill
        · exact absurd ⟨hx, .inl h⟩ hc
        · rfl
      · exact h0 i (by omega)
theorem strong_in {L : List Mem} (h : strongest L ≠ 0) : strongest L ∈ healthy L := by
  unfold strongest at h ⊢
  split at h
  · exact absurd rfl h
  · rename_i hb
    rw [if_neg hb]
    have h1 := best_ill L L.length (by omega)
    have h2 := best_lt L L.length
    have hp : (best L L.length).toNat < L.length := by omega
    rw [mem_healthy]
    exact ⟨_, memG (d := dM) hp, h1, rfl⟩
theorem strong_zero {L : List Mem} (hc : areCrew L = true) : decide (strongest L = 0) = decide ((healthy L).length = 0) := by
  rw [decide_eq_decide]
  constructor
  · intro h
    rw [List.length_eq_zero_iff, List.eq_nil_iff_forall_not_mem]
    intro x hx
    obtain ⟨m, hm, h1, h2⟩ := mem_healthy.1 hx
    obtain ⟨i, hi, e⟩ := List.getElem_of_mem hm
    unfold strongest at h
    split at h
    · rename_i hb
      have := best_none L L.length hb i hi
      rw [show L.getD i dM = m by simp [hi, e]] at this
      rw [h1] at this
      cases this
    · have h3 := best_lt L L.length
      have := crew_at hc (j := (best L L.length).toNat) (by omega)
      omega
  · intro h
    by_cases h0 : strongest L = 0
    · exact h0
    · have := strong_in h0
      rw [List.length_eq_zero_iff] at h
      rw [h] at this
      cases this
theorem need_crew (L : List Mem) : decide (0 < needOf L) = areCrew L := by
  cases h : areCrew L
  · rw [needOf_zero h]; rfl
  · exact decide_eq_true (needOf_pos h)
end Go.Proofs.Ytlfhaanpfjfmcaa.Crw

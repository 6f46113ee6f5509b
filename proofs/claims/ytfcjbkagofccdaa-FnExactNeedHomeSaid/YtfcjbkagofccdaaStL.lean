/- Plain facts that the law FnStorms turns on: no program. -/
import Derived.Test.YtfcjbkagofccdaaRing
namespace Go.Proofs.Ytfcjbkagofccdaa.Stm

theorem worstOf_no {m n k : Int} {L : List Bool} (h : ¬ (isRule m n = true ∧ 0 ≤ k ∧ k ≤ 200)) : worstOf m n L k = -1 := by
  unfold worstOf; exact if_neg (fun h' => h ⟨h'.1, h'.2.1, h'.2.2.1⟩)
theorem worstOf_yes {m n k : Int} {L : List Bool} (hr : isRule m n = true) (h0 : 0 ≤ k) (h1 : k ≤ 200) (hl : L.length ≤ 400) : worstOf m n L k = (worst m.toNat n.toNat L k.toNat : Int) := by
  unfold worstOf; exact if_pos ⟨hr, h0, h1, hl⟩
theorem worstOf_ge {m n k : Int} {L : List Bool} (hr : isRule m n = true) (h0 : 0 ≤ k) (h1 : k ≤ 200) (hl : L.length ≤ 400) : k ≤ worstOf m n L k := by
  rw [worstOf_yes hr h0 h1 hl]
  obtain ⟨M, N, rfl, rfl, hM, hN⟩ := rule_nat hr
  have := worst_ge (m := M) (n := N) hM hN (mu L k.toNat) L k.toNat (Nat.le_refl _)
  simp only [Int.toNat_natCast]
  omega
theorem worstOf_high {m n k : Int} {L : List Bool} (h1 : k ≤ 201) : worstOf m n L k ≤ 5000 := by
  unfold worstOf
  split
  · have := worst_le m.toNat n.toNat L k.toNat; omega
  · omega
theorem worstOf_low (m n k : Int) (L : List Bool) : -1 ≤ worstOf m n L k := by
  unfold worstOf; split <;> omega
theorem worstOf_day {m n k : Int} {L : List Bool} (hr : isRule m n = true) (h0 : 0 < k) (h1 : k ≤ 200) (hl : L.length ≤ 399) : worstOf m n (L ++ [false]) (k - 1) ≤ worstOf m n L k - 1 := by
  rw [worstOf_yes hr (by omega) h1 (by omega), worstOf_yes hr (by omega) (by omega) (by simp; omega)]
  obtain ⟨M, N, rfl, rfl, hM, hN⟩ := rule_nat hr
  have := worst_day (m := M) (n := N) (L := L) (k := k.toNat) hM hN (by omega)
  simp only [Int.toNat_natCast]
  rw [show (k - 1).toNat = k.toNat - 1 by omega]
  omega
theorem worstOf_storm {m n k : Int} {L : List Bool} (hr : isRule m n = true) (h0 : 0 < k) (h1 : k ≤ 200) (hl : L.length ≤ 399) (hs : mayStorm m n L = true) : worstOf m n (L ++ [true]) k = worstOf m n L k - 1 := by
  have e1 := worstOf_yes (L := L) hr (Int.le_of_lt h0) h1 (by omega)
  have e2 := worstOf_yes (L := L ++ [true]) hr (Int.le_of_lt h0) h1 (by simp; omega)
  rw [e1, e2]
  obtain ⟨M, N, rfl, rfl, hM, hN⟩ := rule_nat hr
  have := worst_storm (m := M) (n := N) (L := L) (k := k.toNat) hM hN (by omega) (by rw [← mayStorm_may hr]; exact hs)
  simp only [Int.toNat_natCast]
  omega
theorem worstOf_add {m n k : Int} {L : List Bool} (hr : isRule m n = true) (h0 : 0 < k) (h1 : k ≤ 200) (hl : L.length ≤ 399) : worstOf m n (addDay L false) (k - 1) = worstOf m n (L ++ [false]) (k - 1) := by
  have h2 := addDay_len L false
  rw [worstOf_yes hr (by omega) (by omega) (by omega), worstOf_yes hr (by omega) (by omega) (by simp; omega)]
  obtain ⟨M, N, rfl, rfl, hM, hN⟩ := rule_nat hr
  simp only [Int.toNat_natCast]
  rw [worst_alike (m := M) (n := N) hM hN (fun j hj => lastN_addDay L false (by omega))]
theorem rule_of_worst {m n k : Int} {L : List Bool} (h : 0 < worstOf m n L k) : isRule m n = true ∧ 0 ≤ k ∧ k ≤ 200 := by
  by_cases h' : isRule m n = true ∧ 0 ≤ k ∧ k ≤ 200
  · exact h'
  · rw [worstOf_no h'] at h; omega
theorem worst_pos {m n k : Int} {L : List Bool} (h : 0 < worstOf m n L k) : 0 < k := by
  have h2 := rule_of_worst h
  by_cases hk : k = 0
  · subst hk
    unfold worstOf at h
    split at h
    · simp [worst_zero] at h
    · omega
  · omega

theorem keeps_next (m n : Int) (L : List Bool) (s : Bool) : keeps m n (L ++ [s]) = (keeps m n L && decide ((late n (L ++ [s]) : Int) ≤ m)) := by
  unfold keeps
  rw [List.length_append, List.length_singleton, List.range_succ, List.all_append, ← Bool.and_assoc]
  congr 1
  · congr 1
    rw [Bool.eq_iff_iff]
    simp only [List.all_eq_true, List.mem_range, decide_eq_true_eq]
    constructor <;> intro h i hi <;> have := h i hi <;> rwa [List.take_append_of_le_length (by omega)] at *
  · simp only [List.all_cons, List.all_nil, Bool.and_true]
    rw [List.take_of_length_le (by simp)]
theorem keeps_rule {m n : Int} {L : List Bool} (h : keeps m n L = true) : isRule m n = true := by
  unfold keeps at h; simp only [Bool.and_eq_true] at h; exact h.1
theorem keeps_late {m n : Int} {L : List Bool} (h : keeps m n L = true) : (late n L : Int) ≤ m := by
  match hL : L.length with
  | 0 =>
    have hn : L = [] := List.eq_nil_of_length_eq_zero hL
    have hr := keeps_rule h
    unfold isRule at hr
    simp at hr
    subst hn
    simp [late, storms]
    omega
  | j + 1 =>
    unfold keeps at h
    simp only [Bool.and_eq_true, List.all_eq_true, List.mem_range, decide_eq_true_eq] at h
    have := h.2 j (by omega)
    rwa [List.take_of_length_le (by omega)] at this
theorem keeps_true {m n : Int} {L : List Bool} (h : keeps m n L = true) : keeps m n (L ++ [true]) = mayStorm m n L := by
  have hr := keeps_rule h
  rw [keeps_next, h, Bool.true_and]
  obtain ⟨M, N, rfl, rfl, hM, hN⟩ := rule_nat hr
  rw [mayStorm_may hr, late_lastN]
  unfold may
  obtain ⟨k, rfl⟩ : ∃ k, N = k + 1 := ⟨N - 1, by omega⟩
  rw [lastN_next, Nat.add_sub_cancel]
  exact decide_eq_decide.2 (by simp; omega)
theorem keeps_false {m n : Int} {L : List Bool} (h : keeps m n L = true) : keeps m n (L ++ [false]) = true := by
  have hr := keeps_rule h
  have hk := keeps_late h
  rw [keeps_next, h, Bool.true_and]
  obtain ⟨M, N, rfl, rfl, hM, hN⟩ := rule_nat hr
  rw [late_lastN] at hk ⊢
  obtain ⟨k, rfl⟩ : ∃ k, N = k + 1 := ⟨N - 1, by omega⟩
  have := lastN_mono (show k ≤ k + 1 by omega) L
  rw [lastN_next]
  simp only [decide_eq_true_eq]
  simp
  omega
theorem addDay_pos (L : List Bool) (s : Bool) : 0 < (addDay L s).length := by unfold addDay; simp; omega
theorem addDay_last (L : List Bool) (s : Bool) : (addDay L s).getD ((addDay L s).length - 1) false = s := by
  unfold addDay
  rw [List.drop_append_of_le_length (by omega), List.getD_eq_getElem?_getD, List.length_append, List.length_singleton, Nat.add_sub_cancel, List.getElem?_append_right (Nat.le_refl _)]
  simp
theorem addDay_calm (L : List Bool) (s : Bool) : (calm (addDay L s) = 0) = (s = true) := by
  unfold addDay calm
  rw [List.drop_append_of_le_length (by omega), List.reverse_append]
  cases s <;> simp
end Go.Proofs.Ytfcjbkagofccdaa.Stm

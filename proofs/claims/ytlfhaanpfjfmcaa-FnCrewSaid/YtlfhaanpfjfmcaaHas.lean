/- Contract of the laws' 'contains': is a number one of a list. -/
import Derived.Test.YtlfhaanpfjfmcaaMBase
namespace Go.Proofs.Ytlfhaanpfjfmcaa.Same
open Go.RowKit Kit Rw

set_option maxHeartbeats 1000000 in
theorem has_any (w : World) (u : Value) (x : Int) (L : List Int) (hu : Sees .i64 w u L) :
    Calls Try.prog 14 #[u, .int .i64 x] w fun e w' => e = .returned (.bool (decide (x ∈ L))) ∧ w' = w := by
  have hl := hu.len
  obtain ⟨a, n, cap, rfl, HN⟩ := hu.shape
  have HU := Lib.hid hu
  have hl2 : n ≤ 9223372036854775807 := by rw [← HN.out]; exact hl
  clear hu hl
  go_enter Try.func14, Try.ntmps14
  go_wp2
  go_loop [5] (fun i => ∃ j : Nat, j ≤ n ∧ i = .int .i64 j ∧ Hid (∀ m, m < j → L.getD m 0 ≠ x)) (fun i => n - (intOf i).toNat)
  case atStart => exact ⟨0, Nat.zero_le _, rfl, fun m hm => absurd hm (Nat.not_lt_zero _)⟩
  case round =>
    obtain ⟨j, hj, rfl, HE⟩ := hrel
    by_cases hlt : j < n
    · obtain ⟨y, hy⟩ : ∃ y, y = L.getD j 0 := ⟨_, rfl⟩
      obtain ⟨b, o, rfl, hcj⟩ := HU.out.at_row (j := j) (by rw [HN.out]; exact hlt)
      rw [← hy] at hcj
      have HY := Lib.hid hy
      clear hy
      by_cases hne : y = x
      · have hm : x ∈ L := by
          rw [← hne, HY.out]; exact mem_getD (by rw [HN.out]; exact hlt)
        have HM : Hid (decide (x ∈ L) = true) := by show _ = _; simpa using hm
        clear hm
        go_wp2
        go_ret
        exact ⟨ret_bool HM.out.symm, rfl⟩
      · go_wp2
        go_round
        case rel =>
          refine ⟨j + 1, by omega, by go_num, fun m hm => ?_⟩
          by_cases h : m = j
          · subst h; rw [← HY.out]; exact hne
          · exact HE.out m (by omega)
        case measure => simp [intOf]; omega
    · have hjn : n = j := by omega
      subst hjn
      have hm : ¬ x ∈ L := by
        intro h
        obtain ⟨j, hj, e⟩ := List.getElem_of_mem h
        exact HE.out j (by rw [← HN.out]; exact hj) (by simp [hj, e])
      have HM : Hid (decide (x ∈ L) = false) := by show _ = _; simpa using hm
      clear hm
      go_wp2
      go_ret
      exact ⟨ret_bool HM.out.symm, rfl⟩
end Go.Proofs.Ytlfhaanpfjfmcaa.Same

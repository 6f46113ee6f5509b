/- Contracts of slices.Index and slices.Contains over ints, in the program's own walk. -/
import Derived.Test.YtochohoihmfanaaMBase
import Derived.IntWalk
import Derived.WalkKit
namespace Go.Proofs.Ytochohoihmfanaa.Cont
open Go.RowKit Kit Rw Md

theorem mem_getD {L : List Int} {j : Nat} (h : j < L.length) : L.getD j 0 ∈ L := by
  rw [show L.getD j 0 = L[j] by simp [h]]; exact List.getElem_mem h
theorem ret_bool {a b : Bool} (h : a = b) : Ending.returned (.bool a) = .returned (.bool b) := by rw [h]
set_option maxRecDepth 20000 in
set_option maxHeartbeats 1000000 in
theorem index_neg (w : World) (u : Value) (x : Int) (L : List Int) (hu : Sees .i64 w u L) :
    Calls Try.prog 118 #[u, .int .i64 x] w fun e w' => ∃ p, e = .returned (.int .i64 p) ∧ (0 ≤ p ↔ x ∈ L) ∧ w = w' := by
  have hl := hu.len
  obtain ⟨a, n, cap, rfl, HN⟩ := hu.shape
  have HU := Lib.hid hu
  have hl2 : n ≤ 9223372036854775807 := by rw [← HN.out]; exact hl
  clear hu hl
  go_enter Try.func118, Try.ntmps118
  go_wp2
  go_loop [8] (fun i => ∃ j : Nat, j ≤ n ∧ i = .int .i64 j ∧ Hid (∀ m, m < j → L.getD m 0 ≠ x)) (fun i => n - (intOf i).toNat)
  case atStart => exact ⟨0, Nat.zero_le _, rfl, fun m hm => absurd hm (Nat.not_lt_zero _)⟩
  case round =>
    obtain ⟨j, hj, rfl, HE⟩ := hrel
    by_cases hlt : j < n
    · obtain ⟨y, hy⟩ : ∃ y, y = L.getD j 0 := ⟨_, rfl⟩
      obtain ⟨b, o, rfl, hcj⟩ := HU.out.at_row (j := j) (by rw [HN.out]; exact hlt)
      rw [← hy] at hcj
      have HY := Lib.hid hy
      clear hy
      by_cases hne : x = y
      · have HR : Hid (x ∈ L) := by show _ ∈ _; rw [hne, HY.out]; exact mem_getD (by rw [HN.out]; exact hlt)
        subst hne
        go_wp2
        go_ret
        exact ⟨_, rfl, ⟨fun _ => HR.out, fun _ => by omega⟩, rfl⟩
      · go_wp2
        go_round
        case rel =>
          refine ⟨j + 1, by omega, by go_num, fun m hm => ?_⟩
          by_cases h : m = j
          · subst h; rw [← HY.out]; exact fun e => hne e.symm
          · exact HE.out m (by omega)
        case measure => simp [intOf]; omega
    · have hjn : n = j := by omega
      subst hjn
      have HM : Hid (¬ x ∈ L) := by
        intro h
        obtain ⟨j, hj, e⟩ := List.getElem_of_mem h
        exact HE.out j (by rw [← HN.out]; exact hj) (by simp [hj, e])
      go_wp2
      go_ret
      exact ⟨_, rfl, ⟨fun h => by omega, fun h => absurd h HM.out⟩, rfl⟩

set_option maxHeartbeats 400000 in
theorem contains_any (w : World) (u : Value) (x : Int) (L : List Int) (hu : Sees .i64 w u L) :
    Calls Try.prog 75 #[u, .int .i64 x] w fun e w' => e = .returned (.bool (decide (x ∈ L))) ∧ w = w' := by
  have HI := Lib.hid (index_neg w u x L hu)
  go_enter Try.func75, Try.ntmps75
  go_wp2_with fail
  refine HI.out.mono ?_
  rintro e w2 ⟨p, rfl, hp, rfl⟩
  have HP : Hid (decide (0 ≤ p) = decide (x ∈ L)) := by show _ = _; rw [Bool.eq_iff_iff]; simpa using hp
  clear hp
  go_wp2
  go_ret
  exact ⟨ret_bool HP.out, rfl⟩
end Go.Proofs.Ytochohoihmfanaa.Cont

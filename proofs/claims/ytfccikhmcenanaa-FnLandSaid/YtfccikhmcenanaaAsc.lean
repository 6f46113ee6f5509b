/- Contract of the laws' 'ascends', of a list that does. -/
import Derived.Test.YtfccikhmcenanaaBox
import Derived.Deep.QuietTactic
import Derived.BigQuiet
import Derived.IntWalk
namespace Go.Proofs.Ytfccikhmcenanaa.Same
open Go.RowKit Kit Rw

theorem pair_lt {L : List Int} (h : L.Pairwise (· < ·)) {j : Nat} (h0 : 0 < j) (hj : j < L.length) : L.getD (j - 1) 0 < L.getD j 0 := by
  have := List.pairwise_iff_getElem.1 h (j - 1) j (by omega) hj (by omega)
  simpa [hj, show j - 1 < L.length by omega] using this
set_option maxHeartbeats 1000000 in
theorem asc_any (w : World) (u : Value) (L : List Int) (hu : Sees .i64 w u L) (hp : L.Pairwise (· < ·)) :
    Calls Try.prog 23 #[u] w fun e w' => e = .returned (.bool true) ∧ w.grownBy w' none := by
  have hl := hu.len
  obtain ⟨a, n, cap, rfl, HN⟩ := hu.shape
  have HU := Lib.hid hu
  have HP := Lib.hid hp
  have hl2 : n ≤ 9223372036854775807 := by rw [← HN.out]; exact hl
  clear hu hl hp
  go_enter Try.func23, Try.ntmps23
  go_wp2
  go_loopw [3] (fun i wr => ∃ j : Nat, 0 < j ∧ j ≤ n + 1 ∧ i = .int .i64 j ∧ Hid (w.grownBy wr none)) (fun i _ => n + 1 - (intOf i).toNat)
  case atStart => exact ⟨1, by omega, by omega, rfl, World.grownBy.refl _ _⟩
  case round =>
    obtain ⟨j, h0, hj, rfl, HG⟩ := hrel
    by_cases hlt : j < n
    · obtain ⟨k, hk⟩ : ∃ k, j = k + 1 := ⟨j - 1, by omega⟩
      subst hk
      have hs := HU.out.grown HG.out
      obtain ⟨b, o, rfl, hc1⟩ := hs.at_row (j := k + 1) (by rw [HN.out]; exact hlt)
      have hc0 := hs.at' (j := k) (by rw [HN.out]; omega)
      have hlt2 := pair_lt HP.out h0 (by rw [HN.out]; exact hlt)
      rw [Nat.add_sub_cancel] at hlt2
      generalize L.getD (k + 1) 0 = y at *
      generalize L.getD k 0 = x at *
      have hw : IntKind.i64.wrap (((k + 1 : Nat) : Int) - 1) = (k : Int) := by rw [IntWalk.i64_in _ (by omega)]; omega
      clear hs
      go_wp2
      go_quiet (fail)
      clear hw
      go_wp2
      go_roundw
      case rel => exact ⟨k + 2, by omega, by omega, by go_num, grown_drewN HG.out _⟩
      case measure => simp [intOf]; omega
    · go_wp2
      go_ret
      exact ⟨rfl, HG.out⟩
end Go.Proofs.Ytfccikhmcenanaa.Same

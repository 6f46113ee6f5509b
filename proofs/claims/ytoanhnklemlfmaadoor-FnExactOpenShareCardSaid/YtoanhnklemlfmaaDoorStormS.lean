/- Contracts of the model's functions of chapter 6. -/
import Derived.Test.YtoanhnklemlfmaaDoorStF
import Derived.Test.YtoanhnklemlfmaaDoorRowD
import Derived.IntWalk
import Derived.Deep.RegionWith
import Derived.Deep.QuietTactic
import Derived.BigQuiet
namespace Go.Proofs.YtoanhnklemlfmaaDoor.StormS
open Go.RowKit Kit Rw Rg Stm Md

set_option maxHeartbeats 1000000 in
theorem sStorms_any (w : World) (v : Value) (L : List Bool) (hv : SeesG encB w v L) :
    Calls Tryd.prog 97 #[v] w fun e w' => e = .returned (.int .i64 (storms L)) ∧ w = w' := by
  have hl := hv.len
  have HV := Lib.hid hv
  obtain ⟨a, cap, rfl, _⟩ := hv
  go_enter Tryd.func97, Tryd.ntmps97
  go_wp2
  go_loop [3, 4] (fun s i => ∃ j : Nat, j ≤ L.length ∧ i = .int .i64 j ∧ s = .int .i64 (storms (L.take j))) (fun _ i => L.length - (intOf i).toNat)
  case atStart => exact ⟨0, Nat.zero_le _, rfl, by simp [storms]⟩
  case round =>
    obtain ⟨j, hj, rfl, rfl⟩ := hrel
    obtain ⟨y, hy⟩ : ∃ y, y = storms (L.take j) := ⟨_, rfl⟩
    have hyj : y ≤ j := by rw [hy]; exact Nat.le_trans (storms_le _) (by simp; omega)
    rw [← hy]
    have HY := Lib.hid hy
    clear hy
    by_cases hlt : j < L.length
    · obtain ⟨x, hx⟩ : ∃ x, x = L.getD j false := ⟨_, rfl⟩
      obtain ⟨b, o, rfl, hb, hcj⟩ := HV.out.at_rowB hlt
      have HN := Lib.hid (storms_next hlt)
      rw [← hx] at hcj
      have HX := Lib.hid hx
      clear hx hb
      cases x
      · go_wp2
        go_round
        case rel => exact ⟨j + 1, by omega, by go_num, by rw [HN.out, ← HY.out, ← HX.out]; go_num⟩
        case measure => simp [intOf]; omega
      · go_wp2
        go_round
        case rel => exact ⟨j + 1, by omega, by go_num, by rw [HN.out, ← HY.out, ← HX.out]; go_num⟩
        case measure => simp [intOf]; omega
    · have : j = L.length := by omega
      subst this
      go_wp2
      go_ret
      exact ⟨ret_i64 (by rw [HY.out, List.take_length]), rfl⟩

theorem two {w : World} {b : Nat} {x y : Value} {T : TypeId} (h : Box w b #[x, y] T) : w.cell? ⟨b, 0, none⟩ = some x ∧ w.cell? ⟨b, 1, none⟩ = some y := ⟨h.cell 0, h.cell 1⟩
def mx (a b : Int) : Int := if a < b then b else a
theorem sMax_any (a b : Int) (w : World) :
    Calls Tryd.prog 120 #[.int .i64 a, .int .i64 b] w fun e w' => e = .returned (.int .i64 (mx a b)) ∧ w = w' := by
  by_cases h : a < b
  · have hm : mx a b = b := if_pos h
    rw [hm]
    go_enter Tryd.func120, Tryd.ntmps120
    go_wp2
    go_ret
    exact ⟨rfl, rfl⟩
  · have hm : mx a b = a := if_neg h
    rw [hm]
    go_enter Tryd.func120, Tryd.ntmps120
    go_wp2
    go_ret
    exact ⟨rfl, rfl⟩
theorem wrap_after {l n : Int} (h0 : 0 ≤ l) (h1 : l ≤ 9223372036854775807) (hn : 1 ≤ n ∧ n ≤ 10) : ∃ y, IntKind.i64.wrap (l + 1) = y ∧ IntKind.i64.wrap (y - n) = l + 1 - n := by
  by_cases h : l ≤ 9223372036854775806
  · exact ⟨l + 1, IntWalk.i64_in _ (by omega), IntWalk.i64_in _ (by omega)⟩
  · have : l = 9223372036854775807 := by omega
    subst this
    refine ⟨-9223372036854775808, by decide, ?_⟩
    obtain ⟨h2, h3⟩ := hn
    have : n = 1 ∨ n = 2 ∨ n = 3 ∨ n = 4 ∨ n = 5 ∨ n = 6 ∨ n = 7 ∨ n = 8 ∨ n = 9 ∨ n = 10 := by omega
    rcases this with rfl | rfl | rfl | rfl | rfl | rfl | rfl | rfl | rfl | rfl <;> decide
end Go.Proofs.YtoanhnklemlfmaaDoor.StormS

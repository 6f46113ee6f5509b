/- Contracts of the program's functions of chapter 6: its ring of days in memory, and what is asked of it. -/
import Derived.Test.YtoanhnklemlfmaaDoorRowE
import Derived.Test.YtoanhnklemlfmaaDoorRing
import Derived.Test.YtoanhnklemlfmaaDoorStormS
import Derived.IntWalk
import Derived.RegionTactic
import Derived.ChangeAlike
import Derived.BigRegion
import Derived.Deep.QuietTactic
import Derived.BigQuiet
namespace Go.Proofs.YtoanhnklemlfmaaDoor.StI
open Go.RowKit Kit Rw Rg Stm Md StormS

set_option maxHeartbeats 1000000 in
theorem iStorms_any (w : World) (v : Value) (L : List Bool) (hv : SeesG encB w v L) :
    Calls Tryd.prog 100 #[v] w fun e w' => e = .returned (.int .i64 (storms L)) ∧ w = w' := by
  have hl := hv.len
  have HV := Lib.hid hv
  obtain ⟨a, cap, rfl, _⟩ := hv
  go_enter Tryd.func100, Tryd.ntmps100
  go_wp2
  go_loop [3, 8] (fun s i => ∃ j : Nat, j ≤ L.length ∧ i = .int .i64 j ∧ s = .int .i64 (storms (L.take j))) (fun _ i => L.length - (intOf i).toNat)
  case atStart => exact ⟨0, Nat.zero_le _, rfl, by simp [storms]⟩
  case round =>
    obtain ⟨j, hj, rfl, rfl⟩ := hrel
    obtain ⟨y, hy⟩ : ∃ y, y = storms (L.take j) := ⟨_, rfl⟩
    have hyj : y ≤ j := by rw [hy]; exact Nat.le_trans (storms_le _) (by simp; omega)
    rw [← hy]
    have HY := Lib.hid hy
    clear hy
    by_cases hlt : j < L.length
    · obtain ⟨x, hx⟩ : ∃ x, x = L.getD j false := ⟨_, rfl⟩
      obtain ⟨b, o, rfl, hb, hcj⟩ := HV.out.at_rowB hlt
      have HN := Lib.hid (storms_next hlt)
      rw [← hx] at hcj
      have HX := Lib.hid hx
      clear hx hb
      cases x
      · go_wp2
        go_round
        case rel => exact ⟨j + 1, by omega, by go_num, by rw [HN.out, ← HY.out, ← HX.out]; go_num⟩
        case measure => simp [intOf]; omega
      · go_wp2
        go_round
        case rel => exact ⟨j + 1, by omega, by go_num, by rw [HN.out, ← HY.out, ← HX.out]; go_num⟩
        case measure => simp [intOf]; omega
    · have : j = L.length := by omega
      subst this
      go_wp2
      go_ret
      exact ⟨ret_i64 (by rw [HY.out, List.take_length]), rfl⟩

theorem four {w : World} {b : Nat} {x y z u : Value} {T : TypeId} (h : Box w b #[x, y, z, u] T) : w.cell? ⟨b, 0, none⟩ = some x ∧ w.cell? ⟨b, 1, none⟩ = some y ∧ w.cell? ⟨b, 2, none⟩ = some z ∧ w.cell? ⟨b, 3, none⟩ = some u := ⟨h.cell 0, h.cell 1, h.cell 2, h.cell 3⟩
theorem rem_nat {n t : Nat} (ht : t < n) (hn : n ≤ 10) : IntKind.i64.wrap (((t : Int) + 1).tmod (n : Int)) = (((t + 1) % n : Nat) : Int) := by
  rw [show (t : Int) + 1 = ((t + 1 : Nat) : Int) by omega, ← Int.ofNat_tmod (t + 1) n]
  have h := Nat.mod_lt (t + 1) (show 0 < n by omega)
  obtain ⟨q, hq⟩ : ∃ q, q = (t + 1) % n := ⟨_, rfl⟩
  rw [← hq] at h ⊢
  exact IntWalk.i64_in _ (by omega)

theorem info_bool : (Tryd.prog.info? 4).map (fun i => (i.zero, i.size, i.bytes)) = some (some (.bool false), 1, 1) := by kernel_rfl

end Go.Proofs.YtoanhnklemlfmaaDoor.StI

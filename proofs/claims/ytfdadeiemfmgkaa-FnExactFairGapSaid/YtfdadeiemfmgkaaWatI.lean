/- Contracts of the program's ring of watches. -/
import Derived.Test.YtfdadeiemfmgkaaWatF
import Derived.Test.YtfdadeiemfmgkaaCrI
import Derived.Test.YtfdadeiemfmgkaaCrH
import Derived.Test.YtfdadeiemfmgkaaTwo
import Derived.Test.YtfdadeiemfmgkaaMo
namespace Go.Proofs.Ytfdadeiemfmgkaa.WatI
open Go.RowKit Kit Rw Rg Crw Wat Tw

set_option maxRecDepth 20000 in
set_option maxHeartbeats 1000000 in
theorem ring_any (w : World) (v : Value) (L : List Mem) (hv : SeesG encM w v L) (hn : L.length ≤ 1000000000) :
    Calls Try.prog 59 #[v] w fun e w' => ∃ u, e = .returned u ∧ Own .i64 3 w' w.heap.size u (ring L) ∧ w.grownBy w' none := by
  have HA := Lib.hid (CrI.iAreCrew_any w v L hv)
  have HV := Lib.hid hv
  go_enter Try.func59, Try.ntmps59
  go_wp2_with fail
  refine HA.out.mono ?_
  rintro e w2 ⟨rfl, hg⟩
  have HG := Lib.hid hg
  have hvg := hv.grown hg
  clear hg hv
  cases hc : areCrew L
  · have HE : Hid (ring L = []) := by show _ = _; unfold ring; rw [hc]; rfl
    clear hc
    have HW : Hid (Own .i64 3 (w2.alloc (.cells #[] 3 (0, 0))) w2.heap.size (.slice (some ⟨w2.heap.size, 0, none⟩) 0 0) []) := own_empty w2
    have HGA := Lib.hid (World.grownBy_alloc w2 (.cells #[] 3 (0, 0)) none)
    go_wp2
    go_ret
    exact ⟨_, rfl, by rw [HE.out]; exact HW.out.lower HG.out.size, grownN_trans HG.out HGA.out⟩
  · have HE : Hid (ring L = healthy L) := by show _ = _; unfold ring; rw [if_pos hc]
    clear hc
    have HH := Lib.hid (CrH.iHealthy_any w2 v L hvg hn)
    clear hvg
    go_wp2_with fail
    refine HH.out.mono ?_
    rintro e w3 ⟨u, rfl, ho, hg⟩
    have HO := Lib.hid (ho.lower HG.out.size)
    have HG3 := Lib.hid (grownN_trans HG.out hg)
    clear ho hg
    go_wp2
    go_ret
    exact ⟨_, rfl, by rw [HE.out]; exact HO.out, HG3.out⟩

set_option maxRecDepth 20000 in
set_option maxHeartbeats 1000000 in
theorem index_any (w : World) (u : Value) (x : Int) (L : List Int) (hu : Sees .i64 w u L) :
    Calls Try.prog 87 #[u, .int .i64 x] w fun e w' => e = .returned (.int .i64 (place L x 0)) ∧ w' = w := by
  have hl := hu.len
  obtain ⟨a, n, cap, rfl, HN⟩ := hu.shape
  have HU := Lib.hid hu
  have hl2 : n ≤ 9223372036854775807 := by rw [← HN.out]; exact hl
  clear hu hl
  go_enter Try.func87, Try.ntmps87
  go_wp2
  go_loop [8] (fun i => ∃ j : Nat, j ≤ n ∧ i = .int .i64 j ∧ Hid (∀ m, m < j → L.getD m 0 ≠ x)) (fun i => n - (intOf i).toNat)
  case atStart => exact ⟨0, Nat.zero_le _, rfl, fun m hm => absurd hm (Nat.not_lt_zero _)⟩
  case round =>
    obtain ⟨j, hj, rfl, HE⟩ := hrel
    by_cases hlt : j < n
    · obtain ⟨y, hy⟩ : ∃ y, y = L.getD j 0 := ⟨_, rfl⟩
      obtain ⟨b, o, rfl, hcj⟩ := HU.out.at_row (j := j) (by rw [HN.out]; exact hlt)
      rw [← hy] at hcj
      have HY := Lib.hid hy
      clear hy
      by_cases hne : x = y
      · have HR : Hid (place L x 0 = (j : Int)) := by show _ = _; rw [place_hit (j := j) (by rw [HN.out]; exact hlt) (by rw [← HY.out, hne]) HE.out, Nat.zero_add]
        subst hne
        go_wp2
        go_ret
        exact ⟨ret_i64 HR.out.symm, rfl⟩
      · go_wp2
        go_round
        case rel =>
          refine ⟨j + 1, by omega, by go_num, fun m hm => ?_⟩
          by_cases h : m = j
          · subst h; rw [← HY.out]; exact fun e => hne e.symm
          · exact HE.out m (by omega)
        case measure => simp [intOf]; omega
    · have hjn : n = j := by omega
      subst hjn
      have HR : Hid (place L x 0 = -1) := by show _ = _; exact place_miss (fun m hm => HE.out m (by rw [← HN.out]; exact hm))
      go_wp2
      go_ret
      exact ⟨ret_i64 HR.out.symm, rfl⟩

def tF (h : List Int) (id : Int) : Int := if 0 ≤ place h id 0 then place h id 0 else 0
def tR (h : List Int) (id : Int) : Int := if 0 ≤ place h id 0 then h.length else 0
set_option maxRecDepth 20000 in
set_option maxHeartbeats 1000000 in
theorem turnOf_any (w : World) (u : Value) (x : Int) (L : List Int) (hu : Sees .i64 w u L) :
    Calls Try.prog 62 #[u, .int .i64 x] w fun e w' => e = .returned (.tuple #[.agg #[.int .i64 (tF L x), .int .i64 (tR L x)], .bool (decide (0 ≤ place L x 0))]) ∧ w.grownBy w' none := by
  have hg := World.grownBy_alloc w (.cells #[.int .i64 0, .int .i64 0] 78 (0, 0)) (none : Option Nat)
  have HB := Lib.hid (box_new w #[.int .i64 0, .int .i64 0] 78)
  have HI := Lib.hid (index_any _ u x L (hu.grown hg))
  have HG := Lib.hid hg
  obtain ⟨a, n, cap, rfl, HN⟩ := hu.shape
  clear hu hg
  go_enter Try.func62, Try.ntmps62
  go_wp2_with fail
  refine HI.out.mono ?_
  rintro e w2 ⟨rfl, rfl⟩
  by_cases hp : place L x 0 < 0
  · have HR : Hid (tF L x = 0 ∧ tR L x = 0 ∧ decide (0 ≤ place L x 0) = false) := ⟨by unfold tF; rw [if_neg (by omega)], by unfold tR; rw [if_neg (by omega)], decide_eq_false (by omega)⟩
    go_wp2
    try simp only [Exit.inBlock, Exit.then]
    exact ret_box1 rfl rfl (box_new w #[.int .i64 0, .int .i64 0] 78) Try.underlying78 rfl (by kernel_rfl) rfl ⟨by rw [HR.out.1, HR.out.2.1, HR.out.2.2]; rfl, World.grownBy_alloc _ _ _⟩
  · have HR : Hid (tF L x = place L x 0 ∧ tR L x = n ∧ decide (0 ≤ place L x 0) = true) := ⟨by unfold tF; rw [if_pos (by omega)], by unfold tR; rw [if_pos (by omega), HN.out], decide_eq_true (by omega)⟩
    go_wp2
    try simp only [Exit.inBlock, Exit.then]
    exact ret_box1 rfl rfl (box_new w #[.int .i64 (place L x 0), .int .i64 n] 78) Try.underlying78 rfl (by kernel_rfl) rfl ⟨by rw [HR.out.1, HR.out.2.1, HR.out.2.2]; rfl, World.grownBy_alloc _ _ _⟩

set_option maxRecDepth 20000 in
set_option maxHeartbeats 1000000 in
theorem next_any (w : World) (n p : Nat) (hour : Int) (h8 : n ≤ 8) (h0 : 0 < n) (hp : p < n) (hh : 0 ≤ hour ∧ hour ≤ 100001) :
    Calls Try.prog 66 #[.agg #[.int .i64 p, .int .i64 n], .int .i64 hour] w fun e w' => e = .returned (.int .i64 (nxt n p hour)) ∧ w.grownBy w' none := by
  have hg := World.grownBy_alloc w (.cells #[.int .i64 p, .int .i64 n] 78 (0, 0)) (none : Option Nat)
  obtain ⟨c0, c1⟩ := two (box_new w #[.int .i64 p, .int .i64 n] 78)
  have HM := Lib.hid (Md.mod_any ((p : Int) - hour) n (w.alloc (.cells #[.int .i64 p, .int .i64 n] 78 (0, 0))) (by omega) (by omega))
  have HB := nxt_bd h8 h0 p hour
  have HG := Lib.hid hg
  obtain ⟨m, hm⟩ : ∃ m, m = ((p : Int) - hour) % (n : Int) := ⟨_, rfl⟩
  have HR : Hid (nxt n p hour = hour + m) := by show _ = _; rw [hm]; rfl
  rw [HR.out] at HB
  rw [← hm] at HM
  clear hg hm
  go_enter Try.func66, Try.ntmps66
  go_wp2_with fail
  refine HM.out.mono ?_
  rintro e w2 ⟨rfl, rfl⟩
  go_wp2
  go_ret
  exact ⟨ret_i64 HR.out.symm, HG.out⟩
set_option maxRecDepth 20000 in
set_option maxHeartbeats 1000000 in
theorem last_any (w : World) (n p : Nat) (hour : Int) (h8 : n ≤ 8) (h0 : 0 < n) (hp : p < n) (hh : 0 ≤ hour ∧ hour ≤ 100001) :
    Calls Try.prog 71 #[.agg #[.int .i64 p, .int .i64 n], .int .i64 hour] w fun e w' => e = .returned (.int .i64 (lst n p hour)) ∧ w.grownBy w' none := by
  have hg := World.grownBy_alloc w (.cells #[.int .i64 p, .int .i64 n] 78 (0, 0)) (none : Option Nat)
  obtain ⟨c0, c1⟩ := two (box_new w #[.int .i64 p, .int .i64 n] 78)
  have HM := Lib.hid (Md.mod_any (hour - (p : Int)) n (w.alloc (.cells #[.int .i64 p, .int .i64 n] 78 (0, 0))) (by omega) (by omega))
  have HB := lst_bd h8 h0 p hour
  have HG := Lib.hid hg
  obtain ⟨m, hm⟩ : ∃ m, m = (hour - (p : Int)) % (n : Int) := ⟨_, rfl⟩
  have HR : Hid (lst n p hour = hour - m) := by show _ = _; rw [hm]; rfl
  rw [HR.out] at HB
  rw [← hm] at HM
  clear hg hm
  go_enter Try.func71, Try.ntmps71
  go_wp2_with fail
  refine HM.out.mono ?_
  rintro e w2 ⟨rfl, rfl⟩
  go_wp2
  go_ret
  exact ⟨ret_i64 HR.out.symm, HG.out⟩
end Go.Proofs.Ytfdadeiemfmgkaa.WatI

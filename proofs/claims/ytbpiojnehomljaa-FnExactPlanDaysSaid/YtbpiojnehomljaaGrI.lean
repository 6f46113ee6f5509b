/- Contracts of the program's squareOf, cellOf, of the steps from a square to those beside it, and how a grid's value lies in memory. -/
import Derived.Test.YtbpiojnehomljaaGr
import Derived.Test.YtbpiojnehomljaaMBase
import Derived.IntWalk
import Derived.Deep.QuietTactic
import Derived.BigQuiet
import Derived.Laws.Rows
namespace Go.Proofs.Ytbpiojnehomljaa.GrI
open Go.RowKit Kit Rw Ld Gr

/-- The cells of a grid's value: its width, then its hundred squares. -/
def gcells (p : Nat) (g : List Int) : Array Value := (Value.int .i64 (p : Int) :: g.map (Value.int .u8)).toArray
theorem gcells_size {p : Nat} {g : List Int} (hg : g.length = 100) : (gcells p g).size = 101 := by simp [gcells, hg]
theorem gcells_0 (p : Nat) (g : List Int) : (gcells p g)[0]? = some (.int .i64 (p : Int)) := rfl
theorem gcells_s {p : Nat} {g : List Int} (hg : g.length = 100) {s : Nat} (hs : s < 100) : (gcells p g)[1 + s]? = some (.int .u8 (g.getD s 0)) := by
  rw [show 1 + s = s + 1 by omega]
  simp only [gcells, List.getElem?_toArray, List.getElem?_cons_succ]
  exact getD_map (by omega)
theorem alloc_cell (w : World) (cs : Array Value) (T : TypeId) (j : Nat) : (w.alloc (.cells cs T (0, 0))).cell? ⟨w.heap.size, j, none⟩ = cs[j]? := World.cell?_alloc_new _ _ _ _

set_option maxHeartbeats 1000000 in
theorem squareOf_any (w : World) (p q : Nat) (cs : Array Value) (hp : 1 ≤ p ∧ p ≤ 8) (hq : q < 64) (h0 : cs[0]? = some (.int .i64 (p : Int))) :
    Calls Try.prog 130 #[.agg cs, .int .i64 (q : Int)] w fun e w' => e = .returned (.int .i64 ((sq p q : Nat) : Int)) ∧ w.grownBy w' none := by
  have HG := Lib.hid (World.grownBy_alloc w (.cells cs 144 (0, 0)) none)
  have c0 : (w.alloc (.cells cs 144 (0, 0))).cell? ⟨w.heap.size, 0, none⟩ = some (.int .i64 (p : Int)) := by rw [alloc_cell]; exact h0
  obtain ⟨c, hc⟩ : ∃ c, c = q % p := ⟨_, rfl⟩
  obtain ⟨r, hr⟩ : ∃ r, r = q / p := ⟨_, rfl⟩
  have HE : Hid (((r + 1) * 10 + c + 1 : Nat) = sq p q) := by show _ = _; rw [hc, hr]; rfl
  obtain ⟨hp1, hp8⟩ := hp
  have hc8 : c < p := by rw [hc]; exact Nat.mod_lt _ (by omega)
  have hr64 : r ≤ q := by rw [hr]; exact Nat.div_le_self _ _
  have t1 : (q : Int).tmod (p : Int) = (c : Int) := by rw [Int.tmod_eq_emod_of_nonneg (by omega), hc]; omega
  have t2 : (q : Int).tdiv (p : Int) = (r : Int) := by rw [Int.tdiv_eq_ediv_of_nonneg (by omega), hr]; omega
  have w2 : IntKind.i64.wrap (r : Int) = (r : Int) := IntWalk.i64_in _ (by omega)
  have hne : ¬ ((p : Int) = 0) := by omega
  have hne2 : ((p : Int) == 0) = false := by simpa using hne
  clear h0 hc hr
  go_enter Try.func130, Try.ntmps130
  go_wp2_with fail
  go_quiet (fail)
  go_wp2
  go_ret
  exact ⟨ret_i64 (by rw [← HE.out]; omega), grown_drewN HG.out _⟩

set_option maxHeartbeats 1000000 in
theorem cellOf_any (w : World) (p s : Nat) (cs : Array Value) (hp : 1 ≤ p ∧ p ≤ 8) (hs : s < 100) (h10 : 10 ≤ s) (h1 : 1 ≤ s % 10) (h0 : cs[0]? = some (.int .i64 (p : Int))) :
    Calls Try.prog 133 #[.agg cs, .int .i64 (s : Int)] w fun e w' => e = .returned (.int .i64 ((cl p s : Nat) : Int)) ∧ w.grownBy w' none := by
  have HG := Lib.hid (World.grownBy_alloc w (.cells cs 144 (0, 0)) none)
  have c0 : (w.alloc (.cells cs 144 (0, 0))).cell? ⟨w.heap.size, 0, none⟩ = some (.int .i64 (p : Int)) := by rw [alloc_cell]; exact h0
  obtain ⟨c, hc⟩ : ∃ c, c + 1 = s % 10 := ⟨s % 10 - 1, by omega⟩
  obtain ⟨r, hr⟩ : ∃ r, r + 1 = s / 10 := ⟨s / 10 - 1, by omega⟩
  obtain ⟨k, hk⟩ : ∃ k, k = r * p := ⟨_, rfl⟩
  have HE : Hid (((k + c : Nat) : Int) = ((cl p s : Nat) : Int)) := by show _ = _; unfold cl; rw [← hc, ← hr, hk]; simp
  obtain ⟨hp1, hp8⟩ := hp
  have hk64 : k ≤ 64 := by rw [hk]; exact Nat.mul_le_mul (show r ≤ 8 by omega) hp8
  have t1 : (s : Int).tmod 10 = (c : Int) + 1 := by rw [Int.tmod_eq_emod_of_nonneg (by omega)]; omega
  have t2 : (s : Int).tdiv 10 = (r : Int) + 1 := by rw [Int.tdiv_eq_ediv_of_nonneg (by omega)]; omega
  have t1' : (s : Int) % 10 = (c : Int) + 1 := by omega
  have t2' : (s : Int) / 10 = (r : Int) + 1 := by omega
  have t3 : (r : Int) * (p : Int) = (k : Int) := by rw [hk]; simp
  have hc10 : c < 10 := by omega
  have hr10 : r < 10 := by omega
  clear h0 hc hr hk
  go_enter Try.func133, Try.ntmps133
  go_wp2
  go_ret
  exact ⟨ret_i64 (by rw [← HE.out]; omega), HG.out⟩

/-- The square beside one, by the side's number. -/
def beside (j s : Nat) : Nat := if j = 0 then s - 10 else if j = 1 then s - 1 else if j = 2 then s + 1 else s + 10
theorem above_any (w : World) (s : Nat) (h10 : 10 ≤ s) (hs : s < 100) :
    Calls Try.prog 138 #[.int .i64 (s : Int)] w fun e w' => e = .returned (.int .i64 ((beside 0 s : Nat) : Int)) ∧ w = w' := by
  go_enter Try.func138, Try.ntmps138
  go_wp2
  go_ret
  exact ⟨ret_i64 (by unfold beside; simp; omega), rfl⟩
theorem left_any (w : World) (s : Nat) (h10 : 10 ≤ s) (hs : s < 100) :
    Calls Try.prog 139 #[.int .i64 (s : Int)] w fun e w' => e = .returned (.int .i64 ((beside 1 s : Nat) : Int)) ∧ w = w' := by
  go_enter Try.func139, Try.ntmps139
  go_wp2
  go_ret
  exact ⟨ret_i64 (by unfold beside; simp; omega), rfl⟩
theorem right_any (w : World) (s : Nat) (h10 : 10 ≤ s) (hs : s < 100) :
    Calls Try.prog 140 #[.int .i64 (s : Int)] w fun e w' => e = .returned (.int .i64 ((beside 2 s : Nat) : Int)) ∧ w = w' := by
  go_enter Try.func140, Try.ntmps140
  go_wp2
  go_ret
  exact ⟨ret_i64 (by unfold beside; simp), rfl⟩
theorem below_any (w : World) (s : Nat) (h10 : 10 ≤ s) (hs : s < 100) :
    Calls Try.prog 141 #[.int .i64 (s : Int)] w fun e w' => e = .returned (.int .i64 ((beside 3 s : Nat) : Int)) ∧ w = w' := by
  go_enter Try.func141, Try.ntmps141
  go_wp2
  go_ret
  exact ⟨ret_i64 (by unfold beside; simp), rfl⟩
end Go.Proofs.Ytbpiojnehomljaa.GrI

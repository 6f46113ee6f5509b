/- Contracts of the program's and of the model's Healthy and Strongest. -/
import Derived.Test.YtfdadeiemfmgkaaCrewF
import Derived.Test.YtfdadeiemfmgkaaRowM
import Derived.IntWalk
import Derived.Deep.QuietTactic
import Derived.BigQuiet
namespace Go.Proofs.Ytfdadeiemfmgkaa.CrH
open Go.RowKit Kit Rw Rg Crw

theorem info_int : (Try.prog.info? 3).map (fun i => (i.zero, i.size, i.bytes)) = some (some (.int .i64 0), 1, 8) := by kernel_rfl
theorem healthy_take {L : List Mem} {j : Nat} (hj : j ≤ L.length) : (healthy (L.take j)).length ≤ j := by
  have := healthy_len (L.take j)
  rw [List.length_take] at this; omega

set_option maxRecDepth 20000 in
set_option maxHeartbeats 1000000 in
theorem sHealthy_any (w : World) (v : Value) (L : List Mem) (hv : SeesG encM w v L) (hn : L.length ≤ 1000000000) :
    Calls Try.prog 56 #[v] w fun e w' => ∃ u, e = .returned u ∧ Own .i64 3 w' w.heap.size u (healthy L) ∧ w.grownBy w' none := by
  have HV := Lib.hid hv
  have HOK := Lib.hid hv.ok
  obtain ⟨a, cap, rfl, _⟩ := hv
  obtain ⟨i0, hi, hz0, hz1, hz2⟩ := info_parts info_int
  have HW : Hid (Own .i64 3 (w.alloc (.cells #[] 3 (0, 0))) w.heap.size (.slice (some ⟨w.heap.size, 0, none⟩) 0 0) (healthy (L.take 0))) := by rw [List.take_zero]; exact own_empty w
  have HG0 := Lib.hid (World.grownBy_alloc w (.cells #[] 3 (0, 0)) none)
  go_enter Try.func56, Try.ntmps56
  go_wp2
  go_loopw [3, 4] (fun u i wr => ∃ j : Nat, j ≤ L.length ∧ i = .int .i64 j ∧ Hid (Own .i64 3 wr w.heap.size u (healthy (L.take j))) ∧ Hid (w.grownBy wr none)) (fun _ i _ => L.length - (intOf i).toNat)
  case atStart => exact ⟨0, Nat.zero_le _, rfl, HW, HG0⟩
  case round =>
    rename_i u _ _
    obtain ⟨j, hj, rfl, HO, HG⟩ := hrel
    by_cases hlt : j < L.length
    · obtain ⟨b, o, rfl, _, _⟩ := HV.out.at_row hlt
      obtain ⟨x, hx⟩ : ∃ x, L.getD j zM = x := ⟨_, rfl⟩
      obtain ⟨d0, d1, d2, d3⟩ := atM_in HV.out HG.out hlt hx
      have hn1 := healthy_next hlt
      rw [show dM = zM from rfl, hx] at hn1
      have HN := Lib.hid hn1
      have hxi : (Lit.int .i64 x.id).wf = true := by rw [← hx]; exact (HOK.out _ (memG hlt)).1
      have HXI := Lib.hid (i64_of hxi)
      have HLL := Lib.hid (healthy_take hj)
      clear hn1 hx hxi
      obtain ⟨xi, xs, xn, xb⟩ := x
      dsimp only at d0 d1 d2 d3
      cases xb
      · go_wp2_with (at_builtin; go_loud (refine wpList_append_one _ rfl _ _ 63 rfl w.heap.size 3 i0 (.int .i64 0) 8 Try.underlying63 hi hz0 hz1 hz2 rfl .i64 _ (healthy (L.take j)) rfl HO.out xi rfl (i64_mk HXI.out) (by have := HLL.out; omega) (by decide) HG.out.size ?_); intro v4 w4 hown4 hgrow4; have HO4 := Lib.hid hown4; have HG4 := Lib.hid (grown_new HG.out hgrow4 (fun c hc => (HO.out.lt c hc).1)); clear hown4 hgrow4)
        go_roundw
        case rel => exact ⟨j + 1, by omega, by go_num, by rw [HN.out]; exact HO4, HG4⟩
        case measure => simp [intOf]; omega
      · go_wp2
        go_roundw
        case rel => exact ⟨j + 1, by omega, by go_num, by rw [HN.out]; simpa using HO, HG⟩
        case measure => simp [intOf]; omega
    · have : j = L.length := by omega
      subst this
      go_wp2
      go_ret
      exact ⟨_, rfl, by have := HO.out; rw [List.take_length] at this; exact this, HG.out⟩

set_option maxRecDepth 20000 in
set_option maxHeartbeats 1000000 in
theorem iHealthy_any (w : World) (v : Value) (L : List Mem) (hv : SeesG encM w v L) (hn : L.length ≤ 1000000000) :
    Calls Try.prog 51 #[v] w fun e w' => ∃ u, e = .returned u ∧ Own .i64 3 w' w.heap.size u (healthy L) ∧ w.grownBy w' none := by
  have HV := Lib.hid hv
  have HOK := Lib.hid hv.ok
  obtain ⟨a, cap, rfl, _⟩ := hv
  obtain ⟨i0, hi, hz0, hz1, hz2⟩ := info_parts info_int
  have HW : Hid (Own .i64 3 (w.alloc (.cells #[] 3 (0, 0))) w.heap.size (.slice (some ⟨w.heap.size, 0, none⟩) 0 0) (healthy (L.take 0))) := by rw [List.take_zero]; exact own_empty w
  have HG0 := Lib.hid (World.grownBy_alloc w (.cells #[] 3 (0, 0)) none)
  go_enter Try.func51, Try.ntmps51
  go_wp2
  go_loopw [3, 9] (fun u i wr => ∃ j : Nat, j ≤ L.length ∧ i = .int .i64 j ∧ Hid (Own .i64 3 wr w.heap.size u (healthy (L.take j))) ∧ Hid (w.grownBy wr none)) (fun _ i _ => L.length - (intOf i).toNat)
  case atStart => exact ⟨0, Nat.zero_le _, rfl, HW, HG0⟩
  case round =>
    rename_i u _ wr
    obtain ⟨j, hj, rfl, HO, HG⟩ := hrel
    by_cases hlt : j < L.length
    · obtain ⟨b, o, rfl, _, _⟩ := HV.out.at_row hlt
      obtain ⟨x, hx⟩ : ∃ x, L.getD j zM = x := ⟨_, rfl⟩
      obtain ⟨d0, d1, d2, d3⟩ := atM_in HV.out HG.out hlt hx
      have hn1 := healthy_next hlt
      rw [show dM = zM from rfl, hx] at hn1
      have HN := Lib.hid hn1
      have hxi : (Lit.int .i64 x.id).wf = true := by rw [← hx]; exact (HOK.out _ (memG hlt)).1
      have HXI := Lib.hid (i64_of hxi)
      have HLL := Lib.hid (healthy_take hj)
      clear hn1 hx hxi
      obtain ⟨xi, xs, xn, xb⟩ := x
      dsimp only at d0 d1 d2 d3
      have hga := World.grownBy_alloc wr (.cells #[.int .i64 xi, .int .i64 xs, .int .i64 xn, .bool xb] 70 (0, 0)) none
      have HG1 := Lib.hid (grownN_trans HG.out hga)
      have HO1 := Lib.hid (HO.out.grown hga)
      clear hga
      cases xb
      · go_wp2_with (at_builtin; go_loud (refine wpList_append_one _ rfl _ _ 63 rfl w.heap.size 3 i0 (.int .i64 0) 8 Try.underlying63 hi hz0 hz1 hz2 rfl .i64 _ (healthy (L.take j)) rfl HO1.out xi (by rw [World.size_alloc]; rfl) (i64_mk HXI.out) (by have := HLL.out; omega) (by decide) HG1.out.size ?_); intro v4 w4 hown4 hgrow4; have HO4 := Lib.hid hown4; have HG4 := Lib.hid (grown_new HG1.out hgrow4 (fun c hc => (HO1.out.lt c hc).1)); clear hown4 hgrow4)
        go_roundw
        case rel => exact ⟨j + 1, by omega, by go_num, by rw [HN.out]; exact HO4, HG4⟩
        case measure => simp [intOf]; omega
      · go_wp2
        go_roundw
        case rel => exact ⟨j + 1, by omega, by go_num, by rw [HN.out]; simpa using HO1, HG1⟩
        case measure => simp [intOf]; omega
    · have : j = L.length := by omega
      subst this
      go_wp2
      go_ret
      exact ⟨_, rfl, by have := HO.out; rw [List.take_length] at this; exact this, HG.out⟩

theorem best_take {L : List Mem} {j : Nat} (h : (L.getD j dM).ill = false ∧ (best L j < 0 ∨ (L.getD (best L j).toNat dM).str < (L.getD j dM).str)) : best L (j + 1) = j := if_pos h
theorem best_keep {L : List Mem} {j : Nat} (h : ¬ ((L.getD j dM).ill = false ∧ (best L j < 0 ∨ (L.getD (best L j).toNat dM).str < (L.getD j dM).str))) : best L (j + 1) = best L j := if_neg h

theorem box4_set {w : World} {b : Nat} {x y z u x' y' z' u' : Value} {T : TypeId} (h : Box w b #[x, y, z, u] T) :
    Box ((((w.setCell ⟨b, 0, none⟩ x').setCell ⟨b, 1, none⟩ y').setCell ⟨b, 2, none⟩ z').setCell ⟨b, 3, none⟩ u') b #[x', y', z', u'] T ∧ w.grownBy ((((w.setCell ⟨b, 0, none⟩ x').setCell ⟨b, 1, none⟩ y').setCell ⟨b, 2, none⟩ z').setCell ⟨b, 3, none⟩ u') (some b) :=
  ⟨box_set (box_set (box_set (box_set h 0 x') 1 y') 2 z') 3 u', grownN_trans (grownN_trans (grownN_trans (grown_set w b 0 x') (grown_set _ b 1 y')) (grown_set _ b 2 z')) (grown_set _ b 3 u')⟩
theorem four {w : World} {b : Nat} {x y z u : Value} {T : TypeId} (h : Box w b #[x, y, z, u] T) : w.cell? ⟨b, 0, none⟩ = some x ∧ w.cell? ⟨b, 1, none⟩ = some y ∧ w.cell? ⟨b, 2, none⟩ = some z ∧ w.cell? ⟨b, 3, none⟩ = some u := ⟨h.cell 0, h.cell 1, h.cell 2, h.cell 3⟩
/-- The strongest of the first j who are well, as a member. -/
def bestM (L : List Mem) (j : Nat) : Mem := if best L j < 0 then zM else L.getD (best L j).toNat zM
def found (L : List Mem) (j : Nat) : Bool := decide (0 ≤ best L j)

end Go.Proofs.Ytfdadeiemfmgkaa.CrH

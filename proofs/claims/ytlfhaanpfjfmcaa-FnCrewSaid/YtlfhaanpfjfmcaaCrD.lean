/- Contracts of the draws of crews. -/
import Derived.Test.YtlfhaanpfjfmcaaMDr
import Derived.Test.YtlfhaanpfjfmcaaRowM
import Derived.IntWalk
import Derived.Deep.RegionHeld3
namespace Go.Proofs.Ytlfhaanpfjfmcaa.Draw
open Go.RowKit Kit Rw Rg Inf

theorem infoMem : (Try.prog.info? 51).map (fun i => (i.zero, i.size, i.bytes)) = some (some (.agg #[.int .i64 0, .int .i64 0, .int .i64 0, .bool false]), 4, 32) := by kernel_rfl
/-- Where the draw of a crew stands: its row, the cursor. -/
structure CR (w wr : World) (c : Nat) (v : Value) (L : List Mem) : Prop where
  own : OwnG encM 51 wr w.heap.size v L
  cur : Cur wr c
  grown : w.grownBy wr (some c)
  cl : c < w.heap.size
  len : L.length ≤ 4
section
variable {w wr wy : World} {c : Nat} {v v4 : Value} {L M : List Mem}
theorem CR.on (h : CR w wr c v L) (hg : wr.grownBy wy none) : CR w wy c v L :=
  ⟨h.own.grown hg, h.cur.kept_row hg (fun _ h => by cases h), grown_mix h.grown hg (fun _ h => by cases h), h.cl, h.len⟩
theorem CR.call (h : CR w wr c v L) (hg : wr.grownBy wy (some c)) (hc : Cur wy c) : CR w wy c v L := by
  have h1 := h.cl
  exact ⟨h.own.kept hg (.inr (h.own.off h1)), hc, grown_trans h.grown hg, h1, h.len⟩
theorem CR.more (h : CR w wr c v L) (ho : OwnG encM 51 wy w.heap.size v4 M) (hg : wr.grownBy wy v.ownBlock) (hl : M.length ≤ 4) : CR w wy c v4 M := by
  have h1 := h.cl
  exact ⟨ho, h.cur.kept_row hg (fun g hg => by have := h.own.lt g hg; omega), grown_mix h.grown hg (fun g hg => by have := h.own.lt g hg; omega), h1, hl⟩
end

set_option maxRecDepth 20000 in
set_option maxHeartbeats 2000000 in
theorem crewD_any (w : World) (c : Nat) (hc : Cur w c) :
    Calls Try.prog 50 #[.pointer (some ⟨c, 0, none⟩)] w fun e w' => ∃ v, e = .returned v ∧ ∃ L, 1 ≤ L.length ∧ CR w w' c v L := by
  have hlt0 := hc.lt
  have hg0 := World.grownBy_alloc w (.cells #[] 51 (0, 0)) (none : Option Nat)
  have HR : Hid (CR w (w.alloc (.cells #[] 51 (0, 0))) c (.slice (some ⟨w.heap.size, 0, none⟩) 0 0) []) :=
    ⟨ownG_empty w, hc.kept_row hg0 (fun _ h => by cases h), grown_mix (grown_refl _ _) hg0 (fun _ h => by cases h), hlt0, by simp⟩
  clear hc hg0 hlt0
  obtain ⟨i0, hi, hz0, hz1, hz2⟩ := info_parts infoMem
  go_enter Try.func50, Try.ntmps50
  go_wp2
  go_loopw [3, 4] (fun p i wr => ∃ (j : Nat) (L : List Mem), j ≤ 4 ∧ i = .int .i64 ((j : Int) + 1) ∧ Hid (L.length = j) ∧ Hid (CR w wr c p L)) (fun _ i _ => 6 - (intOf i).toNat)
  case atStart => exact ⟨0, [], by omega, rfl, rfl, HR⟩
  case round =>
    obtain ⟨j, L, hj, rfl, HL, HR1⟩ := hrel
    clear HR
    go_wp2_with fail
    refine (below_any 4 (by omega) _ _ HR1.out.cur).mono ?_
    rintro e w2 ⟨x, HP, rfl, hc2, hg2⟩
    obtain ⟨hx0, hx1⟩ := HP.1 (by omega)
    have HR2 := Lib.hid (HR1.out.call hg2 hc2)
    clear HP hc2 hg2 HR1
    by_cases hlt : (j : Int) + 1 ≤ 1 + x
    · have HLL : Hid (L.length ≤ 1000000000) := by show _ ≤ _; rw [HL.out]; omega
      have HL3 : Hid (L.length ≤ 3) := by show _ ≤ _; rw [HL.out]; omega
      go_wp2_with fail
      refine (below_any 20 (by omega) _ _ HR2.out.cur).mono ?_
      rintro e w3 ⟨y, HP, rfl, hc3, hg3⟩
      obtain ⟨hy0, hy1⟩ := HP.1 (by omega)
      have HR3 := Lib.hid (HR2.out.call hg3 hc3)
      clear HP hc3 hg3 HR2
      go_wp2_with fail
      refine (below_any 3 (by omega) _ _ HR3.out.cur).mono ?_
      rintro e w4 ⟨z, HP, rfl, hc4, hg4⟩
      obtain ⟨hz0', hz1'⟩ := HP.1 (by omega)
      have HR4 := Lib.hid (HR3.out.call hg4 hc4)
      clear HP hc4 hg4 HR3
      go_wp2_with fail
      refine (once_any 8 (by omega) _ _ HR4.out.cur).mono ?_
      rintro e w5 ⟨b, rfl, hc5, hg5⟩
      have HR5 := Lib.hid (HR4.out.call hg5 hc5)
      have HS5 : Hid (w.heap.size ≤ w5.heap.size) := HR5.out.grown.size
      have HOK : Hid (encM.ok ⟨2 * ((j : Int) + 1), 5 + y, 1 + z, b⟩) := ⟨i64_mk (by dsimp only; omega), i64_mk (by dsimp only; omega), i64_mk (by dsimp only; omega)⟩
      clear hc5 hg5 HR4
      go_wp2_with (at_builtin; go_loud (refine wpListG_append_one _ rfl _ _ 24 rfl w.heap.size 51 i0 (.agg #[.int .i64 0, .int .i64 0, .int .i64 0, .bool false]) 32 Try.underlying24 hi hz0 hz1 hz2 rfl _ L rfl HR5.out.own ⟨2 * ((j : Int) + 1), 5 + y, 1 + z, b⟩ #[.int .i64 (2 * ((j : Int) + 1)), .int .i64 (5 + y), .int .i64 (1 + z), .bool b] rfl rfl HOK.out HLL.out (by decide) HS5.out ?_); intro v6 w6 hown6 hgrow6 hnew6; have HR6 := Lib.hid (HR5.out.more hown6 hgrow6 (by rw [List.length_append]; have := HL3.out; simp; omega)); clear hown6 hgrow6 hnew6)
      go_roundw
      case rel => exact ⟨j + 1, _, by omega, by go_num, by show _ = _; rw [List.length_append, HL.out]; rfl, HR6⟩
      case measure => simp [intOf]; omega
    · go_wp2
      go_ret
      exact ⟨_, rfl, L, by rw [HL.out]; omega, HR2.out⟩
end Go.Proofs.Ytlfhaanpfjfmcaa.Draw

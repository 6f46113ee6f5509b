/- Contracts of BytesToInts of the program and of its model. -/
import Derived.Test.YtklbeeloppiknaaDoorInfo
namespace Go.Proofs.YtklbeeloppiknaaDoor.Bti
open Go.RowKit Kit Rw

/-- A length, and the bytes as numbers. -/
def bti (L : List Int) : List Int := (L.length : Int) :: L
theorem bti_len (L : List Int) : (bti L).length = L.length + 1 := rfl
/-- What the loop has after j bytes. -/
def btj (L : List Int) (j : Nat) : List Int := (L.length : Int) :: L.take j
theorem btj_next {L : List Int} {j : Nat} (hj : j < L.length) : btj L j ++ [L.getD j 0] = btj L (j + 1) := by
  simp only [btj, List.cons_append]
  congr 1
  rw [List.take_add_one]
  simp [hj]
theorem btj_all (L : List Int) : btj L L.length = bti L := by simp [btj, bti]
theorem btj_zero (L : List Int) : btj L 0 = [(L.length : Int)] := by simp [btj]
theorem btj_len (L : List Int) (j : Nat) : (btj L j).length ≤ L.length + 1 := by simp [btj]; omega

set_option maxHeartbeats 400000 in
theorem bti_any (w : World) (v : Value) (X : List Int) (hv : Sees .u8 w v X) (hX : X.length ≤ 1000000000000) :
    Calls Tryd.prog 24 #[v] w fun e w' => ∃ u, e = .returned u ∧ Own .i64 3 w' w.heap.size u (bti X) ∧ w.grownBy w' none := by
  have HW := Lib.hid hv.wf
  obtain ⟨a, cap, rfl, hlc, hcm, hnil, hwf, hcell⟩ := hv
  have HC := Lib.hid hcell
  clear hwf hcell hnil
  obtain ⟨i0, hi, hz0, hz1, hz2⟩ := info_parts Inf.info_i64
  go_enter Tryd.func24, Tryd.ntmps24
  go_wp2_with (first
    | (at_make; refine wpList_make_own _ rfl _ _ 24 rfl w.heap.size 3 i0 (.int .i64 0) 1 Tryd.underlying24 hi hz0 hz1 .i64 .i64 _ (X.length + 1) rfl rfl (by go_num) (by rw [hz2]; omega) (by unfold maxLen; omega) (Nat.le_refl _) ?_; intro w1 hown hgrow; have HO : Hid (Own .i64 3 w1 w.heap.size (.slice (some ⟨w.heap.size, 0, none⟩) 0 (X.length + 1)) []) := ⟨by simpa using hown, by simp⟩; have HG := Lib.hid hgrow; clear hown hgrow)
    | (at_builtin; refine wpList_append_one _ rfl _ _ 24 rfl w.heap.size 3 i0 (.int .i64 0) 8 Tryd.underlying24 hi hz0 hz1 hz2 rfl .i64 _ [] rfl HO.out (X.length : Int) rfl (i64_mk (by omega)) (by simp) (by decide) HG.out.size ?_; intro v3 w3 hown3 hgrow3; have HO3 := Lib.hid hown3; have HG3 := Lib.hid (grown_new HG.out hgrow3 (fun c hc => (HO.out.lt c hc).1)); clear hown3 hgrow3))
  go_loopw [3, 5, 17] (fun u _ i wr => ∃ j : Nat, j ≤ X.length ∧ i = .int .i64 j ∧ Hid (Own .i64 3 wr w.heap.size u (btj X j)) ∧ Hid (Below w.heap.size w wr))
    (fun _ _ i _ => X.length - (intOf i).toNat)
  case atStart => exact ⟨0, Nat.zero_le _, rfl, by rw [btj_zero]; exact HO3, grown_below HG3.out _ (Nat.le_refl _)⟩
  case round =>
    obtain ⟨j, hj, rfl, HO1, HB⟩ := hrel
    by_cases hlt : j < X.length
    · rcases HC.out with hX | ⟨b, o, rfl, hc⟩
      · simp [hX] at hlt
      obtain ⟨x, hx⟩ : ∃ x, x = X.getD j 0 := ⟨_, rfl⟩
      have hcj : wr.cell? ⟨b, o + j, none⟩ = some (.int .u8 x) := by
        rw [hx]
        exact (HB.out.cell (World.block_lt_of_cell? w _ (hc j hlt))).trans (hc j hlt)
      have hb := u8_of (HW.out _ (mem_getD hlt))
      rw [← hx] at hb
      have HN := Lib.hid (btj_next hlt)
      have hl := btj_len X j
      obtain ⟨hb0, hb1⟩ := hb
      have HX := Lib.hid hx
      clear hx hc
      go_wp2_with (at_builtin; go_loud (refine wpList_append_one _ rfl _ _ 24 rfl w.heap.size 3 i0 (.int .i64 0) 8 Tryd.underlying24 hi hz0 hz1 hz2 rfl .i64 _ (btj X j) rfl HO1.out x rfl (i64_mk (by omega)) (by omega) (by decide) HB.out.size ?_); intro v4 w4 hown4 hgrow4; have HO4 := Lib.hid hown4; have HG4 := Lib.hid hgrow4; clear hown4 hgrow4)
      go_roundw
      case rel => exact ⟨j + 1, by omega, by go_num, by rw [← HN.out, ← HX.out]; exact HO4, HB.out.grown HG4.out HB.out.size (fun c hc => (HO1.out.lt c hc).1)⟩
      case measure => simp [intOf]; omega
    · have : j = X.length := by omega
      subst this
      go_wp2
      go_ret
      exact ⟨_, rfl, by have := HO1.out; rwa [btj_all] at this, below_grown HB.out⟩

set_option maxHeartbeats 400000 in
theorem sBti_any (w : World) (v : Value) (X : List Int) (hv : Sees .u8 w v X) (hX : X.length ≤ 1000000000000) :
    Calls Tryd.prog 28 #[v] w fun e w' => ∃ u, e = .returned u ∧ Own .i64 3 w' w.heap.size u (bti X) ∧ w.grownBy w' none := by
  have HW := Lib.hid hv.wf
  obtain ⟨a, cap, rfl, hlc, hcm, hnil, hwf, hcell⟩ := hv
  have HC := Lib.hid hcell
  clear hwf hcell hnil
  obtain ⟨i0, hi, hz0, hz1, hz2⟩ := info_parts Inf.info_i64
  have HO3 : Hid (Own .i64 3 (w.alloc (.cells #[.int .i64 (X.length : Int)] 3 (0, 0))) w.heap.size (.slice (some ⟨w.heap.size, 0, none⟩) 1 1) [(X.length : Int)]) :=
    ⟨World.ownsRow_lit (size := 1) w #[.int .i64 (X.length : Int)] 1 (Nat.le_refl _) (by unfold maxLen; omega) rfl, by intro n hn; simp at hn; subst hn; exact i64_mk (by omega)⟩
  have HG3 := Lib.hid (World.grownBy_alloc w (.cells #[.int .i64 (X.length : Int)] 3 (0, 0)) none)
  go_enter Tryd.func28, Tryd.ntmps28
  go_wp2
  go_loopw [3, 4] (fun u i wr => ∃ j : Nat, j ≤ X.length ∧ i = .int .i64 j ∧ Hid (Own .i64 3 wr w.heap.size u (btj X j)) ∧ Hid (Below w.heap.size w wr))
    (fun _ i _ => X.length - (intOf i).toNat)
  case atStart => exact ⟨0, Nat.zero_le _, rfl, by rw [btj_zero]; exact HO3, grown_below HG3.out _ (Nat.le_refl _)⟩
  case round =>
    obtain ⟨j, hj, rfl, HO1, HB⟩ := hrel
    by_cases hlt : j < X.length
    · rcases HC.out with hX | ⟨b, o, rfl, hc⟩
      · simp [hX] at hlt
      obtain ⟨x, hx⟩ : ∃ x, x = X.getD j 0 := ⟨_, rfl⟩
      have hcj : wr.cell? ⟨b, o + j, none⟩ = some (.int .u8 x) := by
        rw [hx]
        exact (HB.out.cell (World.block_lt_of_cell? w _ (hc j hlt))).trans (hc j hlt)
      have hb := u8_of (HW.out _ (mem_getD hlt))
      rw [← hx] at hb
      have HN := Lib.hid (btj_next hlt)
      have hl := btj_len X j
      obtain ⟨hb0, hb1⟩ := hb
      have HX := Lib.hid hx
      clear hx hc
      go_wp2_with (at_builtin; go_loud (refine wpList_append_one _ rfl _ _ 24 rfl w.heap.size 3 i0 (.int .i64 0) 8 Tryd.underlying24 hi hz0 hz1 hz2 rfl .i64 _ (btj X j) rfl HO1.out x rfl (i64_mk (by omega)) (by omega) (by decide) HB.out.size ?_); intro v4 w4 hown4 hgrow4; have HO4 := Lib.hid hown4; have HG4 := Lib.hid hgrow4; clear hown4 hgrow4)
      go_roundw
      case rel => exact ⟨j + 1, by omega, by go_num, by rw [← HN.out, ← HX.out]; exact HO4, HB.out.grown HG4.out HB.out.size (fun c hc => (HO1.out.lt c hc).1)⟩
      case measure => simp [intOf]; omega
    · have : j = X.length := by omega
      subst this
      go_wp2
      go_ret
      exact ⟨_, rfl, by have := HO1.out; rwa [btj_all] at this, below_grown HB.out⟩
end Go.Proofs.YtklbeeloppiknaaDoor.Bti

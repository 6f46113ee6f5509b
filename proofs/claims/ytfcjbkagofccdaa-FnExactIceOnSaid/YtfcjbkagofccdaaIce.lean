/- Contracts of the ice on a way, of the program and of its model. -/
import Derived.Test.YtfcjbkagofccdaaWayV
import Derived.Test.YtfcjbkagofccdaaWayL
import Derived.IntWalk
import Derived.Deep.RegionLaw
import Derived.Deep.RegionHeld3
namespace Go.Proofs.Ytfcjbkagofccdaa.Ice
open Go.RowKit Kit Rw Ld Bfs Wf LandS WayS

def iceTo (X L : List Int) (j : Nat) : Nat := ((L.take j).filter fun n => X.getD n.toNat 0 == 1).length
theorem iceTo_0 (X L : List Int) : iceTo X L 0 = 0 := by simp [iceTo]
theorem iceTo_le (X L : List Int) (j : Nat) : iceTo X L j ≤ j := by
  unfold iceTo
  exact Nat.le_trans (List.length_filter_le _ _) (by simp; omega)
theorem iceTo_next {X L : List Int} {j : Nat} (h : j < L.length) : iceTo X L (j + 1) = iceTo X L j + if X.getD (L.getD j 0).toNat 0 = 1 then 1 else 0 := by
  have e : L[j] = L.getD j 0 := by simp [h]
  unfold iceTo
  rw [List.take_succ_eq_append_getElem h, List.filter_append, List.length_append, e]
  congr 1
  simp only [List.filter_cons, List.filter_nil]
  by_cases hx : X.getD (L.getD j 0).toNat 0 = 1
  · rw [if_pos hx, if_pos (by simpa using hx)]; rfl
  · rw [if_neg hx, if_neg (by simpa using hx)]; rfl
noncomputable def iceOf (W H : Int) (X L : List Int) : Int := if isWayOf W H X L = true then (iceTo X L L.length : Int) else 0
theorem way_of {W H : Int} {X L : List Int} (h : isWayOf W H X L = true) : ∀ i, i < L.length → isOpen W H X (L.getD i 0) = true := by
  by_cases hp : IsWayP W H X L
  · exact hp.2.1
  · rw [isWayOf_no hp] at h; cases h
theorem cell_of {W H : Int} {X L : List Int} (h : isWayOf W H X L = true) {i : Nat} (hi : i < L.length) : 0 ≤ L.getD i 0 ∧ L.getD i 0 < (X.length : Int) := by
  have := isOpen_of (way_of h i hi)
  have := isCell_of this.1
  exact ⟨this.2.1, this.2.2⟩

set_option maxRecDepth 20000 in
set_option maxHeartbeats 2000000 in
theorem iIce_any (w : World) (W H : Int) (v u : Value) (X L : List Int) (hv : Sees .i64 w v X) (hu : Sees .i64 w u L) :
    Calls Try.prog 29 #[.agg #[.int .i64 W, .int .i64 H, v], u] w fun e w' => e = .returned (.int .i64 (iceOf W H X L)) ∧ w.grownBy w' none := by
  obtain ⟨hb0, hv0, hg0⟩ := wb_new (W := W) (H := H) hv
  have hxl := hv.len
  have hll := hu.len
  have HB0 := Lib.hid hb0
  have HV0 := Lib.hid hv0
  have HG0 := Lib.hid hg0
  have HU0 := Lib.hid (hu.grown hg0)
  obtain ⟨va, vn, vc, hvv, HVN⟩ := hv.shape
  subst hvv
  obtain ⟨ua, un, uc, huv, HUN⟩ := hu.shape
  subst huv
  have hun : un ≤ 9223372036854775807 := by rw [← HUN.out]; exact hll
  obtain ⟨c0, c1, c2⟩ := hb0.three
  clear hv hu hb0 hv0 hg0
  have hs := fun w' hx hy => WayI.isWay_any w' W H (.slice va vn vc) (.slice ua un uc) X L hx hy
  cases hw : isWayOf W H X L
  · rw [hw] at hs
    have HS := Lib.hid hs
    have HI : Hid (iceOf W H X L = 0) := by show _ = _; unfold iceOf; rw [hw]; rfl
    clear hs hw
    go_enter Try.func29, Try.ntmps29
    go_wp2_with fail
    refine (HS.out _ HV0.out HU0.out).mono ?_
    rintro e w2 ⟨rfl, hg⟩
    have HG2 := Lib.hid (grownN_trans HG0.out hg)
    clear hg
    go_wp2
    go_ret
    exact ⟨ret_i64 HI.out.symm, HG2.out⟩
  · have HW := Lib.hid hw
    rw [hw] at hs
    have HS := Lib.hid hs
    have HI : Hid (iceOf W H X L = (iceTo X L L.length : Int)) := by show _ = _; unfold iceOf; rw [if_pos hw]
    clear hs hw
    go_enter Try.func29, Try.ntmps29
    go_wp2_with fail
    refine (HS.out _ HV0.out HU0.out).mono ?_
    rintro e w2 ⟨rfl, hg⟩
    have HG2 := Lib.hid (grownN_trans HG0.out hg)
    obtain ⟨c0, c1, c2⟩ := (HB0.out.grown hg).three
    have HU2 := Lib.hid (HU0.out.grown hg)
    have HV2 := Lib.hid (HV0.out.grown hg)
    clear hg
    go_wp2
    go_loop [5, 15] (fun s i => ∃ j : Nat, j ≤ un ∧ i = .int .i64 j ∧ s = .int .i64 (iceTo X L j)) (fun _ i => un - (intOf i).toNat)
    case atStart => exact ⟨0, Nat.zero_le _, rfl, by rw [iceTo_0]; rfl⟩
    case round =>
      obtain ⟨j, hj, rfl, rfl⟩ := hrel
      have hle := iceTo_le X L j
      by_cases hlt : j < un
      · have hjL : j < L.length := by rw [HUN.out]; exact hlt
        have hnx := iceTo_next (X := X) hjL
        obtain ⟨hx0, hx1⟩ := cell_of HW.out hjL
        obtain ⟨x, hx⟩ : ∃ x, x = L.getD j 0 := ⟨_, rfl⟩
        obtain ⟨b, o, rfl, hcj⟩ := HU2.out.at_row (j := j) hjL
        rw [← hx] at hcj hx0 hx1 hnx
        obtain ⟨k, rfl⟩ : ∃ k : Nat, x = k := ⟨x.toNat, by omega⟩
        have hkX : k < X.length := by omega
        obtain ⟨vb, vo, rfl, hck⟩ := HV2.out.at_row (j := k) hkX
        have hkv : k < vn := by rw [← HVN.out]; exact hkX
        rw [Int.toNat_natCast] at hnx
        obtain ⟨y, hy⟩ : ∃ y, y = X.getD k 0 := ⟨_, rfl⟩
        rw [← hy] at hck hnx
        have HN := Lib.hid hnx
        clear hx hnx hy
        by_cases hy1 : y = 1
        · have HE : Hid (iceTo X L (j + 1) = iceTo X L j + 1) := by show _ = _; rw [HN.out, if_pos hy1]
          subst hy1
          go_wp2
          go_round
          case rel => exact ⟨j + 1, by omega, by go_num, by rw [HE.out]; go_num⟩
          case measure => simp [intOf]; omega
        · have HE : Hid (iceTo X L (j + 1) = iceTo X L j) := by show _ = _; rw [HN.out, if_neg hy1]; rfl
          have hyb : (y == 1) = false := by simpa using hy1
          go_wp2
          go_round
          case rel => exact ⟨j + 1, by omega, by go_num, by rw [HE.out]⟩
          case measure => simp [intOf]; omega
      · have hjn : j = un := by omega
        subst hjn
        go_wp2
        go_ret
        exact ⟨ret_i64 (by rw [HI.out, HUN.out]), HG2.out⟩

set_option maxRecDepth 20000 in
set_option maxHeartbeats 4000000 in
theorem sIce_any (w : World) (W H : Int) (v u : Value) (X L : List Int) (hv : Sees .i64 w v X) (hu : Sees .i64 w u L) :
    Calls Try.prog 26 #[.agg #[.int .i64 W, .int .i64 H, v], u] w fun e w' => e = .returned (.int .i64 (iceOf W H X L)) ∧ w.grownBy w' none := by
  obtain ⟨hb0, hv0, hg0⟩ := wb_new (W := W) (H := H) hv
  have hxl := hv.len
  have hll := hu.len
  have HB0 := Lib.hid hb0
  have HV0 := Lib.hid hv0
  have HG0 := Lib.hid hg0
  have HU0 := Lib.hid (hu.grown hg0)
  obtain ⟨va, vn, vc, hvv, HVN⟩ := hv.shape
  subst hvv
  obtain ⟨ua, un, uc, huv, HUN⟩ := hu.shape
  subst huv
  have hun : un ≤ 9223372036854775807 := by rw [← HUN.out]; exact hll
  obtain ⟨c0, c1, c2⟩ := hb0.three
  clear hv hu hb0 hv0 hg0
  have hs := fun w' hx hy => sIsWay_any w' W H (.slice va vn vc) (.slice ua un uc) X L hx hy
  cases hw : isWayOf W H X L
  · rw [hw] at hs
    have HS := Lib.hid hs
    have HI : Hid (iceOf W H X L = 0) := by show _ = _; unfold iceOf; rw [hw]; rfl
    clear hs hw
    go_enter Try.func26, Try.ntmps26
    go_wp2_with fail
    generalize w.alloc (.cells #[.int .i64 W, .int .i64 H, .slice va vn vc] 50 (0, 0)) = W0 at *
    generalize w.heap.size = B at *
    go_loopw [5, 6] (fun s i wr => i = .int .i64 0 ∧ s = .int .i64 0 ∧ Hid (W0.grownBy wr none)) (fun _ _ _ => 0)
    case atStart => exact ⟨rfl, rfl, World.grownBy.refl _ _⟩
    case round =>
      obtain ⟨rfl, rfl, HGR⟩ := hrel
      obtain ⟨c0, c1, c2⟩ := (HB0.out.grown HGR.out).three
      by_cases hlt : 0 < un
      · have hlt' : (0 : Int) < (un : Int) := by omega
        go_wp2_with fail
        refine (HS.out _ (HV0.out.grown HGR.out) (HU0.out.grown HGR.out)).mono ?_
        rintro e w2 ⟨rfl, hg⟩
        have HG2 := Lib.hid (grownN_trans HGR.out hg)
        clear hg
        go_wp2
        go_ret
        exact ⟨ret_i64 HI.out.symm, grownN_trans HG0.out HG2.out⟩
      · have hu0 : un = 0 := by omega
        subst hu0
        go_wp2
        go_ret
        exact ⟨ret_i64 HI.out.symm, grownN_trans HG0.out HGR.out⟩
  · have HW := Lib.hid hw
    rw [hw] at hs
    have HS := Lib.hid hs
    have HI : Hid (iceOf W H X L = (iceTo X L L.length : Int)) := by show _ = _; unfold iceOf; rw [if_pos hw]
    clear hs hw
    go_enter Try.func26, Try.ntmps26
    go_wp2_with fail
    generalize w.alloc (.cells #[.int .i64 W, .int .i64 H, .slice va vn vc] 50 (0, 0)) = W0 at *
    generalize w.heap.size = B at *
    go_loopw [5, 6] (fun s i wr => ∃ j : Nat, j ≤ un ∧ i = .int .i64 j ∧ s = .int .i64 (iceTo X L j) ∧ Hid (W0.grownBy wr none)) (fun _ i _ => un - (intOf i).toNat)
    case atStart => exact ⟨0, Nat.zero_le _, rfl, by rw [iceTo_0]; rfl, World.grownBy.refl _ _⟩
    case round =>
      rename_i _ _ wr
      obtain ⟨j, hj, rfl, rfl, HGR⟩ := hrel
      obtain ⟨c0, c1, c2⟩ := (HB0.out.grown HGR.out).three
      have hle := iceTo_le X L j
      by_cases hlt : j < un
      · have hjL : j < L.length := by rw [HUN.out]; exact hlt
        have hji : (j : Int) < (un : Int) := by omega
        have hnx := iceTo_next (X := X) hjL
        obtain ⟨hx0, hx1⟩ := cell_of HW.out hjL
        obtain ⟨x, hx⟩ : ∃ x, x = L.getD j 0 := ⟨_, rfl⟩
        rw [← hx] at hx0 hx1 hnx
        obtain ⟨k, rfl⟩ : ∃ k : Nat, x = k := ⟨x.toNat, by omega⟩
        have hkX : k < X.length := by omega
        have hkv : k < vn := by rw [← HVN.out]; exact hkX
        have hkvi : (k : Int) < (vn : Int) := by omega
        have hj0 : (0 : Int) ≤ (j : Int) := by omega
        have hk0 : (0 : Int) ≤ (k : Int) := by omega
        rw [Int.toNat_natCast] at hnx
        obtain ⟨y, hy⟩ : ∃ y, y = X.getD k 0 := ⟨_, rfl⟩
        rw [← hy] at hnx
        have HN := Lib.hid hnx
        have HX := Lib.hid hx
        have HY := Lib.hid hy
        clear hx hnx hy
        go_wp2_with fail
        refine (HS.out _ (HV0.out.grown HGR.out) (HU0.out.grown HGR.out)).mono ?_
        rintro e w2 ⟨rfl, hg⟩
        have HG2 := Lib.hid (grownN_trans HGR.out hg)
        have HG3 := Lib.hid (grownN_trans HG2.out (grown_drew (World.grownBy.refl w2 none)))
        obtain ⟨b, o, rfl, hcj⟩ := (HU0.out.grown HG3.out).at_row (j := j) hjL
        rw [← HX.out] at hcj
        obtain ⟨vb, vo, rfl, hck⟩ := (HV0.out.grown HG3.out).at_row (j := k) hkX
        rw [← HY.out] at hck
        have hc2 := (HB0.out.grown HG3.out).cell 2
        clear hg c0 c1 c2
        by_cases hy1 : y = 1
        · have HE : Hid (iceTo X L (j + 1) = iceTo X L j + 1) := by show _ = _; rw [HN.out, if_pos hy1]
          subst hy1
          go_wp2_with fail
          refine wp_region_held_drew (S := fun w' => w'.cell? ⟨b, o + j, none⟩ = some (.int .i64 (k : Int)) ∧ w'.cell? ⟨vb, vo + k, none⟩ = some (.int .i64 1) ∧ w'.cell? ⟨B, 2, none⟩ = some (.slice (some ⟨vb, vo, none⟩) vn vc)) (by kernel_rfl) ⟨hcj, hck, hc2⟩ (fun hHeld => ?_)
          refine wpAnyH_take (i := 0) (v := ?_) rfl (by kernel_rfl) (by kernel_rfl) (by kernel_rfl) (fun _ _ _ h => h) (Or.inl ⟨by rfl, ?_⟩) (by assumption) ?_; rotate_left; (focus (intro wS hSw; (try dsimp only at hSw); go_simp <;> with_reducible rfl)); (try simp only [Act.put, List.getElem_toArray, List.getElem_cons_succ, List.getElem_cons_zero, List.setIfInBounds_toArray, List.set_cons_zero, List.set_cons_succ])
          refine wpAnyH_take (i := 1) (v := ?_) rfl (by kernel_rfl) (by kernel_rfl) (by kernel_rfl) (fun _ _ _ h => h) (Or.inl ⟨by rfl, ?_⟩) (by assumption) ?_; rotate_left; (focus (intro wS hSw; (try dsimp only at hSw); go_simp <;> with_reducible rfl)); (try simp only [Act.put, List.getElem_toArray, List.getElem_cons_succ, List.getElem_cons_zero, List.setIfInBounds_toArray, List.set_cons_zero, List.set_cons_succ])
          refine wpAnyH_take (i := 2) (v := ?_) rfl (by kernel_rfl) (by kernel_rfl) (by kernel_rfl) (fun _ _ _ h => h) (Or.inl ⟨by rfl, ?_⟩) (by assumption) ?_; rotate_left; (focus (intro wS hSw; (try dsimp only at hSw); go_simp <;> with_reducible rfl)); (try simp only [Act.put, List.getElem_toArray, List.getElem_cons_succ, List.getElem_cons_zero, List.setIfInBounds_toArray, List.set_cons_zero, List.set_cons_succ])
          refine wpAnyH_take (i := 3) (v := ?_) rfl (by kernel_rfl) (by kernel_rfl) (by kernel_rfl) (fun _ _ _ h => h) (Or.inl ⟨by rfl, ?_⟩) (by assumption) ?_; rotate_left; (focus (intro wS hSw; (try dsimp only at hSw); go_simp <;> with_reducible rfl)); (try simp only [Act.put, List.getElem_toArray, List.getElem_cons_succ, List.getElem_cons_zero, List.setIfInBounds_toArray, List.set_cons_zero, List.set_cons_succ])
          refine wpAnyH_take (i := 4) (v := ?_) rfl (by kernel_rfl) (by kernel_rfl) (by kernel_rfl) (fun _ _ _ h => h) (Or.inl ⟨by rfl, ?_⟩) (by assumption) ?_; rotate_left; (focus (intro wS hSw; (try dsimp only at hSw); go_simp <;> with_reducible rfl)); (try simp only [Act.put, List.getElem_toArray, List.getElem_cons_succ, List.getElem_cons_zero, List.setIfInBounds_toArray, List.set_cons_zero, List.set_cons_succ])
          refine wpAnyH_take (i := 5) (v := ?_) rfl (by kernel_rfl) (by kernel_rfl) (by kernel_rfl) (fun _ _ _ h => h) (Or.inl ⟨by rfl, ?_⟩) (by assumption) ?_; rotate_left; (focus (intro wS hSw; (try dsimp only at hSw); go_simp <;> with_reducible rfl)); (try simp only [Act.put, List.getElem_toArray, List.getElem_cons_succ, List.getElem_cons_zero, List.setIfInBounds_toArray, List.set_cons_zero, List.set_cons_succ])
          refine wpAnyH_take (i := 6) (v := ?_) rfl (by kernel_rfl) (by kernel_rfl) (by kernel_rfl) (fun _ _ _ h => h) (Or.inl ⟨by rfl, ?_⟩) (by assumption) ?_; rotate_left; (focus (intro wS hSw; (try dsimp only at hSw); go_simp <;> with_reducible rfl)); (try simp only [Act.put, List.getElem_toArray, List.getElem_cons_succ, List.getElem_cons_zero, List.setIfInBounds_toArray, List.set_cons_zero, List.set_cons_succ])
          refine wpAnyH_take (i := 7) (v := ?_) rfl (by kernel_rfl) (by kernel_rfl) (by kernel_rfl) (fun _ _ _ h => h) (Or.inl ⟨by rfl, ?_⟩) (by assumption) ?_; rotate_left; (focus (intro wS hSw; (try dsimp only at hSw); go_simp <;> with_reducible rfl)); (try simp only [Act.put, List.getElem_toArray, List.getElem_cons_succ, List.getElem_cons_zero, List.setIfInBounds_toArray, List.set_cons_zero, List.set_cons_succ])
          refine wpAnyH_take (i := 8) (v := ?_) rfl (by kernel_rfl) (by kernel_rfl) (by kernel_rfl) (fun _ _ _ h => h) (Or.inl ⟨by rfl, ?_⟩) (by assumption) ?_; rotate_left; (focus (intro wS hSw; (try dsimp only at hSw); go_simp <;> with_reducible rfl)); (try simp only [Act.put, List.getElem_toArray, List.getElem_cons_succ, List.getElem_cons_zero, List.setIfInBounds_toArray, List.set_cons_zero, List.set_cons_succ])
          refine wpAnyH_done (by kernel_rfl) ?_ _
          (try simp only [Act.put, List.getElem_toArray, List.getElem_cons_succ, List.getElem_cons_zero, List.setIfInBounds_toArray, List.set_cons_zero, List.set_cons_succ])
          go_wp2
          go_roundw
          case rel => exact ⟨j + 1, by omega, by go_num, by rw [HE.out]; go_num, HG3⟩
          case measure => simp [intOf]; omega
        · have HE : Hid (iceTo X L (j + 1) = iceTo X L j) := by show _ = _; rw [HN.out, if_neg hy1]; rfl
          have hyb : (y == 1) = false := by simpa using hy1
          go_wp2_with fail
          refine wp_region_held_drew (S := fun w' => w'.cell? ⟨b, o + j, none⟩ = some (.int .i64 (k : Int)) ∧ w'.cell? ⟨vb, vo + k, none⟩ = some (.int .i64 y) ∧ w'.cell? ⟨B, 2, none⟩ = some (.slice (some ⟨vb, vo, none⟩) vn vc)) (by kernel_rfl) ⟨hcj, hck, hc2⟩ (fun hHeld => ?_)
          refine wpAnyH_take (i := 0) (v := ?_) rfl (by kernel_rfl) (by kernel_rfl) (by kernel_rfl) (fun _ _ _ h => h) (Or.inl ⟨by rfl, ?_⟩) (by assumption) ?_; rotate_left; (focus (intro wS hSw; (try dsimp only at hSw); go_simp <;> with_reducible rfl)); (try simp only [Act.put, List.getElem_toArray, List.getElem_cons_succ, List.getElem_cons_zero, List.setIfInBounds_toArray, List.set_cons_zero, List.set_cons_succ])
          refine wpAnyH_take (i := 1) (v := ?_) rfl (by kernel_rfl) (by kernel_rfl) (by kernel_rfl) (fun _ _ _ h => h) (Or.inl ⟨by rfl, ?_⟩) (by assumption) ?_; rotate_left; (focus (intro wS hSw; (try dsimp only at hSw); go_simp <;> with_reducible rfl)); (try simp only [Act.put, List.getElem_toArray, List.getElem_cons_succ, List.getElem_cons_zero, List.setIfInBounds_toArray, List.set_cons_zero, List.set_cons_succ])
          refine wpAnyH_take (i := 2) (v := ?_) rfl (by kernel_rfl) (by kernel_rfl) (by kernel_rfl) (fun _ _ _ h => h) (Or.inl ⟨by rfl, ?_⟩) (by assumption) ?_; rotate_left; (focus (intro wS hSw; (try dsimp only at hSw); go_simp <;> with_reducible rfl)); (try simp only [Act.put, List.getElem_toArray, List.getElem_cons_succ, List.getElem_cons_zero, List.setIfInBounds_toArray, List.set_cons_zero, List.set_cons_succ])
          refine wpAnyH_take (i := 3) (v := ?_) rfl (by kernel_rfl) (by kernel_rfl) (by kernel_rfl) (fun _ _ _ h => h) (Or.inl ⟨by rfl, ?_⟩) (by assumption) ?_; rotate_left; (focus (intro wS hSw; (try dsimp only at hSw); go_simp <;> with_reducible rfl)); (try simp only [Act.put, List.getElem_toArray, List.getElem_cons_succ, List.getElem_cons_zero, List.setIfInBounds_toArray, List.set_cons_zero, List.set_cons_succ])
          refine wpAnyH_take (i := 4) (v := ?_) rfl (by kernel_rfl) (by kernel_rfl) (by kernel_rfl) (fun _ _ _ h => h) (Or.inl ⟨by rfl, ?_⟩) (by assumption) ?_; rotate_left; (focus (intro wS hSw; (try dsimp only at hSw); go_simp <;> with_reducible rfl)); (try simp only [Act.put, List.getElem_toArray, List.getElem_cons_succ, List.getElem_cons_zero, List.setIfInBounds_toArray, List.set_cons_zero, List.set_cons_succ])
          refine wpAnyH_take (i := 5) (v := ?_) rfl (by kernel_rfl) (by kernel_rfl) (by kernel_rfl) (fun _ _ _ h => h) (Or.inl ⟨by rfl, ?_⟩) (by assumption) ?_; rotate_left; (focus (intro wS hSw; (try dsimp only at hSw); go_simp <;> with_reducible rfl)); (try simp only [Act.put, List.getElem_toArray, List.getElem_cons_succ, List.getElem_cons_zero, List.setIfInBounds_toArray, List.set_cons_zero, List.set_cons_succ])
          refine wpAnyH_take (i := 6) (v := ?_) rfl (by kernel_rfl) (by kernel_rfl) (by kernel_rfl) (fun _ _ _ h => h) (Or.inl ⟨by rfl, ?_⟩) (by assumption) ?_; rotate_left; (focus (intro wS hSw; (try dsimp only at hSw); go_simp <;> with_reducible rfl)); (try simp only [Act.put, List.getElem_toArray, List.getElem_cons_succ, List.getElem_cons_zero, List.setIfInBounds_toArray, List.set_cons_zero, List.set_cons_succ])
          refine wpAnyH_take (i := 7) (v := ?_) rfl (by kernel_rfl) (by kernel_rfl) (by kernel_rfl) (fun _ _ _ h => h) (Or.inl ⟨by rfl, ?_⟩) (by assumption) ?_; rotate_left; (focus (intro wS hSw; (try dsimp only at hSw); go_simp <;> with_reducible rfl)); (try simp only [Act.put, List.getElem_toArray, List.getElem_cons_succ, List.getElem_cons_zero, List.setIfInBounds_toArray, List.set_cons_zero, List.set_cons_succ])
          refine wpAnyH_take (i := 8) (v := ?_) rfl (by kernel_rfl) (by kernel_rfl) (by kernel_rfl) (fun _ _ _ h => h) (Or.inl ⟨by rfl, ?_⟩) (by assumption) ?_; rotate_left; (focus (intro wS hSw; (try dsimp only at hSw); go_simp <;> with_reducible rfl)); (try simp only [Act.put, List.getElem_toArray, List.getElem_cons_succ, List.getElem_cons_zero, List.setIfInBounds_toArray, List.set_cons_zero, List.set_cons_succ])
          refine wpAnyH_done (by kernel_rfl) ?_ _
          (try simp only [Act.put, List.getElem_toArray, List.getElem_cons_succ, List.getElem_cons_zero, List.setIfInBounds_toArray, List.set_cons_zero, List.set_cons_succ])
          go_wp2
          go_roundw
          case rel => exact ⟨j + 1, by omega, by go_num, by rw [HE.out], HG3⟩
          case measure => simp [intOf]; omega
      · have hjn : j = un := by omega
        subst hjn
        go_wp2
        go_ret
        exact ⟨ret_i64 (by rw [HI.out, HUN.out]), grownN_trans HG0.out HGR.out⟩
end Go.Proofs.Ytfcjbkagofccdaa.Ice

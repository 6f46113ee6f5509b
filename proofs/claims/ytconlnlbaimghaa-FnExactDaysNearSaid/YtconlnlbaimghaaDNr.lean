/- Contracts of how many days one was near a cell, of the program and of its model. -/
import Derived.Test.YtconlnlbaimghaaApartS
import Derived.Test.YtconlnlbaimghaaApartI
import Derived.Test.YtconlnlbaimghaaRow4
import Derived.IntWalk
import Derived.WalkKit
import Derived.Deep.RegionHeld3
namespace Go.Proofs.Ytconlnlbaimghaa.DNr
open Go.RowKit Kit Rw Rg Ld

theorem mx_comm (a b : Int) : mx (a - b) (b - a) = mx (b - a) (a - b) := by
  unfold mx
  split <;> split <;> omega
theorem apart_sym (W H : Int) (X : List Int) (a b : Int) : apart W H X a b = apart W H X b a := by
  unfold apart
  by_cases h : isCell W H X a = true ∧ isCell W H X b = true
  · rw [if_pos h, if_pos ⟨h.2, h.1⟩, mx_comm (a % W) (b % W), mx_comm (a / W) (b / W)]
  · rw [if_neg h, if_neg (fun e => h ⟨e.2, e.1⟩)]
def near (a f : Int) : Bool := decide (0 ≤ a) && decide (a ≤ f)
noncomputable def nearN (W H : Int) (X : List Int) (c f : Int) (L : List I4) : Nat → Int
  | 0 => 0
  | j + 1 => if near (apart W H X c (L.getD j zI4).x1) f = true then nearN W H X c f L j + 1 else nearN W H X c f L j
theorem near_yes {W H : Int} {X : List Int} {c f : Int} {L : List I4} {j : Nat} (h : near (apart W H X c (L.getD j zI4).x1) f = true) : nearN W H X c f L (j + 1) = nearN W H X c f L j + 1 := if_pos h
theorem near_no {W H : Int} {X : List Int} {c f : Int} {L : List I4} {j : Nat} (h : near (apart W H X c (L.getD j zI4).x1) f = false) : nearN W H X c f L (j + 1) = nearN W H X c f L j := if_neg (by rw [h]; simp)
theorem near_bd (W H : Int) (X : List Int) (c f : Int) (L : List I4) : ∀ j, 0 ≤ nearN W H X c f L j ∧ nearN W H X c f L j ≤ j
  | 0 => ⟨Int.le_refl _, Int.le_refl _⟩
  | j + 1 => by have := near_bd W H X c f L j; unfold nearN; split <;> omega

set_option maxHeartbeats 1000000 in
theorem inRange_any (n l h : Int) (w : World) :
    Calls Try.prog 52 #[.int .i64 n, .int .i64 l, .int .i64 h] w fun e w' => e = .returned (.bool (decide (l ≤ n) && decide (n ≤ h))) ∧ w = w' := by
  by_cases h1 : l ≤ n
  · go_enter Try.func52, Try.ntmps52
    go_wp2
    go_ret
    exact ⟨by simp [h1], rfl⟩
  · go_enter Try.func52, Try.ntmps52
    go_wp2
    go_ret
    exact ⟨by simp; omega, rfl⟩

set_option maxRecDepth 20000 in
set_option maxHeartbeats 2000000 in
theorem sNear_any (w : World) (W H c f : Int) (v u : Value) (X : List Int) (L : List I4) (hv : Sees .i64 w v X) (hu : SeesG enc4 w u L) :
    Calls Try.prog 31 #[.agg #[.int .i64 W, .int .i64 H, v], u, .int .i64 c, .int .i64 f] w fun e w' => e = .returned (.int .i64 (nearN W H X c f L L.length)) ∧ w.grownBy w' none := by
  have hl := hu.len
  obtain ⟨va, vn, vc, hvv, HVN⟩ := hv.shape
  subst hvv
  have HV := Lib.hid hv
  have HU := Lib.hid hu
  have HG0 := Lib.hid (World.grownBy_alloc w (.cells #[.int .i64 W, .int .i64 H, .slice va vn vc] 38 (0, 0)) none)
  have HB0 := Lib.hid (box_new w #[.int .i64 W, .int .i64 H, .slice va vn vc] 38)
  have hap := fun w' (x : Int) hx => LandS.sApart_any w' W H c x (.slice va vn vc) X hx
  have HAP := Lib.hid hap
  obtain ⟨a, cap, rfl, _⟩ := hu
  clear hv hap
  go_enter Try.func31, Try.ntmps31
  go_wp2
  generalize w.alloc (.cells #[.int .i64 W, .int .i64 H, .slice va vn vc] 38 (0, 0)) = W1 at *
  go_loopw [9, 10] (fun s i wr => ∃ j : Nat, j ≤ L.length ∧ i = .int .i64 j ∧ s = .int .i64 (nearN W H X c f L j) ∧ Hid (W1.grownBy wr none)) (fun _ i _ => L.length - (intOf i).toNat)
  case atStart => exact ⟨0, Nat.zero_le _, rfl, rfl, World.grownBy.refl _ _⟩
  case round =>
    rename_i _ _ wr
    obtain ⟨j, hj, rfl, rfl, HG⟩ := hrel
    have hb := near_bd W H X c f L j
    obtain ⟨s, hs⟩ : ∃ s, s = nearN W H X c f L j := ⟨_, rfl⟩
    rw [← hs] at hb ⊢
    have HS := Lib.hid hs
    clear hs
    by_cases hlt : j < L.length
    · have HG4 := Lib.hid (grownN_trans HG.out (grown_drew (World.grownBy.refl wr none)))
      have hltI : (j : Int) < (L.length : Int) := by omega
      have hj0 : (0 : Int) ≤ (j : Int) := by omega
      obtain ⟨b, o, rfl, _, _⟩ := HU.out.at_row hlt
      obtain ⟨x, hx⟩ : ∃ x, x = (L.getD j zI4).x1 := ⟨_, rfl⟩
      have hD := fun w' (hg : W1.grownBy w' none) => And.intro (And.intro ((HB0.out.grown hg).cell 0) (And.intro ((HB0.out.grown hg).cell 1) ((HB0.out.grown hg).cell 2))) (at4_in HU.out (grownN_trans HG0.out hg) hlt rfl).2.1
      rw [← hx] at hD
      have HD := Lib.hid hD
      obtain ⟨z, hz⟩ : ∃ z, z = apart W H X c x := ⟨_, rfl⟩
      have HZ := Lib.hid hz
      have hn1 : near z f = true → nearN W H X c f L (j + 1) = s + 1 := fun h => by rw [near_yes (by rw [← hx, ← hz]; exact h), HS.out]
      have hn0 : near z f = false → nearN W H X c f L (j + 1) = s := fun h => by rw [near_no (by rw [← hx, ← hz]; exact h), HS.out]
      have HN1 := Lib.hid hn1
      have HN0 := Lib.hid hn0
      clear hD hx hz hn1 hn0
      go_wp2_with fail
      refine wp_region_held_drew (S := fun w' => (w'.cell? ⟨w.heap.size, 0, none⟩ = some (.int .i64 W) ∧ w'.cell? ⟨w.heap.size, 1, none⟩ = some (.int .i64 H) ∧ w'.cell? ⟨w.heap.size, 2, none⟩ = some (.slice va vn vc)) ∧ w'.cell? ⟨b, o + j * 4 + 1, none⟩ = some (.int .i64 x)) (by kernel_rfl) (HD.out _ HG4.out) (fun hHeld => ?_)
      refine wpAnyH_take (i := 0) (v := ?_) rfl (by kernel_rfl) (by kernel_rfl) (by kernel_rfl) (fun _ _ _ h => h) (Or.inl ⟨by rfl, ?_⟩) (by assumption) ?_; rotate_left; (focus (intro wS hSw; (try dsimp only at hSw); go_simp <;> with_reducible rfl)); (try simp only [Act.put, List.getElem_toArray, List.getElem_cons_succ, List.getElem_cons_zero, List.setIfInBounds_toArray, List.set_cons_zero, List.set_cons_succ])
      refine wpAnyH_take (i := 1) (v := ?_) rfl (by kernel_rfl) (by kernel_rfl) (by kernel_rfl) (fun _ _ _ h => h) (Or.inl ⟨by rfl, ?_⟩) (by assumption) ?_; rotate_left; (focus (intro wS hSw; (try dsimp only at hSw); go_simp <;> with_reducible rfl)); (try simp only [Act.put, List.getElem_toArray, List.getElem_cons_succ, List.getElem_cons_zero, List.setIfInBounds_toArray, List.set_cons_zero, List.set_cons_succ])
      refine wpAnyH_take (i := 2) (v := ?_) rfl (by kernel_rfl) (by kernel_rfl) (by kernel_rfl) (fun _ _ _ h => h) (Or.inl ⟨by rfl, ?_⟩) (by assumption) ?_; rotate_left; (focus (intro wS hSw; (try dsimp only at hSw); go_simp <;> with_reducible rfl)); (try simp only [Act.put, List.getElem_toArray, List.getElem_cons_succ, List.getElem_cons_zero, List.setIfInBounds_toArray, List.set_cons_zero, List.set_cons_succ])
      refine wpAnyH_take (i := 3) (v := ?_) rfl (by kernel_rfl) (by kernel_rfl) (by kernel_rfl) (fun _ _ _ h => h) (Or.inl ⟨by rfl, ?_⟩) (by assumption) ?_; rotate_left; (focus (intro wS hSw; (try dsimp only at hSw); go_simp <;> with_reducible rfl)); (try simp only [Act.put, List.getElem_toArray, List.getElem_cons_succ, List.getElem_cons_zero, List.setIfInBounds_toArray, List.set_cons_zero, List.set_cons_succ])
      refine wpAnyH_take (i := 4) (v := ?_) rfl (by kernel_rfl) (by kernel_rfl) (by kernel_rfl) (fun _ _ _ h => h) (Or.inl ⟨by rfl, ?_⟩) (by assumption) ?_; rotate_left; (focus (intro wS hSw; (try dsimp only at hSw); go_simp <;> with_reducible rfl)); (try simp only [Act.put, List.getElem_toArray, List.getElem_cons_succ, List.getElem_cons_zero, List.setIfInBounds_toArray, List.set_cons_zero, List.set_cons_succ])
      refine wpAnyH_take (i := 5) (v := ?_) rfl (by kernel_rfl) (by kernel_rfl) (by kernel_rfl) (fun _ _ _ h => h) (Or.inl ⟨by rfl, ?_⟩) (by assumption) ?_; rotate_left; (focus (intro wS hSw; (try dsimp only at hSw); go_simp <;> with_reducible rfl)); (try simp only [Act.put, List.getElem_toArray, List.getElem_cons_succ, List.getElem_cons_zero, List.setIfInBounds_toArray, List.set_cons_zero, List.set_cons_succ])
      refine wpAnyH_take (i := 6) (v := ?_) rfl (by kernel_rfl) (by kernel_rfl) (by kernel_rfl) (fun _ _ _ h => h) (Or.inl ⟨by rfl, ?_⟩) (by assumption) ?_; rotate_left; (focus (intro wS hSw; (try dsimp only at hSw); go_simp <;> with_reducible rfl)); (try simp only [Act.put, List.getElem_toArray, List.getElem_cons_succ, List.getElem_cons_zero, List.setIfInBounds_toArray, List.set_cons_zero, List.set_cons_succ])
      refine wpAnyH_ready (rs := [7]) (by kernel_rfl) (by simp) ?_; refine AllReadyH.cons rfl (fun K hK => ?_) AllReadyH.nil; go_simp; (go_at_call 46; refine (HAP.out _ x (HV.out.grown (grownN_trans HG0.out HG4.out))).mono ?_; rintro e w5 ⟨rfl, hg5⟩; rw [← HZ.out]; have HG5 := Lib.hid (grownN_trans HG4.out hg5); clear hg5)
      refine hK.out _ _ ?_ (fun hHeld => ?_)
      · exact HD.out _ HG5.out
      clear hK K
      (try simp only [Act.put, List.getElem_toArray, List.getElem_cons_succ, List.getElem_cons_zero, List.setIfInBounds_toArray, List.set_cons_zero, List.set_cons_succ])
      refine wpAnyH_take (i := 8) (v := ?_) rfl (by kernel_rfl) (by kernel_rfl) (by kernel_rfl) (fun _ _ _ h => h) (Or.inl ⟨by rfl, ?_⟩) (by assumption) ?_; rotate_left; (focus (intro wS hSw; (try dsimp only at hSw); go_simp <;> with_reducible rfl)); (try simp only [Act.put, List.getElem_toArray, List.getElem_cons_succ, List.getElem_cons_zero, List.setIfInBounds_toArray, List.set_cons_zero, List.set_cons_succ])
      refine wpAnyH_done (by kernel_rfl) ?_ _
      (try simp only [Act.put, List.getElem_toArray, List.getElem_cons_succ, List.getElem_cons_zero, List.setIfInBounds_toArray, List.set_cons_zero, List.set_cons_succ])
      by_cases h0 : 0 ≤ z
      · by_cases h1 : z ≤ f
        · have HN : Hid (nearN W H X c f L (j + 1) = s + 1) := HN1.out (by simp [near, h0, h1])
          go_wp2
          go_roundw
          case rel => exact ⟨j + 1, by omega, by go_num, by rw [HN.out], HG5⟩
          case measure => simp [intOf]; omega
        · have HN : Hid (nearN W H X c f L (j + 1) = s) := HN0.out (by simp [near, h0, h1])
          go_wp2
          go_roundw
          case rel => exact ⟨j + 1, by omega, by go_num, by rw [HN.out], HG5⟩
          case measure => simp [intOf]; omega
      · have HN : Hid (nearN W H X c f L (j + 1) = s) := HN0.out (by simp [near, h0])
        go_wp2
        go_roundw
        case rel => exact ⟨j + 1, by omega, by go_num, by rw [HN.out], HG5⟩
        case measure => simp [intOf]; omega
    · have : j = L.length := by omega
      subst this
      go_wp2
      go_ret
      exact ⟨ret_i64 HS.out, grownN_trans HG0.out HG.out⟩

/-- The three blocks that the closure reads. -/
structure Caps (w : World) (A B C : Nat) (W H : Int) (v : Value) (c f : Int) : Prop where
  land : Box w A #[.int .i64 W, .int .i64 H, v] 38
  cell : w.cell? ⟨B, 0, none⟩ = some (.int .i64 c)
  far : w.cell? ⟨C, 0, none⟩ = some (.int .i64 f)
theorem Caps.on {w w' : World} {A B C : Nat} {W H : Int} {v : Value} {c f : Int} (h : Caps w A B C W H v c f) (hg : w.grownBy w' none) : Caps w' A B C W H v c f := ⟨h.land.grown hg, hg.cell h.cell (by simp), hg.cell h.far (by simp)⟩
def step (s a f : Int) : Int := if near a f = true then s + 1 else s
theorem step_yes {s a f : Int} (h : near a f = true) : step s a f = s + 1 := if_pos h
theorem step_no {s a f : Int} (h : near a f = false) : step s a f = s := if_neg (by rw [h]; simp)

set_option maxRecDepth 20000 in
set_option maxHeartbeats 2000000 in
theorem one_any (w : World) (A B C : Nat) (W H c f s p0 p1 p2 p3 : Int) (v : Value) (X : List Int) (hv : Sees .i64 w v X) (hc : Caps w A B C W H v c f) (hs : 0 ≤ s ∧ s ≤ 9223372036854775806) :
    Calls Try.prog 51 #[.int .i64 s, .agg #[.int .i64 p0, .int .i64 p1, .int .i64 p2, .int .i64 p3], .pointer (some ⟨A, 0, none⟩), .pointer (some ⟨B, 0, none⟩), .pointer (some ⟨C, 0, none⟩)] w fun e w' => e = .returned (.int .i64 (step s (apart W H X p1 c) f)) ∧ w.grownBy w' none := by
  obtain ⟨va, vn, vc, hvv, HVN⟩ := hv.shape
  subst hvv
  have HG0 := Lib.hid (World.grownBy_alloc w (.cells #[.int .i64 p0, .int .i64 p1, .int .i64 p2, .int .i64 p3] 63 (0, 0)) none)
  have HB0 := Lib.hid (box_new w #[.int .i64 p0, .int .i64 p1, .int .i64 p2, .int .i64 p3] 63)
  have HV := Lib.hid hv
  have HC := Lib.hid hc
  have hap := fun w' hx => LandI.apart_any w' W H p1 c (.slice va vn vc) X hx
  obtain ⟨z, hz⟩ : ∃ z, z = apart W H X p1 c := ⟨_, rfl⟩
  rw [← hz] at hap ⊢
  have HAP := Lib.hid hap
  obtain ⟨q, hq⟩ : ∃ q, q = (decide (0 ≤ z) && decide (z ≤ f)) := ⟨_, rfl⟩
  have HQ := Lib.hid hq
  clear hv hap hz hc hq
  go_enter Try.func51, Try.ntmps51
  go_wp2_with fail
  generalize w.alloc (.cells #[.int .i64 p0, .int .i64 p1, .int .i64 p2, .int .i64 p3] 63 (0, 0)) = W1 at *
  have hD := fun w' (hg : W1.grownBy w' none) => And.intro (And.intro (((HC.out.on HG0.out).on hg).land.cell 0) (And.intro (((HC.out.on HG0.out).on hg).land.cell 1) (((HC.out.on HG0.out).on hg).land.cell 2))) (And.intro ((HC.out.on HG0.out).on hg).cell (And.intro ((HC.out.on HG0.out).on hg).far ((HB0.out.grown hg).cell 1)))
  have HD := Lib.hid hD
  have HG4 := Lib.hid (grown_drew (World.grownBy.refl W1 none))
  clear hD
  refine wp_region_held_drew (S := fun w' => (w'.cell? ⟨A, 0, none⟩ = some (.int .i64 W) ∧ w'.cell? ⟨A, 1, none⟩ = some (.int .i64 H) ∧ w'.cell? ⟨A, 2, none⟩ = some (.slice va vn vc)) ∧ (w'.cell? ⟨B, 0, none⟩ = some (.int .i64 c) ∧ w'.cell? ⟨C, 0, none⟩ = some (.int .i64 f) ∧ w'.cell? ⟨w.heap.size, 1, none⟩ = some (.int .i64 p1))) (by kernel_rfl) (HD.out _ HG4.out) (fun hHeld => ?_)
  refine wpAnyH_take (i := 0) (v := ?_) rfl (by kernel_rfl) (by kernel_rfl) (by kernel_rfl) (fun _ _ _ h => h) (Or.inl ⟨by rfl, ?_⟩) (by assumption) ?_; rotate_left; (focus (intro wS hSw; (try dsimp only at hSw); go_simp <;> with_reducible rfl)); (try simp only [Act.put, List.getElem_toArray, List.getElem_cons_succ, List.getElem_cons_zero, List.setIfInBounds_toArray, List.set_cons_zero, List.set_cons_succ])
  refine wpAnyH_take (i := 1) (v := ?_) rfl (by kernel_rfl) (by kernel_rfl) (by kernel_rfl) (fun _ _ _ h => h) (Or.inl ⟨by rfl, ?_⟩) (by assumption) ?_; rotate_left; (focus (intro wS hSw; (try dsimp only at hSw); go_simp <;> with_reducible rfl)); (try simp only [Act.put, List.getElem_toArray, List.getElem_cons_succ, List.getElem_cons_zero, List.setIfInBounds_toArray, List.set_cons_zero, List.set_cons_succ])
  refine wpAnyH_take (i := 2) (v := ?_) rfl (by kernel_rfl) (by kernel_rfl) (by kernel_rfl) (fun _ _ _ h => h) (Or.inl ⟨by rfl, ?_⟩) (by assumption) ?_; rotate_left; (focus (intro wS hSw; (try dsimp only at hSw); go_simp <;> with_reducible rfl)); (try simp only [Act.put, List.getElem_toArray, List.getElem_cons_succ, List.getElem_cons_zero, List.setIfInBounds_toArray, List.set_cons_zero, List.set_cons_succ])
  refine wpAnyH_take (i := 3) (v := ?_) rfl (by kernel_rfl) (by kernel_rfl) (by kernel_rfl) (fun _ _ _ h => h) (Or.inl ⟨by rfl, ?_⟩) (by assumption) ?_; rotate_left; (focus (intro wS hSw; (try dsimp only at hSw); go_simp <;> with_reducible rfl)); (try simp only [Act.put, List.getElem_toArray, List.getElem_cons_succ, List.getElem_cons_zero, List.setIfInBounds_toArray, List.set_cons_zero, List.set_cons_succ])
  refine wpAnyH_take (i := 5) (v := ?_) rfl (by kernel_rfl) (by kernel_rfl) (by kernel_rfl) (fun _ _ _ h => h) (Or.inl ⟨by rfl, ?_⟩) (by assumption) ?_; rotate_left; (focus (intro wS hSw; (try dsimp only at hSw); go_simp <;> with_reducible rfl)); (try simp only [Act.put, List.getElem_toArray, List.getElem_cons_succ, List.getElem_cons_zero, List.setIfInBounds_toArray, List.set_cons_zero, List.set_cons_succ])
  refine wpAnyH_ready (rs := [4]) (by kernel_rfl) (by simp) ?_; refine AllReadyH.cons rfl (fun K hK => ?_) AllReadyH.nil; go_simp; (go_at_call 49; refine (HAP.out _ (HV.out.grown (grownN_trans HG0.out HG4.out))).mono ?_; rintro e w5 ⟨rfl, hg5⟩; have HG5 := Lib.hid (grownN_trans HG4.out hg5); clear hg5)
  refine hK.out _ _ ?_ (fun hHeld => ?_)
  · exact HD.out _ HG5.out
  clear hK K
  (try simp only [Act.put, List.getElem_toArray, List.getElem_cons_succ, List.getElem_cons_zero, List.setIfInBounds_toArray, List.set_cons_zero, List.set_cons_succ])
  refine wpAnyH_ready (rs := [6]) (by kernel_rfl) (by simp) ?_; refine AllReadyH.cons rfl (fun K hK => ?_) AllReadyH.nil; go_simp; (go_at_call 52; refine (inRange_any z 0 f _).mono ?_; rintro e w6 ⟨rfl, rfl⟩; rw [← HQ.out])
  refine hK.out _ _ ?_ (fun hHeld => ?_)
  · exact HD.out _ HG5.out
  clear hK K
  (try simp only [Act.put, List.getElem_toArray, List.getElem_cons_succ, List.getElem_cons_zero, List.setIfInBounds_toArray, List.set_cons_zero, List.set_cons_succ])
  refine wpAnyH_done (by kernel_rfl) ?_ _
  (try simp only [Act.put, List.getElem_toArray, List.getElem_cons_succ, List.getElem_cons_zero, List.setIfInBounds_toArray, List.set_cons_zero, List.set_cons_succ])
  cases q
  · have HN : Hid (step s z f = s) := step_no HQ.out.symm
    go_wp2
    go_ret
    exact ⟨ret_i64 HN.out.symm, grownN_trans HG0.out HG5.out⟩
  · have HN : Hid (step s z f = s + 1) := step_yes HQ.out.symm
    go_wp2
    go_ret
    exact ⟨ret_i64 HN.out.symm, grownN_trans HG0.out HG5.out⟩

set_option maxRecDepth 20000 in
set_option maxHeartbeats 2000000 in
theorem fold_any (w : World) (A B C : Nat) (W H c f : Int) (v u : Value) (X : List Int) (L : List I4) (hv : Sees .i64 w v X) (hu : SeesG enc4 w u L) (hc : Caps w A B C W H v c f) :
    Calls Try.prog 50 #[u, .int .i64 0, .func (.func 51) #[] #[.pointer (some ⟨A, 0, none⟩), .pointer (some ⟨B, 0, none⟩), .pointer (some ⟨C, 0, none⟩)]] w fun e w' => e = .returned (.int .i64 (nearN W H X c f L L.length)) ∧ w.grownBy w' none := by
  have hl := hu.len
  have HV := Lib.hid hv
  have HU := Lib.hid hu
  have HC := Lib.hid hc
  obtain ⟨a, cap, rfl, _⟩ := hu
  clear hv hc
  go_enter Try.func50, Try.ntmps50
  go_wp2
  go_loopw [1, 11] (fun s i wr => ∃ j : Nat, j ≤ L.length ∧ i = .int .i64 j ∧ s = .int .i64 (nearN W H X c f L j) ∧ Hid (w.grownBy wr none)) (fun _ i _ => L.length - (intOf i).toNat)
  case atStart => exact ⟨0, Nat.zero_le _, rfl, rfl, World.grownBy.refl _ _⟩
  case round =>
    rename_i _ _ wr
    obtain ⟨j, hj, rfl, rfl, HG⟩ := hrel
    have hb := near_bd W H X c f L j
    obtain ⟨s, hs⟩ : ∃ s, s = nearN W H X c f L j := ⟨_, rfl⟩
    rw [← hs] at hb ⊢
    have HS := Lib.hid hs
    clear hs
    by_cases hlt : j < L.length
    · obtain ⟨b, o, rfl, _, _⟩ := HU.out.at_row hlt
      obtain ⟨x, hx⟩ : ∃ x, L.getD j zI4 = x := ⟨_, rfl⟩
      obtain ⟨d0, d1, d2, d3⟩ := at4_in HU.out HG.out hlt hx
      have HX := Lib.hid hx
      clear hx
      obtain ⟨x0, x1, x2, x3⟩ := x
      dsimp only at d0 d1 d2 d3
      have HG2 := Lib.hid (World.grownBy_alloc wr (.cells #[.int .i64 x0, .int .i64 x1, .int .i64 x2, .int .i64 x3] 63 (0, 0)) none)
      have HN : Hid (step s (apart W H X x1 c) f = nearN W H X c f L (j + 1)) := by
        show _ = _
        rw [apart_sym]
        cases h : near (apart W H X c x1) f
        · rw [step_no h, near_no (by rw [HX.out]; exact h), HS.out]
        · rw [step_yes h, near_yes (by rw [HX.out]; exact h), HS.out]
      go_wp2_with fail
      refine (one_any _ A B C W H c f s x0 x1 x2 x3 v X (HV.out.grown (grownN_trans HG.out HG2.out)) (HC.out.on (grownN_trans HG.out HG2.out)) (by omega)).mono ?_
      rintro e w5 ⟨rfl, hg⟩
      rw [HN.out]
      have HG5 := Lib.hid (grownN_trans (grownN_trans HG.out HG2.out) hg)
      clear hg
      go_wp2
      go_roundw
      case rel => exact ⟨j + 1, by omega, by go_num, rfl, HG5⟩
      case measure => simp [intOf]; omega
    · have : j = L.length := by omega
      subst this
      go_wp2
      go_ret
      exact ⟨ret_i64 HS.out, HG.out⟩

set_option maxRecDepth 20000 in
set_option maxHeartbeats 2000000 in
theorem iNear_any (w : World) (W H c f : Int) (v u : Value) (X : List Int) (L : List I4) (hv : Sees .i64 w v X) (hu : SeesG enc4 w u L) :
    Calls Try.prog 32 #[.agg #[.int .i64 W, .int .i64 H, v], u, .int .i64 c, .int .i64 f] w fun e w' => e = .returned (.int .i64 (nearN W H X c f L L.length)) ∧ w.grownBy w' none := by
  have hmf : ∀ (fn : Fn) (first cap : Array Value) (w : World), (Instr.makeFunc fn first cap).run Try.prog w = .ok (.func fn first cap) w := fun _ _ _ _ => rfl
  obtain ⟨ua, un, uc, huu, HUN⟩ := hu.shape
  subst huu
  have g0 := World.grownBy_alloc w (.cells #[.int .i64 W, .int .i64 H, v] 38 (0, 0)) (none : Option Nat)
  have g1 := World.grownBy_alloc (w.alloc (.cells #[.int .i64 W, .int .i64 H, v] 38 (0, 0))) (.cells #[.int .i64 c] 3 (0, 0)) (none : Option Nat)
  have g2 := World.grownBy_alloc ((w.alloc (.cells #[.int .i64 W, .int .i64 H, v] 38 (0, 0))).alloc (.cells #[.int .i64 c] 3 (0, 0))) (.cells #[.int .i64 f] 3 (0, 0)) (none : Option Nat)
  have b0 := ((box_new w #[.int .i64 W, .int .i64 H, v] 38).grown g1).grown g2
  have b1 := (box_new (w.alloc (.cells #[.int .i64 W, .int .i64 H, v] 38 (0, 0))) #[.int .i64 c] 3).grown g2
  have b2 := box_new ((w.alloc (.cells #[.int .i64 W, .int .i64 H, v] 38 (0, 0))).alloc (.cells #[.int .i64 c] 3 (0, 0))) #[.int .i64 f] 3
  simp only [World.size_alloc] at b1 b2
  have HG := Lib.hid (grownN_trans (grownN_trans g0 g1) g2)
  have HCALL := Lib.hid (fold_any _ w.heap.size (w.heap.size + 1) (w.heap.size + 1 + 1) W H c f v (.slice ua un uc) X L (hv.grown HG.out) (hu.grown HG.out) ⟨b0, b1.cell 0, b2.cell 0⟩)
  clear hv hu g0 g1 g2 b0 b1 b2
  go_enter Try.func32, Try.ntmps32
  go_wp2_with fail
  refine HCALL.out.mono ?_
  rintro e w2 ⟨rfl, hg⟩
  have HG2 := Lib.hid (grownN_trans HG.out hg)
  clear hg
  go_wp2
  go_ret
  exact ⟨rfl, HG2.out⟩
end Go.Proofs.Ytconlnlbaimghaa.DNr
